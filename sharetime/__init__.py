"""Sharetime: turns dealt by shares, with clocks that go on by what each one had."""
