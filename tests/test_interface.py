"""Each name of the interface stands in the file under which DOC.md lists it."""

import ast
import importlib
import pathlib
import unittest

INTERFACE = {
    "sharetime.errors": [
        "ShareError", "BadShare", "BadName", "Twice", "NoTeam", "NoName",
        "NotHand", "NotEmpty", "BadCount", "NoDeed",
    ],
    "sharetime.steps": ["ROUND", "MOST", "step"],
}


def names_defined_in(module):
    """The names that the file itself defines at its top; imported ones are left out."""
    names = []
    for row in ast.parse(pathlib.Path(module.__file__).read_text()).body:
        if isinstance(row, (ast.FunctionDef, ast.ClassDef)):
            names.append(row.name)
        elif isinstance(row, ast.Assign):
            names.extend(target.id for target in row.targets)
    return names


class InterfaceTest(unittest.TestCase):
    def test_each_name_is_defined_in_its_own_file(self):
        for where, names in INTERFACE.items():
            defined = names_defined_in(importlib.import_module(where))
            for name in names:
                with self.subTest(file=where, name=name):
                    self.assertIn(name, defined)


if __name__ == "__main__":
    unittest.main()
