"""Each name of the interface stands in the file under which DOC.md lists it."""

import ast
import importlib
import inspect
import pathlib
import unittest

INTERFACE = {
    "sharetime.errors": [
        "ShareError", "BadShare", "BadName", "Twice", "NoTeam", "NoName",
        "NotHand", "NotEmpty", "BadCount", "NoDeed",
    ],
    "sharetime.steps": ["ROUND", "MOST", "step"],
    "sharetime.wheel": ["Wheel"],
    "sharetime.house": ["House"],
    "sharetime.notes": ["shown", "read", "play"],
}

ARGUMENTS = {
    "sharetime.steps": {"step": ["share"]},
    "sharetime.notes": {"shown": ["deed"], "read": ["line"], "play": ["lines"]},
}

METHODS = {
    ("sharetime.wheel", "Wheel"): {
        "__init__": [], "enter": ["name", "share"], "leave": ["name"],
        "reshare": ["name", "share"], "wake": ["name"], "rest": ["name"], "turn": [],
        "whose": [], "names": [], "clock_of": ["name"], "share_of": ["name"],
        "is_ready": ["name"], "copied": [],
    },
    ("sharetime.house", "House"): {
        "__init__": [], "team": ["name", "above", "share"],
        "hand": ["name", "above", "share"], "leave": ["name"], "reshare": ["name", "share"],
        "wake": ["name"], "rest": ["name"], "deal": [], "coming": ["count"],
        "wheel_of": ["team"],
    },
}


def names_defined_in(module):
    """The names that the file itself defines at its top; imported ones are left out."""
    names = []
    for row in ast.parse(pathlib.Path(module.__file__).read_text()).body:
        if isinstance(row, (ast.FunctionDef, ast.ClassDef)):
            names.append(row.name)
        elif isinstance(row, ast.Assign):
            names.extend(target.id for target in row.targets)
    return names


class InterfaceTest(unittest.TestCase):
    def test_each_name_is_defined_in_its_own_file(self):
        for where, names in INTERFACE.items():
            defined = names_defined_in(importlib.import_module(where))
            for name in names:
                with self.subTest(file=where, name=name):
                    self.assertIn(name, defined)

    def test_each_function_takes_its_arguments(self):
        for where, functions in ARGUMENTS.items():
            for name, arguments in functions.items():
                with self.subTest(file=where, name=name):
                    function = getattr(importlib.import_module(where), name)
                    self.assertEqual(list(inspect.signature(function).parameters), arguments)

    def test_each_method_is_defined_in_its_class_and_takes_its_arguments(self):
        for (where, kind), methods in METHODS.items():
            here = vars(getattr(importlib.import_module(where), kind))
            for name, arguments in methods.items():
                with self.subTest(file=where, method=name):
                    self.assertIn(name, here)
                    parameters = list(inspect.signature(here[name]).parameters)
                    self.assertEqual(parameters[1:], arguments)

    def test_a_wheel_has_its_past_when_it_is_created(self):
        wheel = importlib.import_module("sharetime.wheel").Wheel()
        self.assertEqual(vars(wheel)["past"], 0)


if __name__ == "__main__":
    unittest.main()
