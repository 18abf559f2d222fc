"""Tests of the package as a whole: its files keep the bounds of the language, and README.md tells the truth."""

import ast
import builtins
import doctest
import pathlib
import unittest

TOP = pathlib.Path(__file__).resolve().parent.parent
PACKAGE = TOP / "bytebridge"

# What the interface lists under each file, besides the errors.
INTERFACE = {
    "numbers.py": ["word_size", "code_of", "number_of", "store", "fetch", "bits_at"],
    "layouts.py": ["members", "sizes"],
    "messages.py": ["first_invalid", "write_message", "facts_of", "check_byte"],
    "patterns.py": ["whole", "single", "belongs", "how_many", "only", "with_member"],
    "reading.py": ["possible", "read_message", "certain", "Reader"],
    "writing.py": ["determined", "blockers", "Composer"],
    "linking.py": ["Bridge"],
    "reports.py": ["narrowed", "lost", "filled"],
    "converting.py": ["sent_after", "convert", "arrivals", "Converter", "stream"],
    "chains.py": ["point_value", "best", "chain", "sum_chain", "multiple_chain"],
    "delays.py": ["profile", "start_delay", "dry_at", "late_message"],
    "tokens.py": ["tokens_of"],
    "source.py": ["read_layout"],
    "printer.py": ["show_layout"],
    "views.py": ["View"],
    "machine.py": ["flaw", "Machine"],
    "plans.py": ["compiled", "folded"],
}

# What the interface lists for each class, besides its attributes.
METHODS = {
    "Reader": ["take", "received"],
    "Composer": ["put", "take", "blockers", "taken"],
    "Bridge": ["is_convertible", "converted", "transferred"],
    "Converter": ["take", "received", "sent"],
    "View": ["__getitem__", "__setitem__", "__len__", "__iter__", "__contains__", "content", "poke"],
    "Machine": ["take", "received", "sent"],
}


# Calls that the language wants to be iterated on the spot, and the calls that do so with their first argument.
LAZY = ["range", "zip", "enumerate", "reversed"]
ITERATING = ["list", "tuple", "dict", "sorted", "sum", "any", "all", "enumerate", "zip", "min", "max"]


def sources():
    return sorted(PACKAGE.rglob("*.py"))


def called_name(node):
    """The name of the function that is called, or None."""
    if isinstance(node, ast.Call) and isinstance(node.func, ast.Name):
        return node.func.id
    return None


def iterated_by(node):
    """The list of the expressions that a node iterates over on the spot."""
    if isinstance(node, (ast.For, ast.comprehension)):
        return [node.iter]
    return node.args[:1] if called_name(node) in ITERATING else []


class FilesTest(unittest.TestCase):
    def test_the_package_contains_python_files_only(self):
        others = [path for path in PACKAGE.rglob("*") if path.is_file() and path.suffix != ".py"]
        self.assertEqual([path for path in others if path.parent.name != "__pycache__"], [])
        self.assertIn(PACKAGE / "__init__.py", sources())

    def test_files_lines_and_functions_are_short_and_plain(self):
        for path in sources():
            text = path.read_text(encoding="utf-8")
            lines = text.splitlines()
            with self.subTest(file=path.name):
                self.assertLess(len(lines), 400)
                self.assertLessEqual(max([len(line) for line in lines]), 120)
                self.assertEqual([c for c in text if c != "\n" and not " " <= c <= "~"], [])
                for node in ast.walk(ast.parse(text)):
                    if isinstance(node, ast.FunctionDef):
                        self.assertLessEqual(node.end_lineno - node.lineno + 1, 40, node.name)

    def test_imports_name_the_package_only(self):
        for path in sources():
            for node in ast.walk(ast.parse(path.read_text(encoding="utf-8"))):
                with self.subTest(file=path.name):
                    self.assertNotIsInstance(node, ast.Import)
                    if isinstance(node, ast.ImportFrom):
                        self.assertEqual((node.module.split(".")[0], node.level), ("bytebridge", 0))

    def test_ranges_and_their_kin_are_iterated_at_once(self):
        for path in sources():
            tree = ast.parse(path.read_text(encoding="utf-8"))
            at_once = [id(part) for node in ast.walk(tree) for part in iterated_by(node)]
            for node in ast.walk(tree):
                if called_name(node) in LAZY:
                    with self.subTest(file=path.name, line=node.lineno):
                        self.assertIn(id(node), at_once)

    def test_local_names_have_no_other_meaning(self):
        for path in sources():
            tree = ast.parse(path.read_text(encoding="utf-8"))
            taken = {alias.name for node in tree.body if isinstance(node, ast.ImportFrom) for alias in node.names}
            taken |= {node.name for node in tree.body if isinstance(node, ast.ClassDef)} | set(dir(builtins))
            for node in ast.walk(tree):
                if isinstance(node, (ast.FunctionDef, ast.Lambda)):
                    names = {arg.arg for arg in node.args.args + node.args.kwonlyargs}
                    names |= {part.id for part in ast.walk(node)
                              if isinstance(part, ast.Name) and isinstance(part.ctx, ast.Store)}
                    with self.subTest(file=path.name, line=node.lineno):
                        self.assertEqual(sorted(names & taken), [])

    def test_no_two_files_import_from_each_other(self):
        imported = {}
        for path in sources():
            tree = ast.parse(path.read_text(encoding="utf-8"))
            imported[path.stem] = {node.module.split(".")[1] for node in tree.body if isinstance(node, ast.ImportFrom)}
        while imported:
            free = [name for name, needed in imported.items() if not needed & set(imported)]
            self.assertNotEqual(free, [], imported)
            for name in free:
                del imported[name]

    def test_the_interface_is_defined_in_the_file_that_lists_it(self):
        for file, names in INTERFACE.items():
            tree = ast.parse((PACKAGE / file).read_text(encoding="utf-8"))
            defined = [node.name for node in tree.body if isinstance(node, (ast.FunctionDef, ast.ClassDef))]
            with self.subTest(file=file):
                self.assertEqual([name for name in names if name not in defined], [])

    def test_the_methods_of_the_interface_are_defined_in_the_class_itself(self):
        found = {}
        for path in sources():
            for node in ast.walk(ast.parse(path.read_text(encoding="utf-8"))):
                if isinstance(node, ast.ClassDef):
                    found[node.name] = [part.name for part in node.body if isinstance(part, ast.FunctionDef)]
        for name, methods in METHODS.items():
            with self.subTest(name=name):
                self.assertEqual([method for method in methods if method not in found[name]], [])


class ReadmeTest(unittest.TestCase):
    def test_the_examples_of_the_readme(self):
        result = doctest.testfile(str(TOP / "README.md"), module_relative=False)
        self.assertGreater(result.attempted, 0)
        self.assertEqual(result.failed, 0)


if __name__ == "__main__":
    unittest.main()
