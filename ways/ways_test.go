// Package ways holds the program's sources against the rules of how it is to be written.
package ways

import (
	"go/ast"
	"go/format"
	"go/parser"
	"go/token"
	"os"
	"path/filepath"
	"strings"
	"testing"
)

const longest = 60

// allowed are the packages of the library that the program may import.
const allowed = " bytes cmp container/heap errors iter maps math math/bits slices sort strconv strings sync sync/atomic unicode unicode/utf8 "

// wanted says which ways of the language each package leans on.
var wanted = map[string][]string{
	"diag":    {"errors.Is(", "errors.As(", "Unwrap()"},
	"syntax":  {"errors.Is(", "errors.As(", "diag.Wrap("},
	"word":    {"fallthrough"},
	"lex":     {"fallthrough"},
	"print":   {"fallthrough"},
	"typing":  {"fallthrough"},
	"block":   {"fallthrough"},
	"mean":    {"fallthrough"},
	"op":      {"fallthrough"},
	"image":   {"diag.New("},
	"gen":     {"fallthrough"},
	"flow":    {"fallthrough"},
	"verify":  {"errors.Is(", "errors.As("},
	"vm":      {"fallthrough"},
	"compile": {"errors.Is(", "errors.As(", "diag.Wrap("},
}

// sources are the texts of the program's files, by their paths.
func sources(t *testing.T) map[string]string {
	t.Helper()
	files, err := filepath.Glob("../*/*.go")
	if err != nil {
		t.Fatal(err)
	}
	texts := map[string]string{}
	for _, file := range files {
		if strings.HasSuffix(file, "_test.go") {
			continue
		}
		text, err := os.ReadFile(file)
		if err != nil {
			t.Fatal(err)
		}
		texts[file] = string(text)
	}
	return texts
}

func TestWays(t *testing.T) {
	whole := map[string]string{}
	for file, text := range sources(t) {
		whole[filepath.Base(filepath.Dir(file))] += text
	}
	for name, words := range wanted {
		if strings.Contains(whole[name], "is told in the chapter") {
			continue
		}
		for _, word := range words {
			if !strings.Contains(whole[name], word) {
				t.Errorf("package %s: no %s", name, word)
			}
		}
	}
}

func TestRules(t *testing.T) {
	for file, text := range sources(t) {
		set := token.NewFileSet()
		tree, err := parser.ParseFile(set, file, text, parser.ParseComments)
		if err != nil {
			t.Fatal(err)
		}
		if laid, err := format.Source([]byte(text)); err != nil || string(laid) != text {
			t.Errorf("%s: not gofmt's layout", file)
		}
		for _, i := range tree.Imports {
			path := strings.Trim(i.Path.Value, `"`)
			if !strings.HasPrefix(path, "governor/") && !strings.Contains(allowed, " "+path+" ") {
				t.Errorf("%s: imports %s", file, path)
			}
		}
		for _, d := range tree.Decls {
			decl(t, set, file, d)
		}
		ast.Inspect(tree, func(n ast.Node) bool {
			if m, ok := n.(*ast.MapType); ok {
				if v, ok := m.Value.(*ast.Ident); ok && (v.Name == "bool" || v.Name == "string") {
					t.Errorf("%s: a map of %s", set.Position(m.Pos()), v.Name)
				}
			}
			return true
		})
	}
}

func decl(t *testing.T, set *token.FileSet, file string, d ast.Decl) {
	switch d := d.(type) {
	case *ast.FuncDecl:
		lines := set.Position(d.End()).Line - set.Position(d.Pos()).Line + 1
		if lines > longest {
			t.Errorf("%s: %s has %d lines", file, d.Name.Name, lines)
		}
		ast.Inspect(d, func(n ast.Node) bool {
			if _, ok := n.(*ast.TypeAssertExpr); ok && d.Name.IsExported() {
				t.Errorf("%s: %s asserts a type", file, d.Name.Name)
			}
			return true
		})
	case *ast.GenDecl:
		if d.Tok == token.VAR {
			variable(t, set, d)
		}
	}
}

// variable finds package-level variables that are neither tables nor errors of one text.
func variable(t *testing.T, set *token.FileSet, d *ast.GenDecl) {
	for _, s := range d.Specs {
		for _, v := range s.(*ast.ValueSpec).Values {
			switch v := v.(type) {
			case *ast.CallExpr:
				if f, ok := v.Fun.(*ast.SelectorExpr); ok && f.Sel.Name == "New" {
					continue
				}
			case *ast.CompositeLit:
				if _, ok := v.Type.(*ast.ArrayType); ok {
					continue
				}
			}
			t.Errorf("%s: a variable of a package", set.Position(s.Pos()))
		}
		if len(s.(*ast.ValueSpec).Values) == 0 {
			t.Errorf("%s: a variable without a value", set.Position(s.Pos()))
		}
	}
}
