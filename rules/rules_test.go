// Package rules has only tests: they hold the sources of all packages against the rules of shared/LANGUAGE.md.
package rules

import (
	"bytes"
	"go/ast"
	"go/format"
	"go/parser"
	"go/token"
	"os"
	"path/filepath"
	"slices"
	"strconv"
	"strings"
	"testing"
)

// maxLines is the length of a function from which on it is too long.
const maxLines = 60

// file is a source file of a package.
type file struct {
	folder string
	path   string
	text   []byte
	files  *token.FileSet
	tree   *ast.File
}

// packages lists the folders of the program's packages.
func packages() []string {
	return []string{
		"api", "ratio", "date", "zone", "quantity", "deadline", "lexer", "parser", "printer", "include", "resolve", "typing", "lower",
		"contract", "trace", "system", "validate", "tally", "arena", "region", "strategy", "trap", "witness", "compose", "patch", "version", "merge", "migrate",
		"digest", "sign", "consent", "chain", "file", "receipt", "disclose", "consistent", "project", "monitor", "joint", "blame", "arbiter",
		"remedy", "netting", "cascade", "disk", "journal", "network", "house", "registry", "script",
	}
}

// imports lists the packages of the library that the program may import.
func imports() []string {
	return []string{
		"bytes", "cmp", "container/heap", "errors", "iter", "maps", "math", "math/bits", "slices", "sort", "strconv", "strings", "sync", "sync/atomic", "unicode", "unicode/utf8",
	}
}

// sources returns the Go files of all packages that are no tests.
func sources(t *testing.T) []file {
	var all []file
	for _, folder := range packages() {
		entries, err := os.ReadDir(filepath.Join("..", folder))
		if err != nil {
			t.Fatal(err)
		}
		for _, entry := range entries {
			if !strings.HasSuffix(entry.Name(), "_test.go") {
				all = append(all, read(t, folder, entry.Name()))
			}
		}
	}
	return all
}

// read returns a file of a folder, which must be a Go file.
func read(t *testing.T, folder, name string) file {
	path := filepath.Join("..", folder, name)
	if !strings.HasSuffix(name, ".go") {
		t.Fatal(path, "is no Go file")
	}
	text, err := os.ReadFile(path)
	if err != nil {
		t.Fatal(err)
	}
	files := token.NewFileSet()
	tree, err := parser.ParseFile(files, path, text, parser.ParseComments)
	if err != nil {
		t.Fatal(err)
	}
	return file{folder, path, text, files, tree}
}

func TestImports(t *testing.T) {
	permitted := imports()
	for _, folder := range packages() {
		permitted = append(permitted, "estoppel/"+folder)
	}
	for _, source := range sources(t) {
		for _, spec := range source.tree.Imports {
			path, err := strconv.Unquote(spec.Path.Value)
			if err != nil || !slices.Contains(permitted, path) {
				t.Error(source.path, "imports", spec.Path.Value)
			}
		}
	}
}

func TestLayout(t *testing.T) {
	for _, source := range sources(t) {
		if formatted, err := format.Source(source.text); err != nil || !bytes.Equal(formatted, source.text) {
			t.Error(source.path, "is not laid out by gofmt")
		}
		for _, group := range source.tree.Comments {
			for _, comment := range group.List {
				if strings.HasPrefix(comment.Text, "//go:") || strings.HasPrefix(comment.Text, "// +build") {
					t.Error(source.path, comment.Text)
				}
			}
		}
	}
}

func TestFunctions(t *testing.T) {
	for _, source := range sources(t) {
		ast.Inspect(source.tree, func(node ast.Node) bool {
			switch node := node.(type) {
			case *ast.FuncDecl:
				lines := source.files.Position(node.End()).Line - source.files.Position(node.Pos()).Line + 1
				if lines > maxLines || node.Recv == nil && node.Name.Name == "init" {
					t.Error(source.path, node.Name.Name, lines)
				}
			case *ast.CallExpr:
				if name, ok := node.Fun.(*ast.Ident); ok && (name.Name == "print" || name.Name == "println") {
					t.Error(source.path, "prints")
				}
			case *ast.SelectorExpr:
				if name, ok := node.X.(*ast.Ident); ok && name.Name == "iter" && strings.HasPrefix(node.Sel.Name, "Pull") {
					t.Error(source.path, "pulls")
				}
			}
			return true
		})
	}
}

// plain reports whether a value of the package level is written out, or an error with its text.
func plain(value ast.Expr) bool {
	written := true
	ast.Inspect(value, func(node ast.Node) bool {
		switch node := node.(type) {
		case *ast.CallExpr:
			called, ok := node.Fun.(*ast.SelectorExpr)
			written = written && ok && called.Sel.Name == "New"
		case *ast.FuncLit, *ast.MapType:
			written = false
		case *ast.UnaryExpr:
			written = written && node.Op != token.AND
		case *ast.BasicLit:
			written = written && node.Kind != token.FLOAT && node.Kind != token.IMAG
		}
		return written
	})
	return written
}

func TestPackageLevel(t *testing.T) {
	for _, source := range sources(t) {
		for _, declaration := range source.tree.Decls {
			group, ok := declaration.(*ast.GenDecl)
			if !ok || group.Tok != token.VAR {
				continue
			}
			for _, spec := range group.Specs {
				variable := spec.(*ast.ValueSpec)
				varied := slices.ContainsFunc(variable.Values, func(value ast.Expr) bool { return !plain(value) })
				if len(variable.Values) != len(variable.Names) || varied {
					t.Error(source.path, variable.Names[0].Name, "is no table of literals and no error")
				}
			}
		}
	}
}
