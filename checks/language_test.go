package checks

import (
	"bytes"
	"go/ast"
	"go/format"
	"go/parser"
	"go/token"
	"io/fs"
	"os"
	"path/filepath"
	"slices"
	"strconv"
	"strings"
	"testing"
)

const (
	library   = "bytes cmp container/heap errors iter maps math math/bits slices sort strconv strings sync sync/atomic unicode unicode/utf8"
	longest   = 60 // lines of a function
	laidAside = "sharedtests"
)

// goFiles: the paths of the project's own Go files.
func goFiles(t *testing.T) []string {
	t.Helper()
	var out []string
	err := filepath.WalkDir("..", func(path string, d fs.DirEntry, err error) error {
		switch {
		case err != nil:
			return err
		case d.IsDir() && (d.Name() == laidAside || d.Name() == ".git"):
			return filepath.SkipDir
		case strings.HasSuffix(path, ".go"):
			out = append(out, path)
		}
		return nil
	})
	if err != nil || len(out) == 0 {
		t.Fatal(len(out), err)
	}
	return out
}

// Every file has gofmt's layout; the program's files, tests aside, keep to its language.
func TestLanguage(t *testing.T) {
	for _, path := range goFiles(t) {
		text, err := os.ReadFile(path)
		if err != nil {
			t.Fatal(err)
		}
		if laid, err := format.Source(text); err != nil || !bytes.Equal(laid, text) {
			t.Errorf("%s: not in gofmt's layout, %v", path, err)
		}
		if !strings.HasSuffix(path, "_test.go") {
			keepsToLanguage(t, path, text)
		}
	}
}

func keepsToLanguage(t *testing.T, path string, text []byte) {
	t.Helper()
	set := token.NewFileSet()
	file, err := parser.ParseFile(set, path, text, parser.ParseComments)
	if err != nil {
		t.Fatal(err)
	}
	for _, i := range file.Imports {
		name, err := strconv.Unquote(i.Path.Value)
		if err != nil || i.Name != nil && i.Name.Name == "." || !strings.HasPrefix(name, "nurserypy/") && !slices.Contains(strings.Fields(library), name) {
			t.Errorf("%s: imports %s", path, i.Path.Value)
		}
	}
	for _, g := range file.Comments {
		for _, c := range g.List {
			if strings.HasPrefix(c.Text, "//go:") || strings.HasPrefix(c.Text, "// +build") {
				t.Errorf("%s: %s", path, c.Text)
			}
		}
	}
	for _, d := range file.Decls {
		f, ok := d.(*ast.FuncDecl)
		if ok && set.Position(f.End()).Line-set.Position(f.Pos()).Line >= longest {
			t.Errorf("%s: %s is longer than %d lines", path, f.Name.Name, longest)
		}
	}
}
