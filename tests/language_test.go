package tests

import (
	"bytes"
	"go/ast"
	"go/format"
	"go/parser"
	"go/token"
	"os"
	"path/filepath"
	"slices"
	"strings"
	"testing"
)

// allowedImports are the packages that the language of the program has.
var allowedImports = []string{"bytes", "cmp", "container/heap", "errors", "iter", "maps", "math", "math/bits", "slices", "sort", "strconv", "strings", "sync", "sync/atomic", "unicode", "unicode/utf8"}

// TestLanguage checks what can be seen in the files: layout, imports, directives and the length of functions.
func TestLanguage(t *testing.T) {
	names, err := filepath.Glob("../impl/*")
	if err != nil || len(names) != 18 {
		t.Fatalf("%d files in impl, want one for each layer (%v)", len(names), err)
	}
	for _, name := range names {
		text, err := os.ReadFile(name)
		if err != nil {
			t.Fatal(err)
		}
		if nice, err := format.Source(text); err != nil || !bytes.Equal(nice, text) {
			t.Errorf("%s has not the layout of gofmt (%v)", name, err)
		}
		set := token.NewFileSet()
		f, err := parser.ParseFile(set, name, text, parser.ParseComments)
		if err != nil {
			t.Fatal(err)
		}
		checkFile(t, name, set, f)
	}
}

func checkFile(t *testing.T, name string, set *token.FileSet, f *ast.File) {
	for _, i := range f.Imports {
		if path := strings.Trim(i.Path.Value, `"`); !slices.Contains(allowedImports, path) {
			t.Errorf("%s imports %s", name, path)
		}
	}
	for _, group := range f.Comments {
		for _, c := range group.List {
			if strings.HasPrefix(c.Text, "//go:") || strings.HasPrefix(c.Text, "// +build") {
				t.Errorf("%s has the directive %s", name, c.Text)
			}
		}
	}
	for _, d := range f.Decls {
		fn, ok := d.(*ast.FuncDecl)
		if !ok {
			continue
		}
		if lines := set.Position(fn.End()).Line - set.Position(fn.Pos()).Line + 1; lines > 60 {
			t.Errorf("%s: %s has %d lines", name, fn.Name.Name, lines)
		}
	}
}
