package tests

import (
	"bytes"
	"go/ast"
	"go/format"
	"go/parser"
	"go/token"
	"os"
	"path/filepath"
	"slices"
	"strconv"
	"strings"
	"testing"
)

// mayImport is what the program's language lets it import.
var mayImport = strings.Fields("bytes cmp container/heap errors iter maps math math/bits slices sort strconv strings sync sync/atomic unicode unicode/utf8")

const lineMost = 60

func TestProgramKeepsToItsLanguage(t *testing.T) {
	files, err := filepath.Glob("../impl/*")
	if err != nil || len(files) < 11 {
		t.Fatal(files, err)
	}
	for _, file := range files {
		text, err := os.ReadFile(file)
		if err != nil || !strings.HasSuffix(file, ".go") {
			t.Fatal(file, err)
		}
		if neat, err := format.Source(text); err != nil || !bytes.Equal(neat, text) {
			t.Errorf("%s is not laid out as gofmt does: %v", file, err)
		}
		set := token.NewFileSet()
		tree, err := parser.ParseFile(set, file, text, parser.ParseComments)
		if err != nil {
			t.Fatal(err)
		}
		checkFile(t, file, set, tree)
	}
}

func checkFile(t *testing.T, file string, set *token.FileSet, tree *ast.File) {
	for _, spec := range tree.Imports {
		if name, _ := strconv.Unquote(spec.Path.Value); !slices.Contains(mayImport, name) {
			t.Errorf("%s imports %s", file, name)
		}
	}
	for _, group := range tree.Comments {
		for _, c := range group.List {
			if strings.HasPrefix(c.Text, "//go:") || strings.HasPrefix(c.Text, "// +build") {
				t.Errorf("%s has the line %s", file, c.Text)
			}
		}
	}
	for _, decl := range tree.Decls {
		if f, ok := decl.(*ast.FuncDecl); ok {
			if lines := set.Position(f.End()).Line - set.Position(f.Pos()).Line + 1; lines > lineMost {
				t.Errorf("%s: %s has %d lines", file, f.Name.Name, lines)
			}
		}
	}
}
