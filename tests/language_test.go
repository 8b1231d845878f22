package tests

import (
	"bytes"
	"go/ast"
	"go/format"
	"go/parser"
	"go/token"
	"os"
	"path/filepath"
	"strconv"
	"strings"
	"testing"
)

// maxLines is what the language page calls some 60 lines.
const maxLines = 64

// allowedImports are the packages of the library that the language page names.
const allowedImports = " bytes cmp container/heap errors iter maps math math/bits slices sort strconv strings sync sync/atomic unicode unicode/utf8 "

// TestLanguage looks for what the language page rules out, as far as the text of the program shows it.
func TestLanguage(t *testing.T) {
	files, err := filepath.Glob("../impl/*")
	if err != nil || len(files) == 0 {
		t.Fatal("no files of impl: ", err)
	}
	for _, file := range files {
		if !strings.HasSuffix(file, ".go") {
			t.Errorf("%s: no Go file", file)
			continue
		}
		text, err := os.ReadFile(file)
		if err != nil {
			t.Fatal(err)
		}
		laidOut, err := format.Source(text)
		if err != nil {
			t.Fatal(err)
		}
		if !bytes.Equal(laidOut, text) {
			t.Errorf("%s: not in gofmt's layout", file)
		}
		lookAtFile(t, file, text)
	}
}

func lookAtFile(t *testing.T, file string, text []byte) {
	fset := token.NewFileSet()
	f, err := parser.ParseFile(fset, file, text, parser.ParseComments)
	if err != nil {
		t.Fatal(err)
	}
	for _, i := range f.Imports {
		path, _ := strconv.Unquote(i.Path.Value)
		if !strings.Contains(allowedImports, " "+path+" ") {
			t.Errorf("%s imports %s", file, path)
		}
	}
	for _, group := range f.Comments {
		for _, c := range group.List {
			if strings.HasPrefix(c.Text, "//go:") || strings.HasPrefix(c.Text, "// +build") {
				t.Errorf("%s: %s", file, c.Text)
			}
		}
	}
	for _, d := range f.Decls {
		if fn, ok := d.(*ast.FuncDecl); ok {
			lines := fset.Position(fn.End()).Line - fset.Position(fn.Pos()).Line + 1
			if lines > maxLines {
				t.Errorf("%s: %s has %d lines", file, fn.Name.Name, lines)
			}
		}
	}
}
