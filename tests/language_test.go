package tests

import (
	"bytes"
	"go/ast"
	"go/format"
	"go/parser"
	"go/token"
	"os"
	"path/filepath"
	"strings"
	"testing"
)

const mayBeImported = " bytes cmp container/heap errors iter maps math math/big math/bits slices sort strconv strings sync sync/atomic unicode unicode/utf8 "

// The program keeps to the language page, as far as its text shows it.
func TestProgramKeepsToItsLanguage(t *testing.T) {
	files, err := filepath.Glob("../impl/*.go")
	if err != nil || len(files) == 0 {
		t.Fatal("no program", err)
	}
	for _, path := range files {
		source, err := os.ReadFile(path)
		if err != nil {
			t.Fatal(err)
		}
		laidOut, err := format.Source(source)
		if err != nil || !bytes.Equal(laidOut, source) {
			t.Errorf("%s: not in gofmt's layout (%v)", path, err)
		}
		if bytes.Contains(source, []byte("//go:")) || bytes.Contains(source, []byte("// +build")) {
			t.Errorf("%s: a line for the compiler", path)
		}
		lookAtFile(t, path, source)
	}
}

func lookAtFile(t *testing.T, path string, source []byte) {
	places := token.NewFileSet()
	file, err := parser.ParseFile(places, path, source, 0)
	if err != nil {
		t.Fatal(err)
	}
	for _, i := range file.Imports {
		if !strings.Contains(mayBeImported, " "+strings.Trim(i.Path.Value, `"`)+" ") {
			t.Errorf("%s: imports %s", path, i.Path.Value)
		}
	}
	for _, d := range file.Decls {
		if f, ok := d.(*ast.FuncDecl); ok {
			if lines := places.Position(f.End()).Line - places.Position(f.Pos()).Line + 1; lines > 60 {
				t.Errorf("%s: %s has %d lines", path, f.Name.Name, lines)
			}
		}
	}
}
