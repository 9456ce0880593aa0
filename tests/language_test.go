package tests

import (
	"bytes"
	"go/ast"
	"go/format"
	"go/parser"
	"go/token"
	"os"
	"path/filepath"
	"slices"
	"strings"
	"testing"
)

const mayBeImported = " bytes cmp container/heap errors iter maps math math/big math/bits slices sort strconv strings sync sync/atomic unicode unicode/utf8 "

// The program keeps to the language page, as far as its text shows it.
func TestProgramKeepsToItsLanguage(t *testing.T) {
	files, err := filepath.Glob("../impl/*.go")
	if err != nil || len(files) == 0 {
		t.Fatal("no program", err)
	}
	for _, path := range files {
		source, err := os.ReadFile(path)
		if err != nil {
			t.Fatal(err)
		}
		laidOut, err := format.Source(source)
		if err != nil || !bytes.Equal(laidOut, source) {
			t.Errorf("%s: not in gofmt's layout (%v)", path, err)
		}
		if bytes.Contains(source, []byte("//go:")) || bytes.Contains(source, []byte("// +build")) {
			t.Errorf("%s: a line for the compiler", path)
		}
		lookAtFile(t, path, source)
	}
}

func lookAtFile(t *testing.T, path string, source []byte) {
	places := token.NewFileSet()
	file, err := parser.ParseFile(places, path, source, 0)
	if err != nil {
		t.Fatal(err)
	}
	for _, i := range file.Imports {
		if !strings.Contains(mayBeImported, " "+strings.Trim(i.Path.Value, `"`)+" ") {
			t.Errorf("%s: imports %s", path, i.Path.Value)
		}
	}
	lookAtMaps(t, path, file)
	for _, d := range file.Decls {
		switch d := d.(type) {
		case *ast.FuncDecl:
			if lines := places.Position(d.End()).Line - places.Position(d.Pos()).Line + 1; lines > 60 {
				t.Errorf("%s: %s has %d lines", path, d.Name.Name, lines)
			}
			lookAtWrites(t, path, d)
		case *ast.GenDecl:
			lookAtVariables(t, path, d)
		}
	}
}

// lookAtMaps: no map has bools or texts as values.
func lookAtMaps(t *testing.T, path string, file *ast.File) {
	ast.Inspect(file, func(n ast.Node) bool {
		if m, ok := n.(*ast.MapType); ok {
			if value, ok := m.Value.(*ast.Ident); ok && (value.Name == "bool" || value.Name == "string") {
				t.Errorf("%s: a map with values of type %s", path, value.Name)
			}
		}
		return true
	})
}

// filledByInit has the package-level variables that the document's chapter 'Ways' asks an init function to fill.
const filledByInit = " recForms runKinds "

// lookAtVariables: a package-level variable has its value where it is declared, unless an init function is to fill it.
func lookAtVariables(t *testing.T, path string, d *ast.GenDecl) {
	for _, spec := range d.Specs {
		v, ok := spec.(*ast.ValueSpec)
		if !ok || d.Tok != token.VAR {
			continue
		}
		for _, name := range v.Names {
			if filled := strings.Contains(filledByInit, " "+name.Name+" "); filled != (len(v.Values) == 0) {
				t.Errorf("%s: the variable %s stands with or without a value as it should not", path, name.Name)
			}
		}
	}
}

// isFilledByInit says whether this is such a variable, or one of its places.
func isFilledByInit(e ast.Expr) bool {
	if part, ok := e.(*ast.IndexExpr); ok {
		e = part.X
	}
	name, ok := e.(*ast.Ident)
	return ok && strings.Contains(filledByInit, " "+name.Name+" ")
}

// lookAtWrites: what init fills is written nowhere else, so that no call leaves anything behind in it.
func lookAtWrites(t *testing.T, path string, f *ast.FuncDecl) {
	if f.Name.Name == "init" {
		return
	}
	ast.Inspect(f, func(n ast.Node) bool {
		var written []ast.Expr
		switch n := n.(type) {
		case *ast.AssignStmt:
			written = n.Lhs
		case *ast.CallExpr: // clear and delete, or what may call these
			written = n.Args
		case *ast.UnaryExpr: // what has its address may write into it
			if n.Op == token.AND {
				written = []ast.Expr{n.X}
			}
		case *ast.SliceExpr:
			written = []ast.Expr{n.X}
		}
		if slices.ContainsFunc(written, isFilledByInit) {
			t.Errorf("%s: %s may write into what init fills", path, f.Name.Name)
		}
		return true
	})
}

// What init fills is filled there once, and looked up elsewhere: no such variable stands there for nothing.
func TestWhatInitFillsIsReadElsewhere(t *testing.T) {
	files, err := filepath.Glob("../impl/*.go")
	if err != nil {
		t.Fatal(err)
	}
	filled, read := map[string]int{}, map[string]int{}
	for _, path := range files {
		file, err := parser.ParseFile(token.NewFileSet(), path, nil, 0)
		if err != nil {
			t.Fatal(err)
		}
		for _, d := range file.Decls {
			f, ok := d.(*ast.FuncDecl)
			if !ok {
				continue
			}
			ast.Inspect(f, func(n ast.Node) bool {
				switch n := n.(type) {
				case *ast.AssignStmt:
					if name, ok := n.Lhs[0].(*ast.Ident); ok && f.Name.Name == "init" {
						filled[name.Name]++
					}
				case *ast.IndexExpr:
					if name, ok := n.X.(*ast.Ident); ok && f.Name.Name != "init" {
						read[name.Name]++
					}
				}
				return true
			})
		}
	}
	for _, name := range strings.Fields(filledByInit) {
		if filled[name] != 1 || read[name] == 0 {
			t.Errorf("%s is filled %d times by init, and read at %d places elsewhere", name, filled[name], read[name])
		}
	}
}
