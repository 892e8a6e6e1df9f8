package tests

import (
	"bytes"
	"go/ast"
	"go/format"
	"go/parser"
	"go/token"
	"os"
	"path/filepath"
	"slices"
	"strconv"
	"testing"
)

// allowedImports are those of the program's language; its own package imports none of the project.
var allowedImports = []string{"bytes", "cmp", "container/heap", "errors", "iter", "maps", "math", "math/bits", "slices", "sort", "strconv", "strings", "sync", "sync/atomic", "unicode", "unicode/utf8"}

const longestFunction = 60

func TestProgramKeepsToItsLanguage(t *testing.T) {
	paths, err := filepath.Glob("../impl/*.go")
	if err != nil || len(paths) == 0 {
		t.Fatal(paths, err)
	}
	for _, path := range paths {
		source, err := os.ReadFile(path)
		if err != nil {
			t.Fatal(err)
		}
		if laidOut, err := format.Source(source); err != nil || !bytes.Equal(laidOut, source) {
			t.Errorf("%s: not in gofmt's layout: %v", path, err)
		}
		places := token.NewFileSet()
		file, err := parser.ParseFile(places, path, source, parser.SkipObjectResolution)
		if err != nil {
			t.Fatal(err)
		}
		for _, i := range file.Imports {
			if name, _ := strconv.Unquote(i.Path.Value); !slices.Contains(allowedImports, name) {
				t.Errorf("%s: imports %s", path, i.Path.Value)
			}
		}
		for _, d := range file.Decls {
			if f, ok := d.(*ast.FuncDecl); ok {
				if lines := places.Position(f.End()).Line - places.Position(f.Pos()).Line + 1; lines > longestFunction {
					t.Errorf("%s: %s has %d lines", path, f.Name.Name, lines)
				}
			}
		}
	}
}
