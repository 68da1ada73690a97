package given

import (
	"go/parser"
	"go/token"
	"path/filepath"
	"strconv"
	"strings"
	"testing"
)

const packages = "api plain row part data gone file list snap meta store scan txn pack expire lake script side"

const library = " bytes cmp container/heap errors iter maps math math/bits slices sort strconv strings sync sync/atomic unicode unicode/utf8 "

// The language's rule 1: of the library, few packages.
func TestImports(t *testing.T) {
	for _, name := range strings.Fields(packages) {
		paths, err := filepath.Glob(filepath.Join("..", name, "*.go"))
		if err != nil || len(paths) == 0 {
			t.Errorf("package %s is not there: %v", name, err)
		}
		for _, path := range paths {
			if !strings.HasSuffix(path, "_test.go") {
				checkImports(t, path)
			}
		}
	}
}

func checkImports(t *testing.T, path string) {
	t.Helper()
	f, err := parser.ParseFile(token.NewFileSet(), path, nil, parser.ImportsOnly)
	if err != nil {
		t.Fatal(err)
	}
	for _, im := range f.Imports {
		p, err := strconv.Unquote(im.Path.Value)
		if err != nil {
			t.Fatal(err)
		}
		if !strings.HasPrefix(p, "deedbox/") && !strings.Contains(library, " "+p+" ") {
			t.Errorf("%s imports %s", path, p)
		}
	}
}
