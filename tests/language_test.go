package tests

import (
	"bytes"
	"go/ast"
	"go/format"
	"go/parser"
	"go/token"
	"os"
	"path/filepath"
	"strings"
	"testing"
)

// allowedImports are the packages that ../shared/LANGUAGE.md permits to the program.
const allowedImports = " bytes cmp container/heap errors iter maps math math/bits slices sort strconv strings sync sync/atomic unicode unicode/utf8 "

const longestFunction = 60

func filesOf(t *testing.T, folder string) []string {
	t.Helper()
	files, err := filepath.Glob(filepath.Join("..", folder, "*.go"))
	if err != nil || len(files) == 0 {
		t.Fatal(folder, err)
	}
	return files
}

func TestLayout(t *testing.T) {
	for _, file := range append(filesOf(t, "impl"), filesOf(t, "tests")...) {
		text, err := os.ReadFile(file)
		if err != nil {
			t.Fatal(err)
		}
		if want, err := format.Source(text); err != nil || !bytes.Equal(text, want) {
			t.Error(file, "has not gofmt's layout", err)
		}
	}
}

func TestLanguage(t *testing.T) {
	files := token.NewFileSet()
	for _, name := range filesOf(t, "impl") {
		f, err := parser.ParseFile(files, name, nil, parser.ParseComments|parser.SkipObjectResolution)
		if err != nil {
			t.Fatal(err)
		}
		for _, i := range f.Imports {
			if !strings.Contains(allowedImports, " "+strings.Trim(i.Path.Value, `"`)+" ") {
				t.Error(name, "imports", i.Path.Value)
			}
		}
		for _, group := range f.Comments {
			for _, c := range group.List {
				if strings.HasPrefix(c.Text, "//go:") || strings.HasPrefix(c.Text, "// +build") {
					t.Error(name, "has a directive", c.Text)
				}
			}
		}
		checkLengths(t, files, f)
	}
}

func checkLengths(t *testing.T, files *token.FileSet, f *ast.File) {
	for _, d := range f.Decls {
		x, ok := d.(*ast.FuncDecl)
		if !ok {
			continue
		}
		lines := files.Position(x.End()).Line - files.Position(x.Pos()).Line + 1
		if lines > longestFunction {
			t.Error(files.Position(x.Pos()), x.Name.Name, "has", lines, "lines")
		}
	}
}
