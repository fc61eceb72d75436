package tests

import (
	"bytes"
	"go/ast"
	"go/format"
	"go/parser"
	"go/token"
	"os"
	"path/filepath"
	"strconv"
	"strings"
	"testing"
)

// allowedImports are those of rule 1 of ../shared/LANGUAGE.md.
const allowedImports = " bytes cmp container/heap errors iter maps math math/bits slices sort strconv strings sync sync/atomic unicode unicode/utf8 "

func sourceFiles(t *testing.T, pattern string) map[string][]byte {
	t.Helper()
	paths, err := filepath.Glob(pattern)
	if err != nil || len(paths) == 0 {
		t.Fatal("no files ", pattern, err)
	}
	files := map[string][]byte{}
	for _, path := range paths {
		if files[path], err = os.ReadFile(path); err != nil {
			t.Fatal(err)
		}
	}
	return files
}

func TestRuleLayout(t *testing.T) {
	for _, pattern := range []string{"../impl/*.go", "*.go"} {
		for path, text := range sourceFiles(t, pattern) {
			if formatted, err := format.Source(text); err != nil || !bytes.Equal(formatted, text) {
				t.Errorf("%s has not the layout of gofmt: %v", path, err)
			}
		}
	}
}

func TestRuleImportsAndLengths(t *testing.T) {
	for path, text := range sourceFiles(t, "../impl/*.go") {
		files := token.NewFileSet()
		file, err := parser.ParseFile(files, path, text, parser.ParseComments)
		if err != nil {
			t.Fatal(err)
		}
		for _, spec := range file.Imports {
			name, _ := strconv.Unquote(spec.Path.Value)
			if !strings.Contains(allowedImports, " "+name+" ") {
				t.Errorf("%s imports %s", path, name)
			}
		}
		for _, group := range file.Comments {
			for _, comment := range group.List {
				if strings.HasPrefix(comment.Text, "//go:") || strings.HasPrefix(comment.Text, "// +build") {
					t.Errorf("%s has the directive %s", path, comment.Text)
				}
			}
		}
		for _, decl := range file.Decls {
			f, ok := decl.(*ast.FuncDecl)
			if ok && files.Position(f.End()).Line-files.Position(f.Pos()).Line >= 60 {
				t.Errorf("%s: the function %s has more than 60 lines", path, f.Name.Name)
			}
		}
	}
}
