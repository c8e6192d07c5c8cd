package tests

import (
	"bytes"
	"go/ast"
	"go/format"
	"go/parser"
	"go/token"
	"os"
	"path/filepath"
	"strings"
	"testing"
)

const allowedImports = ` "bytes" "cmp" "container/heap" "errors" "iter" "maps" "math" "math/bits" "slices" "sort" "strconv" "strings" "sync" "sync/atomic" "unicode" "unicode/utf8" `

// TestLanguage checks the rules of ../shared/LANGUAGE.md that the text of the program alone shows.
func TestLanguage(t *testing.T) {
	files, err := filepath.Glob("../impl/*.go")
	if err != nil || len(files) == 0 {
		t.Fatal("no files of the program:", err)
	}
	for _, name := range files {
		source, err := os.ReadFile(name)
		if err != nil {
			t.Fatal(err)
		}
		if laid, err := format.Source(source); err != nil || !bytes.Equal(laid, source) {
			t.Error(name, "is not in gofmt's layout", err)
		}
		if bytes.Contains(source, []byte("//go:")) {
			t.Error(name, "has a directive")
		}
		set := token.NewFileSet()
		file, err := parser.ParseFile(set, name, source, 0)
		if err != nil {
			t.Fatal(err)
		}
		for _, i := range file.Imports {
			if !strings.Contains(allowedImports, " "+i.Path.Value+" ") {
				t.Error(name, "imports", i.Path.Value)
			}
		}
		for _, d := range file.Decls {
			f, ok := d.(*ast.FuncDecl)
			if ok && set.Position(f.End()).Line-set.Position(f.Pos()).Line >= 60 {
				t.Error(name, f.Name.Name, "has more than 60 lines")
			}
		}
	}
}
