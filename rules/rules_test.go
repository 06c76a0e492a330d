// Package rules holds the program's own text against the form that its language has.
package rules

import (
	"bytes"
	"go/ast"
	"go/format"
	"go/parser"
	"go/token"
	"os"
	"path/filepath"
	"strconv"
	"strings"
	"testing"
)

const allowed = " bytes cmp container/heap errors iter maps math math/bits slices sort strconv strings sync sync/atomic unicode unicode/utf8 "

// longest is how many lines a function may have.
const longest = 60

const packages = "octet cal leap scale era packet agree slew ntp hlc frame disk wal rec chain store wire stream net vec lease token node world causal trace tool anew"

func sources(t *testing.T) []string {
	t.Helper()
	var all []string
	for _, p := range strings.Fields(packages) {
		l, err := filepath.Glob("../" + p + "/*.go")
		if err != nil || len(l) == 0 {
			t.Fatal("no sources of", p, err)
		}
		all = append(all, l...)
	}
	return all
}

func TestLayout(t *testing.T) {
	for _, name := range sources(t) {
		text, err := os.ReadFile(name)
		if err != nil {
			t.Fatal(err)
		}
		good, err := format.Source(text)
		if err != nil || !bytes.Equal(good, text) {
			t.Error(name, "is not laid out by gofmt", err)
		}
	}
}

func TestForm(t *testing.T) {
	for _, name := range sources(t) {
		if strings.HasSuffix(name, "_test.go") {
			continue
		}
		fset := token.NewFileSet()
		f, err := parser.ParseFile(fset, name, nil, parser.ParseComments)
		if err != nil {
			t.Fatal(err)
		}
		for _, i := range f.Imports {
			path, _ := strconv.Unquote(i.Path.Value)
			if !strings.HasPrefix(path, "meridian/") && !strings.Contains(allowed, " "+path+" ") {
				t.Error(name, "imports", path)
			}
		}
		for _, g := range f.Comments {
			for _, c := range g.List {
				if strings.HasPrefix(c.Text, "//go:") || strings.HasPrefix(c.Text, "// +build") {
					t.Error(name, c.Text)
				}
			}
		}
		for _, d := range f.Decls {
			x, ok := d.(*ast.FuncDecl)
			if !ok {
				continue
			}
			if n := fset.Position(x.End()).Line - fset.Position(x.Pos()).Line + 1; n > longest {
				t.Error(name, x.Name.Name, "has so many lines:", n)
			}
		}
	}
}
