// Package rules holds the program's text against the rules that no compiler checks.
package rules

import (
	"bytes"
	"go/ast"
	"go/format"
	"go/parser"
	"go/token"
	"os"
	"path/filepath"
	"slices"
	"strconv"
	"strings"
	"testing"
)

const longest = 60 // lines of a function

// layers tells for each package which others of the project it may call.
func layers() map[string]string {
	return map[string]string{
		"api":    "",
		"num":    "api",
		"civil":  "api",
		"clock":  "api num",
		"dec":    "api num",
		"word":   "api num",
		"line":   "api",
		"when":   "api civil word clock",
		"src":    "api line when word clock",
		"fire":   "api civil when src",
		"comp":   "api when src fire",
		"foot":   "api when fire comp",
		"zone":   "api fire foot comp",
		"names":  "api word src comp zone",
		"blob":   "api src comp zone",
		"day":    "api num civil",
		"span":   "api num",
		"stamp":  "api num zone comp day span",
		"read":   "api num civil clock word zone names comp day span stamp",
		"show":   "api clock dec zone comp day span stamp",
		"ops":    "api num civil dec word zone comp day span stamp show",
		"series": "api zone comp day span stamp",
		"expr":   "api word",
		"kind":   "api expr",
		"sess":   "api num dec word names comp day span stamp read show ops series expr kind",
	}
}

// library is the packages that the program may import beside its own.
func library() []string {
	return []string{"bytes", "cmp", "container/heap", "errors", "iter", "maps", "math", "math/bits", "slices", "sort",
		"strconv", "strings", "sync", "sync/atomic", "unicode", "unicode/utf8"}
}

// file is one of the program's files, tests left out.
type file struct {
	layer, path string
	text        []byte
	tree        *ast.File
	set         *token.FileSet
}

func files(t *testing.T) []file {
	t.Helper()
	var out []file
	for layer := range layers() {
		paths, err := filepath.Glob(filepath.Join("..", layer, "*.go"))
		if err != nil || len(paths) == 0 {
			t.Fatal("no files of", layer, err)
		}
		for _, path := range paths {
			if strings.HasSuffix(path, "_test.go") {
				continue
			}
			text, err := os.ReadFile(path)
			if err != nil {
				t.Fatal(err)
			}
			set := token.NewFileSet()
			tree, err := parser.ParseFile(set, path, text, parser.ParseComments)
			if err != nil {
				t.Fatal(err)
			}
			out = append(out, file{layer, path, text, tree, set})
		}
	}
	return out
}

// A layer calls those below it that the map names, and few of the library.
func TestImports(t *testing.T) {
	calls := layers()
	for _, f := range files(t) {
		below := strings.Fields(calls[f.layer])
		for _, i := range f.tree.Imports {
			path, _ := strconv.Unquote(i.Path.Value)
			own, mine := strings.CutPrefix(path, "computus/")
			if mine && !slices.Contains(below, own) || !mine && !slices.Contains(library(), path) {
				t.Error(f.path, "imports", path)
			}
		}
	}
}

func TestLayout(t *testing.T) {
	for _, f := range files(t) {
		if laid, err := format.Source(f.text); err != nil || !bytes.Equal(laid, f.text) {
			t.Error(f.path, "is not in gofmt's layout", err)
		}
		for _, line := range strings.Split(string(f.text), "\n") {
			if strings.HasPrefix(line, "//go:") || strings.HasPrefix(line, "// +build") {
				t.Error(f.path, "has a line for the compiler:", line)
			}
		}
	}
}

func TestFunctionsAreShort(t *testing.T) {
	for _, f := range files(t) {
		for _, d := range f.tree.Decls {
			fn, ok := d.(*ast.FuncDecl)
			if !ok {
				continue
			}
			if lines := f.set.Position(fn.End()).Line - f.set.Position(fn.Pos()).Line + 1; lines > longest {
				t.Error(f.path, fn.Name.Name, "has", lines, "lines")
			}
		}
	}
}

// At package level stand short tables that are written out, and errors made of one text.
func TestVariables(t *testing.T) {
	for _, f := range files(t) {
		for _, d := range f.tree.Decls {
			g, ok := d.(*ast.GenDecl)
			if !ok || g.Tok != token.VAR {
				continue
			}
			for _, s := range g.Specs {
				v := s.(*ast.ValueSpec)
				if len(v.Values) != len(v.Names) {
					t.Error(f.path, v.Names[0].Name, "has no value of its own")
				}
				for i, value := range v.Values {
					if !mayStand(value) {
						t.Error(f.path, v.Names[i].Name, "may not stand at package level")
					}
				}
			}
		}
	}
}

// mayStand: is it a table without maps, functions, addresses and calls, or an error?
func mayStand(value ast.Expr) bool {
	if call, ok := value.(*ast.CallExpr); ok {
		f, ok := call.Fun.(*ast.SelectorExpr)
		return ok && f.Sel.Name == "New" && len(call.Args) == 1
	}
	if _, ok := value.(*ast.CompositeLit); !ok {
		return false
	}
	right := true
	ast.Inspect(value, func(n ast.Node) bool {
		switch x := n.(type) {
		case *ast.MapType, *ast.FuncLit, *ast.FuncType, *ast.CallExpr, *ast.StarExpr:
			right = false
		case *ast.UnaryExpr:
			right = right && x.Op != token.AND
		case *ast.BasicLit:
			right = right && x.Kind != token.FLOAT && x.Kind != token.IMAG
		}
		return true
	})
	return right
}
