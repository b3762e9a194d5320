// Package checks holds the whole program against the rules that no single layer's tests can see: the language it keeps to, the ways it is built in, the calls that its layers have.
package checks

import (
	"bytes"
	"go/ast"
	"go/format"
	"go/parser"
	"go/token"
	"os"
	"path/filepath"
	"slices"
	"strconv"
	"strings"
	"testing"
)

const (
	module       = "escutcheon"
	layers       = "wire field scalar ladder sha edwards sign chacha poly aead blake hkdf der disk seal cipher noise window channel frame policy keystore attest cert session model keeper world terms judge script console"
	library      = " bytes cmp container/heap errors iter maps math math/bits slices sort strconv strings sync sync/atomic unicode unicode/utf8 "
	longFunction = 66 // 'some 60'
)

// calls names the layers that each layer calls, as the map has them, and those whose types its own calls speak of (keeper: disk).
var calls = map[string]string{
	"ladder": "field", "edwards": "field scalar", "sign": "scalar sha edwards", "aead": "chacha poly", "hkdf": "blake",
	"der": "wire", "seal": "wire aead hkdf disk", "cipher": "aead blake hkdf", "noise": "ladder cipher",
	"channel": "wire aead hkdf cipher window", "frame": "wire", "keystore": "wire ladder sign aead hkdf frame policy",
	"attest": "wire sign frame policy", "cert": "sign der frame policy", "session": "noise channel frame", "model": "frame policy",
	"keeper": "disk seal frame keystore attest cert session", "world": "disk noise channel frame keeper", "terms": "frame",
	"judge": "aead hkdf frame attest cert model world terms", "script": "wire frame world", "console": layers,
}

// source is a file of the program.
type source struct {
	name string
	text []byte
	tree *ast.File
	set  *token.FileSet
}

func sources(t *testing.T) []source {
	t.Helper()
	var all []source
	for _, layer := range strings.Fields(layers) {
		names, _ := filepath.Glob(filepath.Join("..", layer, "*"))
		found := false
		for _, name := range names {
			if strings.HasSuffix(name, "_test.go") {
				continue
			}
			all = append(all, sourceOf(t, name))
			found = true
		}
		if !found {
			t.Errorf("%s: no package", layer)
		}
	}
	return all
}

func sourceOf(t *testing.T, name string) source {
	t.Helper()
	if !strings.HasSuffix(name, ".go") {
		t.Fatalf("%s: not a Go file", name)
	}
	text, err := os.ReadFile(name)
	if err != nil {
		t.Fatal(err)
	}
	set := token.NewFileSet()
	tree, err := parser.ParseFile(set, name, text, parser.ParseComments)
	if err != nil {
		t.Fatal(err)
	}
	return source{name, text, tree, set}
}

func TestImports(t *testing.T) {
	for _, s := range sources(t) {
		mine := filepath.Base(filepath.Dir(s.name))
		may := append(strings.Fields(calls[mine]), "api")
		for _, spec := range s.tree.Imports {
			path, _ := strconv.Unquote(spec.Path.Value)
			if below, own := strings.CutPrefix(path, module+"/"); own {
				if !slices.Contains(may, below) {
					t.Errorf("%s: layer %s is not one that it calls in the map", s.name, below)
				}
			} else if !strings.Contains(library, " "+path+" ") {
				t.Errorf("%s: imports %s", s.name, path)
			}
			if spec.Name != nil && (spec.Name.Name == "." || spec.Name.Name == "_") {
				t.Errorf("%s: imports %s as %s", s.name, path, spec.Name.Name)
			}
		}
	}
}

func TestLayout(t *testing.T) {
	for _, s := range sources(t) {
		if laid, err := format.Source(s.text); err != nil || !bytes.Equal(laid, s.text) {
			t.Errorf("%s: not in gofmt's layout", s.name)
		}
		for _, group := range s.tree.Comments {
			for _, c := range group.List {
				if strings.HasPrefix(c.Text, "//go:") || strings.HasPrefix(c.Text, "// +build") {
					t.Errorf("%s: %s", s.name, c.Text)
				}
			}
		}
	}
}

func TestFunctionsAreSmall(t *testing.T) {
	for _, s := range sources(t) {
		for _, d := range s.tree.Decls {
			f, ok := d.(*ast.FuncDecl)
			if !ok {
				continue
			}
			if lines := s.set.Position(f.End()).Line - s.set.Position(f.Pos()).Line + 1; lines > longFunction {
				t.Errorf("%s: %s has %d lines", s.name, f.Name.Name, lines)
			}
		}
	}
}

func TestNothingPrints(t *testing.T) {
	for _, s := range sources(t) {
		ast.Inspect(s.tree, func(n ast.Node) bool {
			if call, ok := n.(*ast.CallExpr); ok {
				if f, ok := call.Fun.(*ast.Ident); ok && (f.Name == "print" || f.Name == "println") {
					t.Errorf("%s: %s", s.set.Position(call.Pos()), f.Name)
				}
			}
			return true
		})
	}
}

// What stands at package level has a value that is written out there; but where numbers are found once, they, and what sees to that, have none.
func TestPackageLevel(t *testing.T) {
	for _, s := range sources(t) {
		for _, d := range s.tree.Decls {
			group, ok := d.(*ast.GenDecl)
			if !ok || group.Tok != token.VAR {
				continue
			}
			for _, spec := range group.Specs {
				v := spec.(*ast.ValueSpec)
				found := len(v.Values) == 0 && isFoundOnce(s.name)
				if len(v.Values) != len(v.Names) && !found {
					t.Errorf("%s: a variable without a value of its own", s.set.Position(v.Pos()))
				}
				for _, value := range v.Values {
					if _, ok := value.(*ast.FuncLit); ok {
						t.Errorf("%s: a function as a variable", s.set.Position(v.Pos()))
					}
				}
			}
		}
	}
}

func isFoundOnce(name string) bool {
	layer := filepath.Base(filepath.Dir(name))
	return slices.Contains(strings.Fields(ways[layer]), "once")
}
