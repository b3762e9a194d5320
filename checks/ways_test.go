package checks

import (
	"go/ast"
	"go/importer"
	"go/parser"
	"go/token"
	"go/types"
	"path/filepath"
	"strconv"
	"strings"
	"testing"
)

// loader finds the types of the project's packages in their folders, and of the library's in its source.
type loader struct {
	set  *token.FileSet
	info *types.Info
	std  types.Importer
	done map[string]*types.Package
	tree map[string][]*ast.File
}

// ways are those that each layer is built in.
var ways = map[string]string{
	"wire":    "variadic three-index rune string integer",
	"field":   "array array-compared math/bits integer",
	"scalar":  "array math/bits integer",
	"ladder":  "integer several struct",
	"sha":     "math/bits array array-compared slicing",
	"edwards": "struct integer once",
	"sign":    "array-slicing variadic handed-on",
	"chacha":  "closure-array array math/bits",
	"poly":    "array math/bits",
	"aead":    "variadic handed-on closure slicing",
	"blake":   "array-array closure-array slicing",
	"hkdf":    "variadic handed-on array array-xor",
	"der":     "fallthrough variadic goto",
	"disk":    "map-array array array-compared variadic",
	"seal":    "label-break closure",
}

func newLoader() *loader {
	set := token.NewFileSet()
	return &loader{
		set:  set,
		info: &types.Info{Types: map[ast.Expr]types.TypeAndValue{}, Defs: map[*ast.Ident]types.Object{}, Uses: map[*ast.Ident]types.Object{}},
		std:  importer.ForCompiler(set, "source", nil),
		done: map[string]*types.Package{},
		tree: map[string][]*ast.File{},
	}
}

func (l *loader) Import(path string) (*types.Package, error) {
	folder, own := strings.CutPrefix(path, module+"/")
	if !own {
		return l.std.Import(path)
	}
	if p := l.done[path]; p != nil {
		return p, nil
	}
	names, _ := filepath.Glob(filepath.Join("..", folder, "*.go"))
	for _, name := range names {
		if strings.HasSuffix(name, "_test.go") {
			continue
		}
		f, err := parser.ParseFile(l.set, name, nil, 0)
		if err != nil {
			return nil, err
		}
		l.tree[path] = append(l.tree[path], f)
	}
	c := types.Config{Importer: l}
	p, err := c.Check(path, l.set, l.tree[path], l.info)
	l.done[path] = p
	return p, err
}

// way is what a node of the tree shows of the language's ways ("" of most nodes).
func (l *loader) way(n ast.Node) string {
	switch x := n.(type) {
	case *ast.Ellipsis:
		return "variadic"
	case *ast.SliceExpr:
		_, ok := l.info.Types[x.X].Type.Underlying().(*types.Array)
		switch {
		case x.Slice3:
			return "three-index"
		case ok:
			return "array-slicing"
		}
		return "slicing"
	case *ast.CallExpr:
		if x.Ellipsis.IsValid() {
			return "handed-on"
		}
	case *ast.RangeStmt:
		b, ok := l.info.Types[x.X].Type.Underlying().(*types.Basic)
		_, array := l.info.Types[x.X].Type.Underlying().(*types.Array)
		switch {
		case ok && b.Info()&types.IsString != 0:
			return "string"
		case ok && b.Info()&types.IsInteger != 0:
			return "integer"
		case array && hasXor(x.Body):
			return "array-xor"
		}
	case *ast.Ident:
		if x.Name == "rune" {
			return "rune"
		}
	case *ast.ArrayType:
		_, rows := l.info.Types[x.Elt].Type.Underlying().(*types.Array)
		switch {
		case x.Len != nil && rows:
			return "array-array"
		case x.Len != nil:
			return "array"
		}
	case *ast.MapType:
		if _, ok := l.info.Types[x.Value].Type.Underlying().(*types.Array); ok {
			return "map-array"
		}
		return "map"
	case *ast.BinaryExpr:
		_, ok := l.info.Types[x.X].Type.Underlying().(*types.Array)
		if ok && (x.Op == token.EQL || x.Op == token.NEQ) {
			return "array-compared"
		}
	case *ast.StructType:
		return "struct"
	case *ast.FuncLit:
		if l.isOverArray(x) {
			return "closure-array"
		}
		return "closure"
	case *ast.SelectorExpr:
		if types.ExprString(x) == "sync.Once" {
			return "once"
		}
	case *ast.AssignStmt:
		if len(x.Lhs) > 1 {
			return "several"
		}
	case *ast.BranchStmt:
		if x.Tok == token.BREAK && x.Label != nil {
			return "label-break"
		}
		return x.Tok.String()
	case *ast.ImportSpec:
		if path, _ := strconv.Unquote(x.Path.Value); path == "math/bits" {
			return path
		}
	}
	return ""
}

// isOverArray says whether a closure goes by an array that was there ahead of it.
func (l *loader) isOverArray(f *ast.FuncLit) bool {
	found := false
	ast.Inspect(f.Body, func(n ast.Node) bool {
		if name, ok := n.(*ast.Ident); ok {
			v, ok := l.info.Uses[name].(*types.Var)
			if ok && v.Pos() < f.Pos() {
				_, array := v.Type().Underlying().(*types.Array)
				found = found || array
			}
		}
		return true
	})
	return found
}

func hasXor(body *ast.BlockStmt) bool {
	found := false
	ast.Inspect(body, func(n ast.Node) bool {
		switch x := n.(type) {
		case *ast.AssignStmt:
			found = found || x.Tok == token.XOR_ASSIGN
		case *ast.BinaryExpr:
			found = found || x.Op == token.XOR
		}
		return true
	})
	return found
}

func TestWays(t *testing.T) {
	for layer, wanted := range ways {
		l := newLoader()
		path := module + "/" + layer
		if _, err := l.Import(path); err != nil {
			t.Fatal(err)
		}
		found := map[string]bool{}
		for _, f := range l.tree[path] {
			ast.Inspect(f, func(n ast.Node) bool {
				found[l.way(n)] = true
				return true
			})
		}
		for _, way := range strings.Fields(wanted) {
			if !found[way] {
				t.Errorf("%s: nothing is built by the way %s", layer, way)
			}
		}
	}
}
