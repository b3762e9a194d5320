package checks

import (
	"go/ast"
	"go/token"
	"go/types"
	"strings"
	"testing"
)

// program is what each function of the layers speaks of, and the variables of package level that have no value of their own.
type program struct {
	speaks map[types.Object][]types.Object
	bare   []types.Object
}

func wholeProgram(t *testing.T) program {
	t.Helper()
	l := newLoader()
	all := program{speaks: map[types.Object][]types.Object{}}
	for _, layer := range strings.Fields(layers) {
		path := module + "/" + layer
		if _, err := l.Import(path); err != nil {
			t.Fatal(err)
		}
		for _, f := range l.tree[path] {
			all.take(f, l.info)
		}
	}
	return all
}

func (p *program) take(f *ast.File, info *types.Info) {
	for _, d := range f.Decls {
		switch x := d.(type) {
		case *ast.FuncDecl:
			o := info.Defs[x.Name]
			ast.Inspect(x, func(n ast.Node) bool {
				if name, ok := n.(*ast.Ident); ok && info.Uses[name] != nil {
					p.speaks[o] = append(p.speaks[o], info.Uses[name])
				}
				return true
			})
		case *ast.GenDecl:
			for _, spec := range x.Specs {
				if v, ok := spec.(*ast.ValueSpec); ok && x.Tok == token.VAR && len(v.Values) == 0 {
					for _, name := range v.Names {
						p.bare = append(p.bare, info.Defs[name])
					}
				}
			}
		}
	}
}

// comesTo says whether a function comes to an object, by whatever it calls.
func (p *program) comesTo(from, to types.Object, seen map[types.Object]bool) bool {
	if from == to {
		return true
	}
	if seen[from] {
		return false
	}
	seen[from] = true
	for _, next := range p.speaks[from] {
		if p.comesTo(next, to, seen) {
			return true
		}
	}
	return false
}

// What is found once is asked for by one exported function, which no other one comes to, in its layer or above.
func TestWhatIsFoundOnceHasACallOfItsOwn(t *testing.T) {
	p := wholeProgram(t)
	for _, v := range p.bare {
		var asked []string
		for f := range p.speaks {
			if f.Exported() && p.comesTo(f, v, map[types.Object]bool{}) {
				asked = append(asked, f.Pkg().Name()+"."+f.Name())
			}
		}
		if len(asked) != 1 {
			t.Errorf("%s.%s is come to by %v", v.Pkg().Name(), v.Name(), asked)
		}
	}
	if len(p.bare) == 0 {
		t.Error("nothing is found once")
	}
}
