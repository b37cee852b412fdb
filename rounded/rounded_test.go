// Package rounded has one test, of DOC.md's rule that each operation on floats is rounded by itself. Where a machine can work out a product and a sum as one, Go's compiler does so, over statements and calls too, unless the product is converted; on a machine that can't, no other test would notice.
package rounded

import (
	"go/ast"
	"go/importer"
	"go/parser"
	"go/token"
	"go/types"
	"os"
	"path/filepath"
	"strings"
	"testing"
)

const module = "tumble"

type look struct {
	root  string
	fset  *token.FileSet
	info  *types.Info
	packs map[string]*types.Package
	files map[string][]*ast.File
	std   types.Importer
}

func newLook(root string) *look {
	l := &look{root: root, fset: token.NewFileSet(), packs: map[string]*types.Package{}, files: map[string][]*ast.File{}}
	l.info = &types.Info{Types: map[ast.Expr]types.TypeAndValue{}}
	l.std = importer.ForCompiler(l.fset, "source", nil)
	return l
}

func (l *look) Import(path string) (*types.Package, error) {
	if strings.HasPrefix(path, module+"/") {
		return l.load(path)
	}
	return l.std.Import(path)
}

func (l *look) load(path string) (*types.Package, error) {
	if p := l.packs[path]; p != nil {
		return p, nil
	}
	names, err := filepath.Glob(filepath.Join(l.root, strings.TrimPrefix(path, module), "*.go"))
	if err != nil {
		return nil, err
	}
	for _, name := range names {
		if strings.HasSuffix(name, "_test.go") {
			continue
		}
		f, err := parser.ParseFile(l.fset, name, nil, 0)
		if err != nil {
			return nil, err
		}
		l.files[path] = append(l.files[path], f)
	}
	c := types.Config{Importer: l}
	p, err := c.Check(path, l.fset, l.files[path], l.info)
	l.packs[path] = p
	return p, err
}

// isFloat tells whether an expression is worked out in floats when the program runs; a type that is a parameter counts as one.
func (l *look) isFloat(e ast.Expr) bool {
	t := l.info.Types[e]
	if t.Type == nil || t.Value != nil {
		return false
	}
	if _, ok := t.Type.(*types.TypeParam); ok {
		return true
	}
	b, ok := t.Type.Underlying().(*types.Basic)
	return ok && b.Info()&(types.IsFloat|types.IsComplex) != 0
}

// isSafe tells whether what stands about a product keeps it from being worked out as one with a sum.
func (l *look) isSafe(about ast.Node) bool {
	switch x := about.(type) {
	case *ast.CallExpr:
		return l.info.Types[x.Fun].IsType()
	case *ast.BinaryExpr:
		switch x.Op {
		case token.MUL, token.QUO, token.EQL, token.NEQ, token.LSS, token.LEQ, token.GTR, token.GEQ:
			return true
		}
	}
	return false
}

func (l *look) bare(f *ast.File) []token.Position {
	var found []token.Position
	var about []ast.Node
	ast.Inspect(f, func(n ast.Node) bool {
		if n == nil {
			about = about[:len(about)-1]
			return true
		}
		switch x := n.(type) {
		case *ast.BinaryExpr:
			if x.Op == token.MUL && l.isFloat(x) && !l.isSafe(outer(about)) {
				found = append(found, l.fset.Position(x.OpPos))
			}
		case *ast.AssignStmt:
			if x.Tok == token.MUL_ASSIGN && l.isFloat(x.Lhs[0]) {
				found = append(found, l.fset.Position(x.TokPos))
			}
		}
		about = append(about, n)
		return true
	})
	return found
}

// outer is the nearest thing about a node that is no bracket.
func outer(about []ast.Node) ast.Node {
	for i := len(about) - 1; i >= 0; i-- {
		if _, ok := about[i].(*ast.ParenExpr); !ok {
			return about[i]
		}
	}
	return nil
}

// packages are the folders of the program that have Go files beside tests.
func packages(t *testing.T, root string) []string {
	dirs, err := os.ReadDir(root)
	if err != nil {
		t.Fatal(err)
	}
	var l []string
	for _, d := range dirs {
		names, _ := filepath.Glob(filepath.Join(root, d.Name(), "*.go"))
		for _, name := range names {
			if !strings.HasSuffix(name, "_test.go") {
				l = append(l, module+"/"+d.Name())
				break
			}
		}
	}
	return l
}

func TestProductsAreRounded(t *testing.T) {
	l := newLook("..")
	paths := packages(t, "..")
	if len(paths) == 0 {
		t.Fatal("there are no packages")
	}
	for _, path := range paths {
		if _, err := l.load(path); err != nil {
			t.Fatal(err)
		}
		for _, f := range l.files[path] {
			for _, at := range l.bare(f) {
				t.Errorf("%v: a product of floats that is not converted: write float64(x * y)", at)
			}
		}
	}
}

// The test above must see what it is there for.
func TestBareIsFound(t *testing.T) {
	for _, c := range []struct {
		text string
		want int
	}{
		{"x*y + z", 1}, {"z - (x * y)", 1}, {"x * y", 1}, {"float64(x*y) + z", 0}, {"float64((x*y)*z) + z", 0},
		{"x * y / z", 0}, {"x*y*z + 1", 1}, {"float64(i*i) + 2*3", 0}, {"func() float64 { x *= y; return x }()", 1},
		{"real(complex(x, y) * complex(y, z))", 1}, {"float64(x) * float64(y)", 1},
	} {
		l := newLook("..")
		f, err := parser.ParseFile(l.fset, "a.go", "package a\nfunc f(x, y, z float64, i int) float64 { return "+c.text+" }", 0)
		if err != nil {
			t.Fatal(err)
		}
		conf := types.Config{Importer: l}
		if _, err := conf.Check("a", l.fset, []*ast.File{f}, l.info); err != nil {
			t.Fatal(err)
		}
		if got := l.bare(f); len(got) != c.want {
			t.Errorf("%s: %v found, not %v", c.text, got, c.want)
		}
	}
}
