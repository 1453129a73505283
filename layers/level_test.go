package layers_test

import (
	"go/ast"
	"go/parser"
	"go/token"
	"path/filepath"
	"strings"
	"testing"
)

// mayStand: what a variable of a package may begin with: a number, a text, a table of these, an error made by errors.New. No map, no function and no other call.
func mayStand(e ast.Expr) bool {
	switch x := e.(type) {
	case *ast.BasicLit:
		return true
	case *ast.CompositeLit:
		if _, isMap := x.Type.(*ast.MapType); isMap {
			return false
		}
		for _, inner := range x.Elts {
			if !mayStand(inner) {
				return false
			}
		}
		return true
	case *ast.CallExpr:
		f, ok := x.Fun.(*ast.SelectorExpr)
		return ok && f.Sel.Name == "New" && len(x.Args) == 1 && mayStand(x.Args[0])
	}
	return false
}

// At package level stand constants and short tables that are written out: what is a map, or a table of functions, is made by a function.
func TestPackageLevel(t *testing.T) {
	files, err := filepath.Glob("../*/*.go")
	if err != nil || len(files) < 20 {
		t.Fatal(files, err)
	}
	set := token.NewFileSet()
	for _, name := range files {
		if strings.HasSuffix(name, "_test.go") {
			continue
		}
		f, err := parser.ParseFile(set, name, nil, 0)
		if err != nil {
			t.Fatal(err)
		}
		for _, d := range f.Decls {
			g, ok := d.(*ast.GenDecl)
			if !ok || g.Tok != token.VAR {
				continue
			}
			for _, spec := range g.Specs {
				v := spec.(*ast.ValueSpec)
				for i, n := range v.Names {
					if i >= len(v.Values) || !mayStand(v.Values[i]) {
						t.Errorf("%s: the variable %s may not stand at package level", set.Position(n.Pos()), n.Name)
					}
				}
			}
		}
	}
}
