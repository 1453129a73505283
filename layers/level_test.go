package layers_test

import (
	"go/ast"
	"go/parser"
	"go/token"
	"path/filepath"
	"strings"
	"testing"
)

// mayStand: what a variable of a package may begin with: a number, a text, a table of these, an error made by errors.New. No map, no function and no other call.
func mayStand(e ast.Expr) bool {
	switch x := e.(type) {
	case *ast.BasicLit:
		return true
	case *ast.CompositeLit:
		if _, isMap := x.Type.(*ast.MapType); isMap {
			return false
		}
		for _, inner := range x.Elts {
			if !mayStand(inner) {
				return false
			}
		}
		return true
	case *ast.CallExpr:
		f, ok := x.Fun.(*ast.SelectorExpr)
		return ok && f.Sel.Name == "New" && len(x.Args) == 1 && mayStand(x.Args[0])
	}
	return false
}

// levelFaults tells what is wrong with the variables of a file's package: how they begin, and that they are written to, or their address is taken.
func levelFaults(set *token.FileSet, f *ast.File) []string {
	var l []string
	for _, d := range f.Decls {
		g, ok := d.(*ast.GenDecl)
		if !ok || g.Tok != token.VAR {
			continue
		}
		for _, spec := range g.Specs {
			v := spec.(*ast.ValueSpec)
			for i, n := range v.Names {
				if i >= len(v.Values) || !mayStand(v.Values[i]) {
					l = append(l, set.Position(n.Pos()).String()+": "+n.Name+" may not stand at package level")
				}
			}
		}
	}
	ast.Inspect(f, func(n ast.Node) bool {
		for _, e := range written(n) {
			if id := rootOf(e); id != nil && id.Name != "_" && !isLocal(f, id) {
				l = append(l, set.Position(id.Pos()).String()+": "+id.Name+" is written to, or its address taken")
			}
		}
		return true
	})
	return l
}

// written: what is written to here, or the address of which is taken.
func written(n ast.Node) []ast.Expr {
	switch x := n.(type) {
	case *ast.AssignStmt:
		return x.Lhs
	case *ast.IncDecStmt:
		return []ast.Expr{x.X}
	case *ast.RangeStmt:
		return []ast.Expr{x.Key, x.Value}
	case *ast.UnaryExpr:
		if x.Op == token.AND {
			return []ast.Expr{x.X}
		}
	}
	return nil
}

// rootOf: the name with which an expression begins that something can be written to; nil, if there is none.
func rootOf(e ast.Expr) *ast.Ident {
	switch x := e.(type) {
	case *ast.Ident:
		return x
	case *ast.ParenExpr:
		return rootOf(x.X)
	case *ast.IndexExpr:
		return rootOf(x.X)
	case *ast.SelectorExpr:
		return rootOf(x.X)
	case *ast.StarExpr:
		return rootOf(x.X)
	case *ast.SliceExpr:
		return rootOf(x.X)
	}
	return nil
}

// isLocal: whether a name is declared inside a function of the file. Those that the file does not declare at all are of another file, or of another package.
func isLocal(f *ast.File, id *ast.Ident) bool {
	return id.Obj != nil && f.Scope.Lookup(id.Name) != id.Obj
}

// At package level stand constants and short tables that are written out and never written to again: what is a map, or a table of functions, is made by a function.
func TestPackageLevel(t *testing.T) {
	files, err := filepath.Glob("../*/*.go")
	if err != nil || len(files) < 20 {
		t.Fatal(files, err)
	}
	set := token.NewFileSet()
	for _, name := range files {
		if strings.HasSuffix(name, "_test.go") {
			continue
		}
		f, err := parser.ParseFile(set, name, nil, 0)
		if err != nil {
			t.Fatal(err)
		}
		for _, fault := range levelFaults(set, f) {
			t.Error(fault)
		}
	}
}

// What the test above finds, and what it lets stand.
func TestLevelFaults(t *testing.T) {
	for text, want := range map[string]int{
		`var a = 1; func f() int { return a }`:                                        0,
		`var a = [2]int{1, 2}; func f() { a := a; a[0]++; a = [2]int{} }`:             0,
		`var a = errors.New("a"); func f(b *int) { *b = 1; _ = a; c := &b; _ = c }`:   0,
		`type s struct { a int }; var t = []s{{1}}; func (x *s) f() { x.a = t[0].a }`: 0,
		`var a int`:                                                                  1,
		`var a = map[string]int{}`:                                                   1,
		`var a = []func(){f}; func f() {}`:                                           1,
		`var a = f(); func f() int { return 1 }`:                                     1,
		`var a = 1; func init() { a = 2 }`:                                           1,
		`var a = 1; func init() { a += 2 }`:                                          1,
		`var a = 1; func init() { a++ }`:                                             1,
		`var a = [2]int{1, 2}; func init() { a[1] = 2 }`:                             1,
		`var a = struct{ b int }{1}; func init() { (a).b = 2 }`:                      1,
		`var a = 1; func init() { for a = range 3 {} }`:                              1,
		`var a = 1; func init() { func() { a, _ = 2, 3 }() }`:                        1,
		`var a = 1; func f() *int { return &a }`:                                     1,
		`func f() { inAnotherFile = 1 }`:                                             1,
		`import "layers/api"; func f() { api.Thing = 1 }`:                            1,
		`var a = 1; func f() { { a := 2; a = 3 }; a = 4; for a := range 5 { a++ } }`: 1,
	} {
		set := token.NewFileSet()
		f, err := parser.ParseFile(set, "text.go", "package p; "+text, 0)
		if err != nil {
			t.Fatal(text, err)
		}
		if got := levelFaults(set, f); len(got) != want {
			t.Errorf("%s: %q; want %d", text, got, want)
		}
	}
}
