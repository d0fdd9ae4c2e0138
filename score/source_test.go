package score_test

import (
	"go/ast"
	"go/parser"
	"go/token"
	"os"
	"strings"
	"testing"
)

// sources are the package's files, but for its tests.
func sources(t *testing.T) (*token.FileSet, []*ast.File) {
	t.Helper()
	names, err := os.ReadDir(".")
	if err != nil {
		t.Fatal(err)
	}
	set := token.NewFileSet()
	var l []*ast.File
	for _, n := range names {
		if !strings.HasSuffix(n.Name(), ".go") || strings.HasSuffix(n.Name(), "_test.go") {
			continue
		}
		f, err := parser.ParseFile(set, n.Name(), nil, 0)
		if err != nil {
			t.Fatal(err)
		}
		l = append(l, f)
	}
	return set, l
}

// products are a file's products, but those that a conversion to float64 rounds, and those of constants.
func products(f *ast.File) []ast.Node {
	fine := map[ast.Node]bool{}
	var l []ast.Node
	ast.Inspect(f, func(n ast.Node) bool {
		switch x := n.(type) {
		case *ast.GenDecl:
			return x.Tok != token.CONST
		case *ast.CallExpr:
			if to, ok := x.Fun.(*ast.Ident); ok && to.Name == "float64" && len(x.Args) == 1 {
				fine[ast.Unparen(x.Args[0])] = true
			}
		case *ast.BinaryExpr:
			if x.Op == token.MUL && !fine[x] {
				l = append(l, x)
			}
		case *ast.AssignStmt:
			if x.Tok == token.MUL_ASSIGN {
				l = append(l, x)
			}
		case *ast.SelectorExpr:
			if x.Sel.Name == "FMA" {
				l = append(l, x)
			}
		}
		return true
	})
	return l
}

// Machines that multiply and add in one step may leave out a product's rounding, unless it is converted. This one may be none of them, so the text is asked (P6.2, and each sum, product and quotient rounded on its own).
func TestEachProductIsRounded(t *testing.T) {
	set, files := sources(t)
	if len(files) == 0 {
		t.Fatal("no file to look at")
	}
	for _, f := range files {
		for _, n := range products(f) {
			t.Errorf("%v: a product that no conversion rounds", set.Position(n.Pos()))
		}
	}
}
