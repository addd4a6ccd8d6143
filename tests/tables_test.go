package tests

import (
	"go/ast"
	"go/importer"
	"go/parser"
	"go/token"
	"go/types"
	"path/filepath"
	"testing"
)

// A source is the program's package, parsed and with the types of its expressions.
type source struct {
	fset  *token.FileSet
	files []*ast.File
	pkg   *types.Package
	info  *types.Info
}

func readSource(t *testing.T) source {
	t.Helper()
	names, err := filepath.Glob("../impl/*.go")
	if err != nil || len(names) == 0 {
		t.Fatal("no files of the program", err)
	}
	s := source{fset: token.NewFileSet(), info: &types.Info{
		Types: map[ast.Expr]types.TypeAndValue{}, Uses: map[*ast.Ident]types.Object{}, Defs: map[*ast.Ident]types.Object{}}}
	for _, name := range names {
		file, err := parser.ParseFile(s.fset, name, nil, 0)
		if err != nil {
			t.Fatal(err)
		}
		s.files = append(s.files, file)
	}
	conf := types.Config{Importer: importer.ForCompiler(s.fset, "source", nil)}
	if s.pkg, err = conf.Check("impl", s.fset, s.files, s.info); err != nil {
		t.Fatal(err)
	}
	return s
}

// isTable reports whether a name stands for a variable of the package level, errors aside.
func (s source) isTable(id *ast.Ident) bool {
	v, ok := s.info.Uses[id].(*types.Var)
	return ok && v.Parent() == s.pkg.Scope() && !types.IsInterface(v.Type())
}

// sharesMemory reports whether a copy of a value of this type shares memory with it.
func sharesMemory(what types.Type) bool {
	switch x := what.Underlying().(type) {
	case *types.Basic:
		return false
	case *types.Array:
		return sharesMemory(x.Elem())
	case *types.Struct:
		for field := range x.Fields() {
			if sharesMemory(field.Type()) {
				return true
			}
		}
		return false
	}
	return true
}

// tableFault says how a use of a table breaks rule 3a, given the nodes around
// it, the innermost last.
func (s source) tableFault(id *ast.Ident, around []ast.Node) string {
	var part ast.Expr = id
	for len(around) > 0 {
		outer := around[len(around)-1]
		index, indexed := outer.(*ast.IndexExpr)
		selector, selected := outer.(*ast.SelectorExpr)
		if indexed && index.X == part {
			part = index
		} else if selected {
			part = selector
		} else {
			break
		}
		around = around[:len(around)-1]
	}
	switch outer := around[len(around)-1].(type) {
	case *ast.AssignStmt:
		for _, left := range outer.Lhs {
			if left == part {
				return "is assigned again"
			}
		}
	case *ast.IncDecStmt:
		return "is assigned again"
	case *ast.UnaryExpr:
		if outer.Op == token.AND {
			return "has its address taken"
		}
	case *ast.SliceExpr:
		if outer.X == part {
			return "is sliced"
		}
	case *ast.CallExpr:
		if fun, ok := outer.Fun.(*ast.Ident); ok && s.info.Uses[fun] == types.Universe.Lookup("len") {
			return ""
		}
	case *ast.RangeStmt:
		if outer.Value != nil && sharesMemory(s.info.TypeOf(outer.Value)) {
			return "is not read directly: an element is kept that shares its memory"
		}
		return ""
	}
	if sharesMemory(s.info.TypeOf(part)) {
		return "is not read directly: a part is handed on that shares its memory"
	}
	return ""
}

// Rule 3a of ../shared/LANGUAGE.md: the tables of the package level are never
// assigned again, their address is never taken, and they are read directly. No
// result of a call can show this for sure, so that it is read from the program.
func TestTablesAreReadDirectly(t *testing.T) {
	s := readSource(t)
	uses := 0
	for _, file := range s.files {
		var around []ast.Node
		ast.Inspect(file, func(n ast.Node) bool {
			if n == nil {
				around = around[:len(around)-1]
				return true
			}
			if id, ok := n.(*ast.Ident); ok && s.isTable(id) {
				uses++
				if fault := s.tableFault(id, around); fault != "" {
					t.Errorf("%s: the table %s %s", s.fset.Position(id.Pos()), id.Name, fault)
				}
			}
			around = append(around, n)
			return true
		})
	}
	if uses == 0 {
		t.Error("no use of a table found")
	}
}
