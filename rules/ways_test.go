package rules

import (
	"go/ast"
	"testing"
)

// ways lists, for each layer that is built, the language features that it is built with.
func ways() map[string][]string {
	return map[string][]string{
		"ratio": {"variadic", "generic-function", "closure"},
	}
}

// features lists how each feature is recognized in a function.
func features() map[string]func(function *ast.FuncDecl) bool {
	return map[string]func(function *ast.FuncDecl) bool{
		"variadic":         isVariadic,
		"generic-function": func(function *ast.FuncDecl) bool { return function.Type.TypeParams != nil },
		"closure":          hasClosure,
	}
}

// isVariadic reports whether a function takes any number of arguments.
func isVariadic(function *ast.FuncDecl) bool {
	for _, parameter := range function.Type.Params.List {
		if _, ok := parameter.Type.(*ast.Ellipsis); ok {
			return true
		}
	}
	return false
}

// hasClosure reports whether a function contains another one that uses its variables.
func hasClosure(function *ast.FuncDecl) bool {
	found := false
	ast.Inspect(function, func(node ast.Node) bool {
		inner, ok := node.(*ast.FuncLit)
		if !ok {
			return true
		}
		ast.Inspect(inner, func(node ast.Node) bool {
			if name, ok := node.(*ast.Ident); ok && name.Obj != nil && name.Obj.Kind == ast.Var {
				at := name.Obj.Pos()
				inside := inner.Pos() <= at && at < inner.End()
				found = found || !inside && function.Pos() <= at && at < function.End()
			}
			return true
		})
		return true
	})
	return found
}

// uses reports whether a function of a package has a feature.
func uses(all []file, layer string, feature func(function *ast.FuncDecl) bool) bool {
	for _, source := range all {
		if source.folder != layer {
			continue
		}
		for _, declaration := range source.tree.Decls {
			if function, ok := declaration.(*ast.FuncDecl); ok && feature(function) {
				return true
			}
		}
	}
	return false
}

func TestWays(t *testing.T) {
	all, known := sources(t), features()
	for layer, names := range ways() {
		for _, name := range names {
			feature, ok := known[name]
			if !ok || !uses(all, layer, feature) {
				t.Error(layer, "does not use", name)
			}
		}
	}
}
