package rules

import (
	"go/ast"
	"slices"
	"testing"
)

// ways lists, for each layer that is built, the language features that it is built with.
func ways() map[string][]string {
	return map[string][]string{
		"ratio":    {"variadic", "generic-function", "closure"},
		"date":     {"constant-table", "array", "closure"},
		"zone":     {"range-function", "closure"},
		"quantity": {"method-value", "closure"},
		"deadline": {"map", "function-field", "range-function"},
		"lexer":    {"panic", "recover", "defer", "closure"},
		"parser":   {"method-expression", "map", "variadic"},
		"printer":  {"method-expression", "map", "panic", "recover", "defer"},
	}
}

// features lists how each feature is recognized in a function of a layer whose methods have some names.
func features(methods []string) map[string]func(function *ast.FuncDecl) bool {
	return map[string]func(function *ast.FuncDecl) bool{
		"variadic":         isVariadic,
		"generic-function": func(function *ast.FuncDecl) bool { return function.Type.TypeParams != nil },
		"closure":          hasClosure,
		"constant-table":   func(function *ast.FuncDecl) bool { return len(tables(function)) > 0 },
		"array":            hasArray,
		"range-function":   rangesFunction,
		"method-value":     func(function *ast.FuncDecl) bool { return hasMethodValue(function, methods) },
		"method-expression": func(function *ast.FuncDecl) bool {
			return hasMethodExpression(function, methods)
		},
		"map": func(function *ast.FuncDecl) bool { return hasMap(function, func(*ast.MapType) bool { return true }) },
		"function-field": func(function *ast.FuncDecl) bool {
			return hasMap(function, func(found *ast.MapType) bool { return isFunction(found.Value) })
		},
		"panic":   func(function *ast.FuncDecl) bool { return calls(function, "panic") },
		"defer":   func(function *ast.FuncDecl) bool { return defers(function, func(*ast.CallExpr) bool { return true }) },
		"recover": func(function *ast.FuncDecl) bool { return defers(function, recovers) },
	}
}

// calls reports whether a built-in function is called in a node.
func calls(node ast.Node, name string) bool {
	found := false
	ast.Inspect(node, func(node ast.Node) bool {
		if call, ok := node.(*ast.CallExpr); ok {
			called, ok := call.Fun.(*ast.Ident)
			found = found || ok && called.Name == name && called.Obj == nil
		}
		return !found
	})
	return found
}

// defers reports whether a function defers a call for which a condition holds.
func defers(function *ast.FuncDecl, holds func(call *ast.CallExpr) bool) bool {
	found := false
	ast.Inspect(function, func(node ast.Node) bool {
		statement, ok := node.(*ast.DeferStmt)
		found = found || ok && holds(statement.Call)
		return !found
	})
	return found
}

// recovers reports whether a deferred call is that of a function literal that recovers.
func recovers(call *ast.CallExpr) bool {
	literal, ok := call.Fun.(*ast.FuncLit)
	return ok && calls(literal.Body, "recover")
}

// hasMap reports whether a function has the type of a map for which a condition holds.
func hasMap(function *ast.FuncDecl, holds func(found *ast.MapType) bool) bool {
	found := false
	ast.Inspect(function, func(node ast.Node) bool {
		kind, ok := node.(*ast.MapType)
		found = found || ok && holds(kind)
		return !found
	})
	return found
}

// isFunction reports whether an expression is a type of functions, written out or declared in the same file.
func isFunction(kind ast.Expr) bool {
	if name, ok := kind.(*ast.Ident); ok && name.Obj != nil {
		declared, ok := name.Obj.Decl.(*ast.TypeSpec)
		return ok && isFunction(declared.Type)
	}
	_, ok := kind.(*ast.FuncType)
	return ok
}

// methodNames returns the names of all methods of a layer.
func methodNames(all []file, layer string) []string {
	var names []string
	for _, source := range all {
		for _, declaration := range source.tree.Decls {
			if function, ok := declaration.(*ast.FuncDecl); ok && source.folder == layer && function.Recv != nil {
				names = append(names, function.Name.Name)
			}
		}
	}
	return names
}

// hasMethodValue reports whether a function uses a method of a variable without calling it there.
func hasMethodValue(function *ast.FuncDecl, methods []string) bool {
	called := map[ast.Expr]bool{}
	found := false
	ast.Inspect(function, func(node ast.Node) bool {
		switch node := node.(type) {
		case *ast.CallExpr:
			called[node.Fun] = true
		case *ast.SelectorExpr:
			of, ok := node.X.(*ast.Ident)
			variable := ok && of.Obj != nil && of.Obj.Kind == ast.Var
			found = found || variable && !called[node] && slices.Contains(methods, node.Sel.Name)
		}
		return true
	})
	return found
}

// hasMethodExpression reports whether a function uses a method of a type, or of the pointers to it, as a function.
func hasMethodExpression(function *ast.FuncDecl, methods []string) bool {
	found := false
	ast.Inspect(function, func(node ast.Node) bool {
		selector, ok := node.(*ast.SelectorExpr)
		found = found || ok && namesType(selector.X) && slices.Contains(methods, selector.Sel.Name)
		return !found
	})
	return found
}

// namesType reports whether an expression is the name of a type, or in parentheses a pointer to one, which can be declared in another file.
func namesType(expression ast.Expr) bool {
	if inner, ok := expression.(*ast.ParenExpr); ok {
		pointer, ok := inner.X.(*ast.StarExpr)
		if !ok {
			return false
		}
		name, ok := pointer.X.(*ast.Ident)
		return ok && (name.Obj == nil || name.Obj.Kind == ast.Typ)
	}
	name, ok := expression.(*ast.Ident)
	return ok && name.Obj != nil && name.Obj.Kind == ast.Typ
}

// isVariadic reports whether a function takes any number of arguments.
func isVariadic(function *ast.FuncDecl) bool {
	for _, parameter := range function.Type.Params.List {
		if _, ok := parameter.Type.(*ast.Ellipsis); ok {
			return true
		}
	}
	return false
}

// hasClosure reports whether a function contains another one that uses its variables.
func hasClosure(function *ast.FuncDecl) bool {
	found := false
	ast.Inspect(function, func(node ast.Node) bool {
		inner, ok := node.(*ast.FuncLit)
		if !ok {
			return true
		}
		ast.Inspect(inner, func(node ast.Node) bool {
			if name, ok := node.(*ast.Ident); ok && name.Obj != nil && name.Obj.Kind == ast.Var {
				at := name.Obj.Pos()
				inside := inner.Pos() <= at && at < inner.End()
				found = found || !inside && function.Pos() <= at && at < function.End()
			}
			return true
		})
		return true
	})
	return found
}

// tables returns the tables of the package level that a function reads at an index.
func tables(function *ast.FuncDecl) []*ast.CompositeLit {
	var all []*ast.CompositeLit
	ast.Inspect(function, func(node ast.Node) bool {
		read, ok := node.(*ast.IndexExpr)
		if !ok {
			return true
		}
		name, ok := read.X.(*ast.Ident)
		if !ok || name.Obj == nil || function.Pos() <= name.Obj.Pos() && name.Obj.Pos() < function.End() {
			return true
		}
		if variable, ok := name.Obj.Decl.(*ast.ValueSpec); ok && len(variable.Values) == 1 {
			if table, ok := variable.Values[0].(*ast.CompositeLit); ok {
				all = append(all, table)
			}
		}
		return true
	})
	return all
}

// isArray reports whether a node is the type of an array, not of a slice.
func isArray(node ast.Node) bool {
	array, ok := node.(*ast.ArrayType)
	return ok && array.Len != nil
}

// hasArray reports whether a function has an array or reads one of the package level.
func hasArray(function *ast.FuncDecl) bool {
	found := false
	for _, table := range tables(function) {
		found = found || isArray(table.Type)
	}
	ast.Inspect(function, func(node ast.Node) bool {
		found = found || isArray(node)
		return !found
	})
	return found
}

// rangesFunction reports whether a function ranges over an iterator function, which a function of the same file returns.
func rangesFunction(function *ast.FuncDecl) bool {
	found := false
	ast.Inspect(function, func(node ast.Node) bool {
		loop, ok := node.(*ast.RangeStmt)
		found = found || ok && makesIterator(loop.X)
		return !found
	})
	return found
}

// makesIterator reports whether an expression is a call of a function of the same file whose only result is an iterator function.
func makesIterator(ranged ast.Expr) bool {
	call, ok := ranged.(*ast.CallExpr)
	if !ok {
		return false
	}
	name, ok := call.Fun.(*ast.Ident)
	if !ok || name.Obj == nil {
		return false
	}
	called, ok := name.Obj.Decl.(*ast.FuncDecl)
	return ok && called.Type.Results != nil && len(called.Type.Results.List) == 1 && isIterator(called.Type.Results.List[0].Type)
}

// isIterator reports whether an expression is the type of an iterator function, written out or as one of package iter.
func isIterator(result ast.Expr) bool {
	switch result := result.(type) {
	case *ast.FuncType:
		return true
	case *ast.IndexExpr:
		return isIterator(result.X)
	case *ast.IndexListExpr:
		return isIterator(result.X)
	case *ast.SelectorExpr:
		of, ok := result.X.(*ast.Ident)
		return ok && of.Name == "iter"
	}
	return false
}

// uses reports whether a function of a package has a feature.
func uses(all []file, layer string, feature func(function *ast.FuncDecl) bool) bool {
	for _, source := range all {
		if source.folder != layer {
			continue
		}
		for _, declaration := range source.tree.Decls {
			if function, ok := declaration.(*ast.FuncDecl); ok && feature(function) {
				return true
			}
		}
	}
	return false
}

func TestWays(t *testing.T) {
	all := sources(t)
	for layer, names := range ways() {
		known := features(methodNames(all, layer))
		for _, name := range names {
			feature, ok := known[name]
			if !ok || !uses(all, layer, feature) {
				t.Error(layer, "does not use", name)
			}
		}
	}
}
