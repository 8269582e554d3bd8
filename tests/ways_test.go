package tests

import (
	"go/ast"
	"go/parser"
	"go/token"
	"path/filepath"
	"slices"
	"testing"
)

// declsOf are the declarations of the program's text.
func declsOf(t *testing.T) []ast.Decl {
	t.Helper()
	files, err := filepath.Glob("../impl/*.go")
	if err != nil || len(files) == 0 {
		t.Fatalf("no files of the program: %v", err)
	}
	var decls []ast.Decl
	for _, name := range files {
		file, err := parser.ParseFile(token.NewFileSet(), name, nil, 0)
		if err != nil {
			t.Fatal(err)
		}
		decls = append(decls, file.Decls...)
	}
	return decls
}

// variablesOf are the names of all variables that stand at package level.
func variablesOf(decls []ast.Decl) []string {
	var names []string
	for _, decl := range decls {
		group, isGroup := decl.(*ast.GenDecl)
		if !isGroup || group.Tok != token.VAR {
			continue
		}
		for _, spec := range group.Specs {
			for _, name := range spec.(*ast.ValueSpec).Names {
				names = append(names, name.Name)
			}
		}
	}
	return names
}

// namersOf are the functions that name a thing, sorted.
func namersOf(decls []ast.Decl, thing string) []string {
	var names []string
	for _, decl := range decls {
		function, isFunction := decl.(*ast.FuncDecl)
		if !isFunction || function.Body == nil {
			continue
		}
		ast.Inspect(function.Body, func(n ast.Node) bool {
			if name, isName := n.(*ast.Ident); isName && name.Name == thing {
				names = append(names, function.Name.Name)
			}
			return true
		})
	}
	slices.Sort(names)
	return slices.Compact(names)
}

// Nothing but happenings could be kept between two calls, and that is filled once, by init, and read by what MemStep calls.
func TestHappeningsAreTheOneVariable(t *testing.T) {
	decls := declsOf(t)
	if names := variablesOf(decls); !slices.Equal(names, []string{"happenings"}) {
		t.Errorf("variables at package level: %q", names)
	}
	if names := namersOf(decls, "happenings"); !slices.Equal(names, []string{"happen", "init"}) {
		t.Errorf("happenings are named in %q", names)
	}
	if names := namersOf(decls, "happen"); !slices.Contains(names, "MemStep") {
		t.Errorf("happen is named in %q", names)
	}
	for _, decl := range decls {
		if function, isFunction := decl.(*ast.FuncDecl); isFunction && function.Name.Name == "happen" {
			wantReadOnly(t, function, "happenings")
		}
	}
}

// wantReadOnly asks that a function neither sets a variable nor a thing in it.
func wantReadOnly(t *testing.T, function *ast.FuncDecl, variable string) {
	t.Helper()
	ast.Inspect(function.Body, func(n ast.Node) bool {
		set, isSet := n.(*ast.AssignStmt)
		if !isSet {
			return true
		}
		for _, left := range set.Lhs {
			if index, isIndex := left.(*ast.IndexExpr); isIndex {
				left = index.X
			}
			if name, isName := left.(*ast.Ident); isName && name.Name == variable {
				t.Errorf("%s sets %s", function.Name.Name, variable)
			}
		}
		return true
	})
}
