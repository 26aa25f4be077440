package tests

import (
	"go/ast"
	"go/parser"
	"go/token"
	"slices"
	"testing"
)

// namedIn are the functions of a file whose bodies name a variable.
func namedIn(file *ast.File, variable string) []string {
	names := []string{}
	for _, declared := range file.Decls {
		function, ok := declared.(*ast.FuncDecl)
		if !ok {
			continue
		}
		ast.Inspect(function.Body, func(n ast.Node) bool {
			if name, ok := n.(*ast.Ident); ok && name.Name == variable && !slices.Contains(names, function.Name.Name) {
				names = append(names, function.Name.Name)
			}
			return true
		})
	}
	return names
}

// The table of escapes that init fills stands beside the function by which answers are worked out: an exported function reads it, and none that works out how a byte is written or read does.
func TestTheTableOfEscapes(t *testing.T) {
	file, err := parser.ParseFile(token.NewFileSet(), "../impl/l15_message.go", nil, parser.SkipObjectResolution)
	if err != nil {
		t.Fatal(err)
	}
	if names := namedIn(file, "escapes"); !slices.Equal(names, []string{"init", "ShowMessage"}) {
		t.Error(names)
	}
	if names := namedIn(file, "ownEscapes"); !slices.Equal(names, []string{"init", "appendByte", "readEscape"}) {
		t.Error(names)
	}
}
