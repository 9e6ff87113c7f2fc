// Package layout has no code: its tests hold the program's text against the map of layers and the rules of the language.
package layout

import (
	"bytes"
	"go/ast"
	"go/format"
	"go/parser"
	"go/token"
	"os"
	"path/filepath"
	"slices"
	"strconv"
	"strings"
	"testing"
)

const root = ".."

// mayCall is the document's map: each layer, and the packages that it may call.
var mayCall = map[string]string{
	"api":     "",
	"bits":    "api",
	"frames":  "api",
	"blocks":  "api",
	"tlb":     "api",
	"code":    "api bits",
	"asm":     "api bits code",
	"cpu":     "api bits code",
	"play":    "api cpu",
	"caps":    "api",
	"quota":   "api",
	"binds":   "api caps quota",
	"ipc":     "api",
	"envs":    "api",
	"kern":    "api frames blocks caps binds ipc envs",
	"types":   "api",
	"vals":    "api types",
	"wire":    "api bits types vals",
	"lang":    "api types",
	"check":   "api types lang",
	"xform":   "api types vals lang check",
	"files":   "api caps kern",
	"pipes":   "api",
	"pages":   "api tlb caps kern",
	"desc":    "api",
	"opens":   "api desc",
	"areas":   "api",
	"spans":   "api",
	"sys":     "api bits cpu kern files pipes pages desc opens areas spans",
	"abs":     "api desc opens sys",
	"snap":    "api types vals wire lang check files pipes pages desc opens areas spans sys",
	"rest":    "api kern types vals wire lang check xform files sys abs snap",
	"hand":    "api kern",
	"upgrade": "api xform sys snap rest hand",
	"world":   "api kern sys rest upgrade",
	"model":   "api bits cpu sys abs",
	"desk":    "api asm caps kern sys abs snap upgrade world model",
}

const library = "bytes cmp container/heap errors iter maps math math/bits slices sort strconv strings sync sync/atomic unicode unicode/utf8"

// source is one file of the program.
type source struct {
	layer, path string
	text        []byte
	fset        *token.FileSet
	file        *ast.File
}

func sources(t *testing.T) []source {
	t.Helper()
	var all []source
	for layer := range mayCall {
		paths, err := filepath.Glob(filepath.Join(root, layer, "*"))
		if err != nil || len(paths) == 0 {
			t.Errorf("package %s: no file, %v", layer, err)
		}
		for _, path := range paths {
			if strings.HasSuffix(path, "_test.go") {
				continue
			}
			if !strings.HasSuffix(path, ".go") {
				t.Errorf("%s: no Go file", path)
				continue
			}
			text, err := os.ReadFile(path)
			if err != nil {
				t.Fatal(err)
			}
			fset := token.NewFileSet()
			file, err := parser.ParseFile(fset, path, text, parser.ParseComments)
			if err != nil {
				t.Fatal(err)
			}
			all = append(all, source{layer, path, text, fset, file})
		}
	}
	return all
}

func TestImports(t *testing.T) {
	for _, s := range sources(t) {
		for _, spec := range s.file.Imports {
			path, err := strconv.Unquote(spec.Path.Value)
			if err != nil {
				t.Fatal(err)
			}
			below, own := strings.CutPrefix(path, "imago/")
			if own && !slices.Contains(strings.Fields(mayCall[s.layer]), below) {
				t.Errorf("%s: may not call %s", s.path, below)
			}
			if !own && !slices.Contains(strings.Fields(library), path) {
				t.Errorf("%s: imports %s", s.path, path)
			}
		}
	}
}

func TestText(t *testing.T) {
	for _, s := range sources(t) {
		if s.file.Name.Name != s.layer {
			t.Errorf("%s: package %s", s.path, s.file.Name.Name)
		}
		if laid, err := format.Source(s.text); err != nil || !bytes.Equal(laid, s.text) {
			t.Errorf("%s: not gofmt's layout, %v", s.path, err)
		}
		for line := range strings.SplitSeq(string(s.text), "\n") {
			if strings.HasPrefix(line, "//go:") || strings.HasPrefix(line, "// +build") {
				t.Errorf("%s: %s", s.path, line)
			}
		}
	}
}

func TestFunctions(t *testing.T) {
	for _, s := range sources(t) {
		for _, d := range s.file.Decls {
			f, ok := d.(*ast.FuncDecl)
			if !ok {
				continue
			}
			lines := s.fset.Position(f.End()).Line - s.fset.Position(f.Pos()).Line + 1
			if lines > 60 {
				t.Errorf("%s: %s has %d lines", s.path, f.Name.Name, lines)
			}
			if f.Recv == nil && f.Name.Name == "init" {
				t.Errorf("%s: func init", s.path)
			}
		}
	}
}

// isTable tells whether a package-level variable may have that value: a table that is written out, or an error.
func isTable(value ast.Expr) bool {
	switch v := value.(type) {
	case *ast.BasicLit:
		return v.Kind != token.STRING && v.Kind != token.FLOAT
	case *ast.CompositeLit:
		_, isMap := v.Type.(*ast.MapType)
		return !isMap
	case *ast.CallExpr:
		f, ok := v.Fun.(*ast.SelectorExpr)
		if !ok {
			return false
		}
		p, ok := f.X.(*ast.Ident)
		return ok && p.Name == "errors" && f.Sel.Name == "New"
	}
	return false
}

func TestPackageLevel(t *testing.T) {
	for _, s := range sources(t) {
		for _, d := range s.file.Decls {
			g, ok := d.(*ast.GenDecl)
			if !ok || g.Tok != token.VAR {
				continue
			}
			for _, spec := range g.Specs {
				v := spec.(*ast.ValueSpec)
				if len(v.Values) != len(v.Names) || slices.ContainsFunc(v.Values, func(x ast.Expr) bool { return !isTable(x) }) {
					t.Errorf("%s: variable %s is no table and no error", s.path, v.Names[0].Name)
				}
			}
		}
	}
}
