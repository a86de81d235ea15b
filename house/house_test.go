// Package house holds tests of what the program is made of: its layers, its calls, its language.
package house

import (
	"go/ast"
	"go/format"
	"go/parser"
	"go/token"
	"go/types"
	"os"
	"path/filepath"
	"slices"
	"strconv"
	"strings"
	"testing"

	"vagabond/api"
)

const root = ".."

// layers: the packages of the map, from layer 1 on.
const layers = "word real sha hmac aes ctr seal pool wire frag screen delta keys clock sender receiver session client wheel table inbox batch actor reap drain daemon line world live gauge script report audit stat"

// packages: the layers, and ahead of the layers that are made of it the package that isn't one.
func packages() []string {
	return strings.Fields(strings.Replace(layers, " session ", " end session ", 1))
}

// library: the packages of Go's that the program may import.
const library = "bytes cmp container/heap errors iter maps math math/bits slices sort strconv strings sync sync/atomic unicode unicode/utf8"

// source is a Go file of the program.
type source struct {
	path, text string
	file       *ast.File
}

// sources: all Go files of a package, but its tests.
func sources(t *testing.T, fset *token.FileSet, name string) []source {
	t.Helper()
	paths, err := filepath.Glob(filepath.Join(root, name, "*.go"))
	if err != nil || len(paths) == 0 {
		t.Fatalf("package %s: no files, %v", name, err)
	}
	var l []source
	for _, path := range paths {
		if strings.HasSuffix(path, "_test.go") {
			continue
		}
		text, err := os.ReadFile(path)
		if err != nil {
			t.Fatal(err)
		}
		file, err := parser.ParseFile(fset, path, text, parser.ParseComments)
		if err != nil {
			t.Fatal(err)
		}
		l = append(l, source{path, string(text), file})
	}
	return l
}

// imports: what a file imports.
func imports(t *testing.T, s source) []string {
	t.Helper()
	var l []string
	for _, spec := range s.file.Imports {
		path, err := strconv.Unquote(spec.Path.Value)
		if err != nil {
			t.Fatal(err)
		}
		l = append(l, path)
	}
	return l
}

// A layer imports api, layers with lower numbers, and what the language lets in.
func TestImports(t *testing.T) {
	fset := token.NewFileSet()
	lower := []string{"vagabond/api"}
	for _, name := range packages() {
		for _, s := range sources(t, fset, name) {
			for _, path := range imports(t, s) {
				if !slices.Contains(lower, path) && !slices.Contains(strings.Fields(library), path) {
					t.Errorf("%s imports %s", s.path, path)
				}
			}
		}
		lower = append(lower, "vagabond/"+name)
	}
}

// The program has neither directives nor build tags, is laid out by gofmt, and its functions are short.
func TestLanguage(t *testing.T) {
	fset := token.NewFileSet()
	for _, name := range append(packages(), "api") {
		for _, s := range sources(t, fset, name) {
			for _, mark := range []string{"//go:", "// +build", "/*line", "//line"} {
				if strings.Contains(s.text, mark) {
					t.Errorf("%s has %s", s.path, mark)
				}
			}
			if laid, err := format.Source([]byte(s.text)); err != nil || string(laid) != s.text {
				t.Errorf("%s isn't laid out by gofmt: %v", s.path, err)
			}
			for _, d := range s.file.Decls {
				if f, ok := d.(*ast.FuncDecl); ok && fset.Position(f.End()).Line-fset.Position(f.Pos()).Line >= 60 {
					t.Errorf("%s: %s is too long", s.path, f.Name.Name)
				}
			}
		}
	}
}

// kinds: the types of a call's arguments or results, without their names.
func kinds(l *ast.FieldList) string {
	if l == nil {
		return "()"
	}
	var out []string
	for _, f := range l.List {
		for range max(1, len(f.Names)) {
			out = append(out, types.ExprString(f.Type))
		}
	}
	return "(" + strings.Join(out, ", ") + ")"
}

// signature: a call's name and types.
func signature(f *ast.FuncDecl) string {
	own := ""
	if f.Recv != nil {
		own = kinds(f.Recv) + " "
	}
	return own + f.Name.Name + kinds(f.Type.TypeParams) + kinds(f.Type.Params) + " " + kinds(f.Type.Results)
}

// signatures: those of the exported functions of a file.
func signatures(file *ast.File) []string {
	var l []string
	for _, d := range file.Decls {
		if f, ok := d.(*ast.FuncDecl); ok && f.Name.IsExported() {
			l = append(l, signature(f))
		}
	}
	return l
}

// Each layer has the calls that its chapter lists.
func TestCalls(t *testing.T) {
	fset := token.NewFileSet()
	for _, name := range strings.Fields(layers) {
		listed, err := parser.ParseFile(fset, name, "package "+name+"\n"+calls()[name], 0)
		if err != nil {
			t.Fatal(err)
		}
		var got []string
		for _, s := range sources(t, fset, name) {
			got = append(got, signatures(s.file)...)
		}
		wanted := signatures(listed)
		if len(wanted) == 0 {
			t.Errorf("no call of %s is listed", name)
		}
		for _, call := range wanted {
			if !slices.Contains(got, call) {
				t.Errorf("%s has no %s", name, call)
			}
		}
	}
}

// The limits of the section Words.
func TestLimits(t *testing.T) {
	got := []uint64{api.MaxBuf, api.MaxPool, api.MaxWidth, api.MaxHeight, api.MaxKeys, api.MaxStates, api.MaxFrags, api.MaxSessions, api.MaxShards, api.MaxInbox, api.MaxBatch, api.MaxSlots, api.MaxSeq, api.MaxSource}
	wanted := []uint64{512, 256, 80, 24, 256, 8, 32, 64, 16, 64, 64, 64, 9223372036854775807, 20000}
	if !slices.Equal(got, wanted) {
		t.Errorf("limits: %v, wanted %v", got, wanted)
	}
}

// The errors of the section Words.
func TestErrors(t *testing.T) {
	l := []api.Errno{api.OK, api.ErrNil, api.ErrArg, api.ErrShort, api.ErrForm, api.ErrLong, api.ErrMany, api.ErrRange, api.ErrTag, api.ErrStale, api.ErrNone, api.ErrThere, api.ErrFull, api.ErrEmpty, api.ErrOwner, api.ErrSpent, api.ErrClosed, api.ErrDrain, api.ErrDir, api.ErrBase, api.ErrKind, api.ErrOrder}
	for i, e := range l {
		if int(e) != i || e.Error() != "error "+strconv.Itoa(i) {
			t.Errorf("error %d: %d, %q", i, int(e), e.Error())
		}
	}
	if api.ErrSyntax != 60 || api.ErrSyntax.Error() != "error 60" {
		t.Errorf("ErrSyntax: %d, %q", int(api.ErrSyntax), api.ErrSyntax.Error())
	}
}
