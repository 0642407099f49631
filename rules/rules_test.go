// Package rules looks through the text of the program: what no answer can show on every machine.
package rules

import (
	"go/ast"
	"go/build"
	"go/importer"
	"go/parser"
	"go/token"
	"go/types"
	"os/exec"
	"path/filepath"
	"slices"
	"strconv"
	"strings"
	"testing"
)

// layers are the packages of the program, each behind those that it calls; trial, which the tests share, stands behind them all.
const layers = "api part exact entry ratio cplx narrow gauss numbers modular ring poly circle sum fft whole binary squares schur sturm refl zpk pair biquad run cascade lattice guard stream block resp bilin proto quant bank text shell trial"

const library = "bytes cmp container/heap errors iter maps math math/big math/bits slices sort strconv strings sync sync/atomic unicode unicode/utf8"

// exactly are the functions of floats that answer exactly, and what only takes bits or makes a float of them.
const exactly = "Sqrt Abs Copysign Signbit IsNaN IsInf Inf NaN Float64bits Float64frombits Float32bits Float32frombits"

// reader takes the program's packages in, with their types.
type reader struct {
	files map[string][]*ast.File
	packs map[string]*types.Package
	set   *token.FileSet
	info  *types.Info
	std   types.Importer
}

func (r *reader) Import(path string) (*types.Package, error) {
	if name, own := strings.CutPrefix(path, "quaver/"); own {
		return r.load(name)
	}
	return r.std.Import(path)
}

func (r *reader) load(name string) (*types.Package, error) {
	if p := r.packs[name]; p != nil {
		return p, nil
	}
	paths, err := filepath.Glob(filepath.Join("..", name, "*.go"))
	if err != nil {
		return nil, err
	}
	for _, path := range paths {
		if strings.HasSuffix(path, "_test.go") {
			continue
		}
		file, err := parser.ParseFile(r.set, path, nil, 0)
		if err != nil {
			return nil, err
		}
		r.files[name] = append(r.files[name], file)
	}
	config := types.Config{Importer: r}
	r.packs[name], err = config.Check("quaver/"+name, r.set, r.files[name], r.info)
	return r.packs[name], err
}

// program is all of the program's packages.
func program(t *testing.T) *reader {
	if build.Default.GOROOT == "" {
		out, err := exec.Command("go", "env", "GOROOT").Output()
		if err != nil {
			t.Fatal(err)
		}
		build.Default.GOROOT = strings.TrimSpace(string(out))
	}
	r := &reader{files: map[string][]*ast.File{}, packs: map[string]*types.Package{}, set: token.NewFileSet(), info: &types.Info{Types: map[ast.Expr]types.TypeAndValue{}, Uses: map[*ast.Ident]types.Object{}}}
	r.std = importer.ForCompiler(r.set, "source", nil)
	for name := range strings.FieldsSeq(layers) {
		if _, err := r.load(name); err != nil {
			t.Fatal(err)
		}
	}
	return r
}

// each hands every node of the program, with the one that it hangs under (brackets left out), to a test.
func (r *reader) each(look func(node, above ast.Node)) {
	for _, files := range r.files {
		for _, file := range files {
			var stack []ast.Node
			ast.Inspect(file, func(node ast.Node) bool {
				if node == nil {
					stack = stack[:len(stack)-1]
					return true
				}
				above := ast.Node(file)
				for _, a := range slices.Backward(stack) {
					if _, bracket := a.(*ast.ParenExpr); !bracket {
						above = a
						break
					}
				}
				look(node, above)
				stack = append(stack, node)
				return true
			})
		}
	}
}

// kind is what the values of an expression are made of, if they are worked out when the program runs.
func (r *reader) kind(e ast.Expr) types.BasicInfo {
	value := r.info.Types[e]
	if value.Type == nil || value.Value != nil {
		return 0
	}
	basic, ok := value.Type.Underlying().(*types.Basic)
	if !ok {
		return 0
	}
	return basic.Info()
}

// rounds: is the node a conversion to a float's type?
func (r *reader) rounds(node ast.Node) bool {
	call, ok := node.(*ast.CallExpr)
	return ok && r.info.Types[call.Fun].IsType() && r.kind(call)&types.IsFloat != 0
}

func TestRules(t *testing.T) {
	r := program(t)
	t.Run("every product is rounded by itself", r.everyProductIsRoundedByItself)
	t.Run("only exact functions of floats", r.onlyExactFunctionsOfFloats)
	t.Run("imports", r.importsOfLayersBelow)
	t.Run("functions are short", r.functionsAreShort)
	t.Run("maps of numbers or structs", r.mapsOfNumbersOrStructs)
}

func (r *reader) everyProductIsRoundedByItself(t *testing.T) {
	products := 0
	r.each(func(node, above ast.Node) {
		switch x := node.(type) {
		case *ast.BinaryExpr:
			kind := r.kind(x)
			if kind&types.IsComplex != 0 && (x.Op == token.MUL || x.Op == token.QUO) {
				t.Errorf("%s: a complex %s that is the language's own", r.set.Position(x.OpPos), x.Op)
			}
			if kind&types.IsFloat != 0 && x.Op == token.MUL {
				products++
				if !r.rounds(above) {
					t.Errorf("%s: a product that a sum may be fused with", r.set.Position(x.OpPos))
				}
			}
		case *ast.AssignStmt:
			if (x.Tok == token.MUL_ASSIGN || x.Tok == token.QUO_ASSIGN) && r.kind(x.Lhs[0])&(types.IsFloat|types.IsComplex) != 0 {
				t.Errorf("%s: a product or quotient of floats by %s", r.set.Position(x.TokPos), x.Tok)
			}
		}
	})
	if products == 0 {
		t.Error("no product of floats was found: what was looked through?")
	}
}

func (r *reader) onlyExactFunctionsOfFloats(t *testing.T) {
	r.each(func(node, _ ast.Node) {
		name, ok := node.(*ast.Ident)
		if !ok {
			return
		}
		f, ok := r.info.Uses[name].(*types.Func)
		if ok && f.Pkg() != nil && f.Pkg().Path() == "math" && !slices.Contains(strings.Fields(exactly), f.Name()) {
			t.Errorf("%s: math.%s", r.set.Position(name.Pos()), f.Name())
		}
	})
}

func (r *reader) importsOfLayersBelow(t *testing.T) {
	below := map[string]int{}
	for i, name := range strings.Fields(layers) {
		below[name] = i + 1
	}
	for name, files := range r.files {
		for _, file := range files {
			for _, spec := range file.Imports {
				path, _ := strconv.Unquote(spec.Path.Value)
				own, ours := strings.CutPrefix(path, "quaver/")
				if ours && (below[own] == 0 || below[own] >= below[name]) || !ours && !slices.Contains(strings.Fields(library), path) {
					t.Errorf("package %s imports %s", name, path)
				}
			}
		}
	}
}

func (r *reader) functionsAreShort(t *testing.T) {
	r.each(func(node, _ ast.Node) {
		f, ok := node.(*ast.FuncDecl)
		if !ok {
			return
		}
		if lines := r.set.Position(f.End()).Line - r.set.Position(f.Pos()).Line + 1; lines > 60 {
			t.Errorf("%s: %s has %d lines", r.set.Position(f.Pos()), f.Name.Name, lines)
		}
	})
}

func (r *reader) mapsOfNumbersOrStructs(t *testing.T) {
	r.each(func(node, _ ast.Node) {
		m, ok := node.(*ast.MapType)
		if !ok {
			return
		}
		if basic, ok := r.info.Types[m.Value].Type.Underlying().(*types.Basic); ok && basic.Info()&(types.IsBoolean|types.IsString) != 0 {
			t.Errorf("%s: a map with %s as values", r.set.Position(m.Pos()), basic)
		}
	})
}
