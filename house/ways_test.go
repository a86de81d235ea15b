package house

import (
	"go/ast"
	"go/token"
	"testing"
)

// function: a function of a package by its name.
func function(t *testing.T, pack, name string) *ast.FuncDecl {
	t.Helper()
	for _, s := range sources(t, token.NewFileSet(), pack) {
		for _, d := range s.file.Decls {
			if f, ok := d.(*ast.FuncDecl); ok && f.Name.Name == name {
				return f
			}
		}
	}
	t.Fatalf("package %s has no %s", pack, name)
	return nil
}

// has: is there a node below this one of which that holds?
func has(n ast.Node, holds func(ast.Node) bool) bool {
	found := false
	ast.Inspect(n, func(n ast.Node) bool {
		found = found || n != nil && holds(n)
		return !found
	})
	return found
}

// isLoop: is it a loop?
func isLoop(n ast.Node) bool {
	switch n.(type) {
	case *ast.ForStmt, *ast.RangeStmt:
		return true
	}
	return false
}

// leaves: does it break off that label's loop?
func leaves(label string) func(ast.Node) bool {
	return func(n ast.Node) bool {
		b, ok := n.(*ast.BranchStmt)
		return ok && b.Tok == token.BREAK && b.Label != nil && b.Label.Name == label
	}
}

// continues: does it go on with that label's loop?
func continues(label string) func(ast.Node) bool {
	return func(n ast.Node) bool {
		b, ok := n.(*ast.BranchStmt)
		return ok && b.Tok == token.CONTINUE && b.Label != nil && b.Label.Name == label
	}
}

// loopContinued: is it a loop that its label continues?
func loopContinued(n ast.Node) bool {
	l, ok := n.(*ast.LabeledStmt)
	return ok && isLoop(l.Stmt) && has(l.Stmt, continues(l.Label.Name))
}

// loopLeft: is it a loop that its label leaves?
func loopLeft(n ast.Node) bool {
	l, ok := n.(*ast.LabeledStmt)
	return ok && isLoop(l.Stmt) && has(l.Stmt, leaves(l.Label.Name))
}

// isClosure: is it a function within another one?
func isClosure(n ast.Node) bool {
	_, ok := n.(*ast.FuncLit)
	return ok
}

// isArray: is it an array's type?
func isArray(n ast.Node) bool {
	a, ok := n.(*ast.ArrayType)
	return ok && a.Len != nil
}

// calling: is it a call of that name?
func calling(name string) func(ast.Node) bool {
	return func(n ast.Node) bool {
		c, ok := n.(*ast.CallExpr)
		if !ok {
			return false
		}
		f, ok := c.Fun.(*ast.Ident)
		return ok && f.Name == name
	}
}

// isVariadic: is it a parameter that comes as often as one likes?
func isVariadic(n ast.Node) bool {
	e, ok := n.(*ast.Ellipsis)
	return ok && e.Elt != nil
}

// overLength: is it a range over how many places a text has?
func overLength(n ast.Node) bool {
	r, ok := n.(*ast.RangeStmt)
	if !ok {
		return false
	}
	c, ok := r.X.(*ast.CallExpr)
	if !ok {
		return false
	}
	name, ok := c.Fun.(*ast.Ident)
	return ok && name.Name == "len"
}

// Stage 1: base sixteen is read in a loop within a loop, left by a label.
func TestBaseSixteenIsLeftByLabel(t *testing.T) {
	nested := func(n ast.Node) bool {
		l, ok := n.(*ast.LabeledStmt)
		if !ok || !isLoop(l.Stmt) {
			return false
		}
		inner := func(m ast.Node) bool {
			return m != l.Stmt && isLoop(m) && has(m, leaves(l.Label.Name))
		}
		return has(l.Stmt, inner)
	}
	if !has(function(t, "word", "Unhex"), nested) {
		t.Error("Unhex has no loop within a loop that a label leaves")
	}
}

// Stage 1: kinds of numbers are numbered by iota.
func TestKindsAreNumberedByIota(t *testing.T) {
	numbered := func(n ast.Node) bool {
		d, ok := n.(*ast.GenDecl)
		return ok && d.Tok == token.CONST && len(d.Specs) == 7 && has(d, func(m ast.Node) bool {
			name, ok := m.(*ast.Ident)
			return ok && name.Name == "iota"
		})
	}
	found := false
	for _, s := range sources(t, token.NewFileSet(), "real") {
		found = found || has(s.file, numbered)
	}
	if !found {
		t.Error("real's seven kinds aren't numbered by iota")
	}
}

// Stage 1: texts are gone through by their places.
func TestTextsAreGoneThroughByPlaces(t *testing.T) {
	for _, name := range []string{"Get", "Number", "Hex", "Unhex"} {
		if !has(function(t, "word", name), overLength) {
			t.Errorf("%s doesn't go through places", name)
		}
	}
}

// Stage 1: sizes come as many as one likes.
func TestSizesAreVariadic(t *testing.T) {
	for pack, names := range map[string][]string{"word": {"Cut"}, "real": {"Least", "Most"}} {
		for _, name := range names {
			if !has(function(t, pack, name).Type, isVariadic) {
				t.Errorf("%s isn't variadic", name)
			}
		}
	}
}

// Stage 2: the primes are sought in a loop that a label continues.
func TestPrimesAreSoughtByLabel(t *testing.T) {
	if !has(function(t, "sha", "primes"), loopContinued) {
		t.Error("primes has no loop that a label continues")
	}
}

// Stage 2: blocks and words are arrays, filled by copy.
func TestBlocksAreArraysFilledByCopy(t *testing.T) {
	for pack, names := range map[string][]string{"sha": {"blockAt", "drawn"}, "hmac": {"keyBlock"}} {
		for _, name := range names {
			f := function(t, pack, name)
			if !has(f.Type.Results, isArray) || !has(f.Body, calling("copy")) {
				t.Errorf("%s of %s answers no array that copy fills", name, pack)
			}
		}
	}
}

// Stage 2: parts come as many as one likes.
func TestPartsAreVariadic(t *testing.T) {
	for pack, names := range map[string][]string{"sha": {"Sum", "Text"}, "hmac": {"Sum"}} {
		for _, name := range names {
			if !has(function(t, pack, name).Type, isVariadic) {
				t.Errorf("%s isn't variadic", name)
			}
		}
	}
}

// Stage 3: the box is made in a loop that is left by a label.
func TestBoxIsLeftByLabel(t *testing.T) {
	if !has(function(t, "aes", "Box"), loopLeft) {
		t.Error("Box has no loop that a label leaves")
	}
}

// Stage 3: a column's byte is a closure's, the column an array that copy fills.
func TestColumnsByteIsClosures(t *testing.T) {
	f := function(t, "aes", "mixed")
	for what, holds := range map[string]func(ast.Node) bool{"closure": isClosure, "array": isArray, "copy": calling("copy")} {
		if !has(f.Body, holds) {
			t.Errorf("mixed has no %s", what)
		}
	}
}

// Stage 4: buffers are arrays, found by a closure.
func TestBuffersAreArraysFoundByClosure(t *testing.T) {
	found := false
	for _, s := range sources(t, token.NewFileSet(), "pool") {
		found = found || has(s.file, isArray)
	}
	if !found {
		t.Error("pool's buffers aren't arrays")
	}
	if !has(function(t, "pool", "Get").Body, isClosure) {
		t.Error("Get finds no buffer by a closure")
	}
}

// Stage 4: buffers are cleared whole, and filled by copy.
func TestBuffersAreCleared(t *testing.T) {
	f := function(t, "pool", "fill")
	for _, name := range []string{"clear", "copy"} {
		if !has(f.Body, calling(name)) {
			t.Errorf("fill has no %s", name)
		}
	}
}

// Stage 5: parts are held against each other whole.
func TestPartsAreComparedWhole(t *testing.T) {
	whole := func(n ast.Node) bool {
		b, ok := n.(*ast.BinaryExpr)
		return ok && b.Op == token.EQL && calling("unstamped")(b.X) && calling("unstamped")(b.Y)
	}
	if !has(function(t, "frag", "with").Body, whole) {
		t.Error("with doesn't hold parts against each other whole")
	}
}

// Stage 5: parts that came are copied.
func TestPartsAreCopied(t *testing.T) {
	if !has(function(t, "frag", "copied").Body, calling("copy")) {
		t.Error("copied has no copy")
	}
	for _, name := range []string{"with", "Add"} {
		if !has(function(t, "frag", name).Body, calling("copied")) {
			t.Errorf("%s copies no parts", name)
		}
	}
}

// Stage 6: output is gone through byte by byte, and what changes nothing continues at the loop's label.
func TestOutputContinuesAtLabel(t *testing.T) {
	byBytes := func(n ast.Node) bool {
		l, ok := n.(*ast.LabeledStmt)
		return ok && loopContinued(l) && overLength(l.Stmt)
	}
	if !has(function(t, "screen", "Put").Body, byBytes) {
		t.Error("Put has no loop over output's bytes that a label continues")
	}
}

// Stage 6: screens are compared whole.
func TestScreensAreComparedWhole(t *testing.T) {
	f := function(t, "screen", "Same")
	names := map[string]int{}
	for _, p := range f.Type.Params.List {
		for _, name := range p.Names {
			names[name.Name] = 1
		}
	}
	whole := func(n ast.Node) bool {
		b, ok := n.(*ast.BinaryExpr)
		if !ok || b.Op != token.EQL {
			return false
		}
		x, isName := b.X.(*ast.Ident)
		y, areNames := b.Y.(*ast.Ident)
		return isName && areNames && names[x.Name]+names[y.Name] == 2
	}
	if !has(f.Body, whole) {
		t.Error("Same doesn't compare screens whole")
	}
}

// Stage 6: rows that go up, and runs that are laid over a screen, are copied.
func TestPlacesAreCopied(t *testing.T) {
	for pack, name := range map[string]string{"screen": "nextRow", "delta": "write"} {
		if !has(function(t, pack, name).Body, calling("copy")) {
			t.Errorf("%s of %s has no copy", name, pack)
		}
	}
}

// isFloat: is it the type of a number with a point?
func isFloat(n ast.Node) bool {
	name, ok := n.(*ast.Ident)
	return ok && name.Name == "float64"
}

// Stage 7: means and jitters are floats.
func TestMeansAndJittersAreFloats(t *testing.T) {
	for _, name := range []string{"Mean", "Jitter"} {
		f := function(t, "clock", name)
		if !has(f.Type.Results, isFloat) || !has(f.Body, calling("float64")) {
			t.Errorf("%s isn't reckoned in floats", name)
		}
	}
}

// Stage 7: means are of as many numbers as one likes.
func TestMeansAreVariadic(t *testing.T) {
	if !has(function(t, "clock", "Mean").Type, isVariadic) {
		t.Error("Mean isn't variadic")
	}
}

// genericType: is it a type of that name, of whatever other type?
func genericType(name string) func(ast.Node) bool {
	return func(n ast.Node) bool {
		s, ok := n.(*ast.TypeSpec)
		return ok && s.Name.Name == name && s.TypeParams != nil
	}
}

// isRule: is it a generic type of functions alone?
func isRule(n ast.Node) bool {
	s, ok := n.(*ast.TypeSpec)
	if !ok || !genericType("Rule")(s) {
		return false
	}
	fields, ok := s.Type.(*ast.StructType)
	if !ok {
		return false
	}
	for _, f := range fields.Fields.List {
		if _, ok := f.Type.(*ast.FuncType); !ok {
			return false
		}
	}
	return fields.Fields.NumFields() > 0
}

// Stage 8: senders and receivers are generic in their states, their rules functions in fields.
func TestSendersAndReceiversAreGeneric(t *testing.T) {
	for pack, name := range map[string]string{"sender": "Sender", "receiver": "Receiver"} {
		generic, ruled := false, false
		for _, s := range sources(t, token.NewFileSet(), pack) {
			generic = generic || has(s.file, genericType(name))
			ruled = ruled || has(s.file, isRule)
		}
		if !generic || !ruled || function(t, pack, "New").Type.TypeParams == nil {
			t.Errorf("%s isn't generic, by a rule of functions", name)
		}
	}
}

// Stage 8: who is let go is found in a loop that is left by a label.
func TestWhoIsLetGoIsLeftByLabel(t *testing.T) {
	for pack, name := range map[string]string{"sender": "Acked", "receiver": "kept"} {
		if !has(function(t, pack, name).Body, loopLeft) {
			t.Errorf("%s of %s has no loop that a label leaves", name, pack)
		}
	}
}

// Stage 8: a number's place is found by a closure.
func TestPlaceIsFoundByClosure(t *testing.T) {
	if !has(function(t, "receiver", "place").Body, isClosure) {
		t.Error("place has no closure")
	}
}

// ofPackage: is it that name of that package, of whatever types?
func ofPackage(pack, name string) func(ast.Node) bool {
	return func(n ast.Node) bool {
		var x ast.Expr
		switch i := n.(type) {
		case *ast.IndexExpr:
			x = i.X
		case *ast.IndexListExpr:
			x = i.X
		}
		s, ok := x.(*ast.SelectorExpr)
		if !ok || s.Sel.Name != name {
			return false
		}
		from, ok := s.X.(*ast.Ident)
		return ok && from.Name == pack
	}
}

// Stage 9: both ends are made of generic senders and receivers.
func TestEndsAreGeneric(t *testing.T) {
	found := map[string]int{}
	for _, s := range sources(t, token.NewFileSet(), "end") {
		ast.Inspect(s.file, func(n ast.Node) bool {
			if n == nil || !genericType("End")(n) {
				return true
			}
			for pack, name := range map[string]string{"sender": "Sender", "receiver": "Receiver"} {
				if has(n, ofPackage(pack, name)) {
					found[pack]++
				}
			}
			return false
		})
	}
	if found["sender"] != 1 || found["receiver"] != 1 {
		t.Error("End isn't a generic type made of a sender and a receiver")
	}
	for pack, name := range map[string]string{"session": "Session", "client": "Client"} {
		made := false
		for _, s := range sources(t, token.NewFileSet(), pack) {
			made = made || has(s.file, func(n ast.Node) bool {
				d, ok := n.(*ast.TypeSpec)
				return ok && d.Name.Name == name && has(d, ofPackage("end", "End"))
			})
		}
		if !made {
			t.Errorf("%s isn't made of an End", name)
		}
	}
}

// Stage 9: both ends go by rules that are functions in fields.
func TestEndsGoByRules(t *testing.T) {
	for _, pack := range []string{"session", "client"} {
		f := function(t, pack, "New")
		for _, of := range []string{"sender", "receiver"} {
			ruled := func(n ast.Node) bool {
				c, ok := n.(*ast.CompositeLit)
				return ok && len(c.Elts) > 0 && c.Type != nil && ofPackage(of, "Rule")(c.Type)
			}
			if !has(f.Body, ruled) {
				t.Errorf("New of %s makes no rule of a %s", pack, of)
			}
		}
	}
}

// isMap: is it a map's type?
func isMap(n ast.Node) bool {
	_, ok := n.(*ast.MapType)
	return ok
}

// typeOf: what a package's type of that name is made of.
func typeOf(t *testing.T, pack, name string) ast.Expr {
	t.Helper()
	for _, s := range sources(t, token.NewFileSet(), pack) {
		for _, d := range s.file.Decls {
			g, ok := d.(*ast.GenDecl)
			if !ok {
				continue
			}
			for _, spec := range g.Specs {
				if ts, ok := spec.(*ast.TypeSpec); ok && ts.Name.Name == name {
					return ts.Type
				}
			}
		}
	}
	t.Fatalf("package %s has no type %s", pack, name)
	return nil
}

// arrayOf: is it an array of things of that name?
func arrayOf(name string) func(ast.Node) bool {
	return func(n ast.Node) bool {
		a, ok := n.(*ast.ArrayType)
		if !ok || a.Len == nil {
			return false
		}
		of, ok := a.Elt.(*ast.Ident)
		return ok && of.Name == name
	}
}

// rangesOver: is it a range over a name?
func rangesOver(name string) func(ast.Node) bool {
	return func(n ast.Node) bool {
		r, ok := n.(*ast.RangeStmt)
		if !ok {
			return false
		}
		over, ok := r.X.(*ast.Ident)
		return ok && over.Name == name
	}
}

// Stage 10: slots are maps, in an array of wheels.
func TestSlotsAreMapsInAnArrayOfWheels(t *testing.T) {
	if !isMap(typeOf(t, "wheel", "slot")) {
		t.Error("a slot isn't a map")
	}
	if !arrayOf("slot")(typeOf(t, "wheel", "ring")) || !has(typeOf(t, "wheel", "Wheel"), arrayOf("ring")) {
		t.Error("a wheel isn't an array of arrays of slots")
	}
}

// Stage 10: slots are gone through, deleted from, cleared.
func TestSlotsAreGoneThroughDeletedFromCleared(t *testing.T) {
	for name, holds := range map[string]func(ast.Node) bool{"listed": rangesOver("timers"), "least": rangesOver("s"), "Cancel": calling("delete"), "enter": calling("clear")} {
		if !has(function(t, "wheel", name).Body, holds) {
			t.Errorf("%s of wheel doesn't do so with a slot", name)
		}
	}
}

// Stage 10: wheels are advanced in a loop that has a label.
func TestWheelsAdvanceByLabel(t *testing.T) {
	f := function(t, "wheel", "Advance")
	if !has(f.Body, loopLeft) || !has(f.Body, loopContinued) {
		t.Error("Advance has no loop that a label leaves and continues")
	}
}

// ofLibrary: is it that name of a package of the library?
func ofLibrary(pack, name string) func(ast.Node) bool {
	return func(n ast.Node) bool {
		s, ok := n.(*ast.SelectorExpr)
		if !ok || s.Sel.Name != name {
			return false
		}
		from, ok := s.X.(*ast.Ident)
		return ok && from.Name == pack
	}
}

// embeds: is it made of what embeds a mutex?
func embeds(n ast.Node) bool {
	f, ok := n.(*ast.Field)
	return ok && len(f.Names) == 0 && ofLibrary("sync", "Mutex")(f.Type)
}

// isUnlockDeferred: is a lock let go by defer, promoted?
func isUnlockDeferred(n ast.Node) bool {
	d, ok := n.(*ast.DeferStmt)
	if !ok {
		return false
	}
	f, ok := d.Call.Fun.(*ast.SelectorExpr)
	if !ok || f.Sel.Name != "Unlock" {
		return false
	}
	_, promoted := f.X.(*ast.Ident)
	return promoted
}

// Stage 10: shards embed a mutex, let go by defer, promoted.
func TestShardsEmbedAMutex(t *testing.T) {
	if !has(typeOf(t, "table", "shard"), embeds) {
		t.Error("a shard embeds no mutex")
	}
	for _, name := range []string{"Insert", "Get", "Put", "Remove", "Ever", "IDs", "entries"} {
		if !has(function(t, "table", name).Body, isUnlockDeferred) {
			t.Errorf("%s of table lets no lock go by defer", name)
		}
	}
}

// Stage 10: how many there are is an atomic number; who is kept is asked of a closure; tables are generic.
func TestTablesAreGenericAndCountAtomically(t *testing.T) {
	if !has(typeOf(t, "table", "places"), ofLibrary("atomic", "Int64")) {
		t.Error("how many there are isn't an atomic number")
	}
	isFunction := func(n ast.Node) bool {
		_, ok := n.(*ast.FuncType)
		return ok
	}
	where := function(t, "table", "Where")
	if !has(where.Type.Params, isFunction) || !has(where.Body, calling("keep")) {
		t.Error("Where asks no closure")
	}
	generic := false
	for _, s := range sources(t, token.NewFileSet(), "table") {
		generic = generic || has(s.file, genericType("Table"))
	}
	if !generic || function(t, "table", "New").Type.TypeParams == nil {
		t.Error("Table isn't generic")
	}
}
