// Package odd hands odd units, images and texts to all layers: no call panics, each ends, none changes what it is handed.
package odd

import (
	"math"
	"math/rand"
	"reflect"
	"strings"
	"testing"

	"governor/agree"
	"governor/api"
	"governor/block"
	"governor/bound"
	"governor/compile"
	"governor/console"
	"governor/flow"
	"governor/gen"
	"governor/graph"
	"governor/image"
	"governor/layout"
	"governor/mean"
	"governor/op"
	"governor/plant"
	"governor/print"
	"governor/rules"
	"governor/samples"
	"governor/scan"
	"governor/script"
	"governor/syntax"
	"governor/table"
	"governor/tree"
	"governor/typing"
	"governor/verify"
	"governor/vm"
)

// odd makes things of any shape.
type odd struct{ *rand.Rand }

func (o odd) number() int {
	of := []int{0, 0, 0, 1, 1, 1, 2, 2, 3, 4, 5, 6, 7, 8, 9, 12, 14, 15, 40, -1, -2, 32767, 32768, -32768, 10000, 10001, math.MaxInt, math.MinInt, math.MaxInt32}
	return of[o.Intn(len(of))]
}

func (o odd) kind(most int) int {
	if o.Intn(20) == 0 {
		return o.number()
	}
	return 1 + o.Intn(most)
}

func (o odd) name() string {
	return []string{"", "A", "B", "C", "I", "P", "x", "y", "M", "N", "T"}[o.Intn(11)]
}

func some[T any](o odd, most int, one func() T) []T {
	n := o.Intn(most + 1)
	if n == 0 && o.Intn(2) == 0 {
		return nil
	}
	all := make([]T, 0, n+o.Intn(3))
	for range n {
		all = append(all, one())
	}
	return all
}

func (o odd) typ() api.Type {
	return api.Type{Kind: o.kind(7), Lo: o.number(), Hi: o.number(), Name: o.name()}
}

func (o odd) variable() api.Var {
	return api.Var{Name: o.name(), Type: o.typ(), Init: o.number(), Dir: o.Intn(4) - 1, Slot: o.number()}
}

func (o odd) expr(deep int) api.Expr {
	e := api.Expr{Kind: o.kind(14), N: o.number(), Name: o.name(), What: o.name()}
	if deep > 0 {
		e.Args = some(o, 2, func() api.Expr { return o.expr(deep - 1) })
	}
	return e
}

func (o odd) list(deep int) []api.Stmt {
	return some(o, 3, func() api.Stmt { return o.stmt(deep) })
}

func (o odd) stmt(deep int) api.Stmt {
	s := api.Stmt{Kind: o.kind(11), N: o.number(), Name: o.name(), Exprs: some(o, 2, func() api.Expr { return o.expr(2) })}
	s.Labels = some(o, 1, func() []int { return some(o, 2, o.number) })
	if deep > 0 {
		s.Blocks = some(o, 2, func() []api.Stmt { return o.list(deep - 1) })
	}
	return s
}

func (o odd) method() api.Method {
	m := api.Method{Name: o.name(), Over: o.Intn(2) == 0, Abstract: o.Intn(4) == 0, Final: o.Intn(4) == 0, Body: o.list(2)}
	m.Params, m.Vars = some(o, 3, o.variable), some(o, 3, o.variable)
	if o.Intn(2) == 0 {
		m.Result = o.typ()
	}
	return m
}

func (o odd) unit() api.Unit {
	return api.Unit{Decls: some(o, 6, func() api.Decl {
		d := api.Decl{Kind: o.kind(4), Name: o.name(), Base: o.name(), Abstract: o.Intn(4) == 0, Final: o.Intn(4) == 0, Every: o.number(), First: o.number()}
		d.Faces, d.Vars, d.Methods, d.Body = some(o, 2, o.name), some(o, 4, o.variable), some(o, 3, o.method), o.list(2)
		return d
	})}
}

func (o odd) letters() string {
	return []string{"", "i", "r", "ir", "iir", "x", ">", "i>i", ">", "r>", "iii>i", "iiii>"}[o.Intn(12)]
}

func (o odd) image() api.Image {
	link := func() api.Link { return api.Link{Global: o.number(), Slot: o.number(), Bool: o.Intn(2) == 0} }
	return api.Image{
		Faces: some(o, 2, func() []string { return some(o, 2, o.letters) }),
		Classes: some(o, 3, func() api.Desc {
			return api.Desc{Base: o.number(), Fields: o.letters(), Init: some(o, 2, o.number), VTable: some(o, 3, o.number), Sigs: some(o, 3, o.letters),
				Tables: some(o, 2, func() api.Table { return api.Table{Face: o.number(), Slots: some(o, 2, o.number)} })}
		}),
		Codes: some(o, 3, func() api.Code {
			return api.Code{Class: o.number(), Params: o.letters(), Locals: o.letters(), Ret: o.Intn(2) == 0, Stack: o.number(),
				Ops: some(o, 8, func() api.Op { return api.Op{K: o.kind(35), A: o.number(), B: o.number()} })}
		}),
		Insts: some(o, 2, o.number), Globals: o.letters(), Init: some(o, 3, o.number), Blocks: some(o, 2, o.number),
		Ins: some(o, 2, link), Outs: some(o, 2, link), Jobs: some(o, 2, func() api.Job { return api.Job{Code: o.number(), Every: o.number(), First: o.number()} }),
		D: o.number(), W: o.number(),
	}
}

func TestUnits(t *testing.T) {
	o := odd{rand.New(rand.NewSource(1))}
	for range 5000 {
		u := o.unit()
		before := tree.Copy(u)
		e, l := o.expr(3), o.list(2)
		print.Unit(u)
		print.Expr(e)
		mean.Nodes(e)
		for d := -1; d <= len(u.Decls); d++ {
			decl(o, u, d)
			for m := -1; m < 3; m++ {
				w := api.Where{Decl: d, Method: m}
				typing.Visible(u, w)
				typing.Expr(u, w, e)
				typing.Stmts(u, w, l)
				graph.Calls(u, w)
				graph.Depth(u, w)
				layout.Code(u, w)
			}
		}
		typing.Fits(u, o.typ(), o.typ())
		wrong, cycle := len(rules.Unit(u)) > 0, graph.Cycle(u) >= 0
		layout.Of(u)
		_, err := gen.Image(u)
		_, run := plant.Run(u, api.Scan{In: []int{o.number()}, Ticks: o.number()})
		if (err != nil) != (wrong || cycle) || (run != nil) != (wrong || cycle) {
			t.Errorf("P17.1, P13.1: %v, %v, %v, %v", err, run, wrong, cycle)
		}
		if !reflect.DeepEqual(before, u) {
			t.Fatal("R4: a unit is changed")
		}
	}
}

// decl asks of one declaration.
func decl(o odd, u api.Unit, d int) {
	name := o.name()
	table.Find(u, name)
	table.Chain(u, d)
	table.Faces(u, d)
	table.Is(u, name, o.name())
	table.Method(u, d, name)
	table.Fields(u, d)
	rules.Decl(u, d)
	layout.Class(u, d)
	layout.Face(u, d)
	layout.Global(u, d, name)
	layout.Field(u, d, name)
	layout.Slot(u, d, name)
	layout.Instance(u, d, name)
	layout.Block(u, d, name)
}

func TestImages(t *testing.T) {
	o := odd{rand.New(rand.NewSource(2))}
	for range 40000 {
		im := o.image()
		for c := -1; c <= len(im.Codes); c++ {
			high, ok := flow.Check(im, c)
			if !ok && high != 0 {
				t.Fatal("R2: flow")
			}
			bound.Calls(im, c)
		}
		bound.Of(im)
		why, err := verify.Why(im), verify.Image(im)
		if (why == "") != (err == nil) {
			t.Fatal("P20.1: Why, Image")
		}
		v, refused := vm.New(im)
		if (refused == nil) != (v != nil) || (refused == nil) != (err == nil) {
			t.Fatal("P21.1: New")
		}
		scan.Run(im, api.Scan{In: []int{o.number()}, Ticks: o.number()})
		if b, err := image.Lay(im); err == nil {
			again, err := image.Read(b)
			if err != nil || !image.Same(im, again) {
				t.Fatal("P15.1: there and back")
			}
		}
	}
}

func TestNumbers(t *testing.T) {
	o := odd{rand.New(rand.NewSource(3))}
	for range 40000 {
		b := api.Block{Kind: o.kind(7), Q: o.Intn(2) == 0, Last: o.Intn(2) == 0, On: o.Intn(2) == 0, CV: o.number()}
		block.Step(b, o.Intn(2) == 0, o.number(), o.number())
		op.May(api.Op{K: o.number(), A: o.number(), B: o.number()})
		op.Operands(o.number())
		op.Parts(o.letters())
	}
}

// TestTexts hands over sources and scripts with holes and other bytes in them.
func TestTexts(t *testing.T) {
	o := odd{rand.New(rand.NewSource(4))}
	refused := 0
	for seed := range 1500 {
		src := o.spoil(samples.Source(seed % 300))
		u, wrong := compile.Unit(src)
		syntax.Expr(src)
		if wrong != nil {
			refused++
			if !reflect.DeepEqual(u, api.Unit{}) {
				t.Fatal("R2: compile.Unit")
			}
		}
		for _, w := range wrong {
			if w.Code < api.Lex || w.Code > api.Cycle || w.At < 0 || w.At > max(len(src), 1) {
				t.Fatalf("T5: %v: %s", w, src)
			}
		}
		if seed%10 == 0 && !agree.Agree(src, api.Scan{Ticks: 1}, api.Scan{Ticks: 3, In: []int{4}}) {
			t.Fatalf("T1: %s", src)
		}
		text, err := script.Print(src, api.Scan{Ticks: 1})
		if err != nil {
			t.Fatal(err)
		}
		if _, err := console.Run(o.spoil(text + "!check\n!print\n!depth\n")); err != nil {
			t.Fatal(err)
		}
	}
	if refused < 500 {
		t.Errorf("only %d sources were refused", refused)
	}
}

// spoil changes some bytes, cuts some out, or puts tokens in.
func (o odd) spoil(s string) string {
	for range o.Intn(3) {
		at := o.Intn(len(s))
		switch o.Intn(4) {
		case 0:
			s = s[:at] + string([]byte{byte(o.Intn(256))}) + s[at:]
		case 1:
			s = s[:at] + s[min(len(s), at+o.Intn(12)):]
		case 2:
			s = s[:at] + " " + strings.Fields("( ) [ ] ; : := ?= , END_IF IF THEN METHOD VAR 7 32769 x NULL END_CLASS REF - NOT")[o.Intn(22)] + " " + s[at:]
		case 3:
			s = s[:at]
		}
		if s == "" {
			return "x"
		}
	}
	return s
}
