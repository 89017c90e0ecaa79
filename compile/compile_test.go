package compile_test

import (
	"errors"
	"reflect"
	"slices"
	"strings"
	"testing"

	"governor/api"
	"governor/compile"
	"governor/diag"
	"governor/gen"
	"governor/graph"
	"governor/image"
	"governor/print"
	"governor/samples"
	"governor/syntax"
	"governor/verify"
)

const ring = "CLASS A ; METHOD M ( ) ; THIS . M ( ) ; END_METHOD END_CLASS "

func TestDiagnostics(t *testing.T) {
	for _, c := range []struct {
		src  string
		want []api.Wrong
	}{
		{"", nil}, {"PROGRAM P ; END_PROGRAM", nil}, {" x", []api.Wrong{{Code: api.Syntax, At: 1}}}, {"PROGRAM P ; VAR x : REAL ; END_PROGRAM", []api.Wrong{{Code: api.Real, At: 20}}}, {"PROGRAM P ; $", []api.Wrong{{Code: api.Lex, At: 12}}}, {"PROGRAM P ;", []api.Wrong{{Code: api.Syntax, At: 11}}},
		{strings.Repeat(" ", 6001), []api.Wrong{{Code: api.Size, At: 6000}}}, {"PROGRAM P ; x := ((((((1)))))) ; END_PROGRAM", []api.Wrong{{Code: api.Deep, At: 23}}},
		{" PROGRAM P ; x := 1 ; END_PROGRAM PROGRAM Q ; END_PROGRAM TASK T ( INTERVAL 0 , PRIORITY 0 ) : Q ; CLASS Q ; END_CLASS", []api.Wrong{{Code: api.Unknown, At: 1}, {Code: api.Task, At: 58}, {Code: api.Twice, At: 99}}},
		{" PROGRAM P ; END_PROGRAM " + ring, []api.Wrong{{Code: api.Cycle, At: 25}}}, {ring + "PROGRAM P ; EXIT ; END_PROGRAM", []api.Wrong{{Code: api.Typing, At: len(ring)}}}, {ring + strings.Replace(ring, "CLASS A", "CLASS B", 1), []api.Wrong{{Code: api.Cycle, At: 0}}},
	} {
		u, wrong := compile.Unit(c.src)
		if !slices.Equal(wrong, c.want) || wrong != nil && !reflect.DeepEqual(u, api.Unit{}) {
			t.Errorf("P23.1: Unit(%.40q): %v, want %v", c.src, wrong, c.want)
		}
		im, wrong := compile.Source(c.src)
		if !slices.Equal(wrong, c.want) || wrong != nil && !reflect.DeepEqual(im, api.Image{}) {
			t.Errorf("P23.1: Source(%.40q): %v, want %v", c.src, wrong, c.want)
		}
	}
	if im, _ := compile.Source(""); !reflect.DeepEqual(im, api.Image{}) {
		t.Errorf("P23.1: an image of nothing: %v", im)
	}
}

// TestSamples holds T3 to T5: each source has an image that is accepted, or diagnostics at places in it.
func TestSamples(t *testing.T) {
	images := 0
	for seed := range 400 {
		src := samples.Source(seed)
		if seed%4 == 3 {
			// A source with a hole in it.
			at := seed * 37 % len(src)
			src = src[:at] + src[min(len(src), at+seed%9):]
		}
		u, wrong := compile.Unit(src)
		im, again := compile.Source(src)
		if !slices.Equal(wrong, again) {
			t.Errorf("P23.1: %d: %v, %v", seed, wrong, again)
		}
		for _, w := range wrong {
			if w.Code < api.Lex || w.Code > api.Cycle || w.At < 0 || w.At > len(src) {
				t.Errorf("T5: %d: %v", seed, w)
			}
		}
		if wrong != nil {
			continue
		}
		images++
		tree, _, err := syntax.Parse(src)
		made, _ := gen.Image(u)
		if err != nil || !reflect.DeepEqual(tree, u) || !image.Same(made, im) || verify.Why(im) != "" {
			t.Errorf("P23.1: %d", seed)
		}
		if read, _, err := syntax.Parse(print.Unit(u)); len(print.Unit(u)) <= api.MaxSource && (err != nil || !reflect.DeepEqual(read, u)) {
			t.Errorf("T5: %d", seed)
		}
		depth := 0
		for d := range u.Decls {
			depth = max(depth, graph.Depth(u, api.Where{Decl: d, Method: -1}))
		}
		if im.D != depth {
			t.Errorf("T4: %d: %d, %d", seed, im.D, depth)
		}
	}
	if images < 200 {
		t.Errorf("only %d images", images)
	}
}

func TestErr(t *testing.T) {
	if compile.Err() != nil || compile.Err([]api.Wrong{}...) != nil {
		t.Error("P23.1: Err of none")
	}
	ws := []api.Wrong{{Code: 3, At: 7}, {Code: 5, At: 0}, {Code: 3, At: 9}}
	err := compile.Err(ws...)
	if !slices.Equal(diag.Chain(err), ws) || err.Error() != "code 3 at 7: code 5 at 0: code 3 at 9" || !errors.Is(err, diag.Of(5)) || errors.Is(err, diag.Of(4)) {
		t.Errorf("P23.1: %v", err)
	}
	var e *diag.Error
	if !errors.As(err, &e) || e.Code != 3 || e.At != 7 || errors.Unwrap(compile.Err(ws[0])) != nil {
		t.Errorf("P23.1: %v", e)
	}
	many := make([]api.Wrong, 150)
	for i := range many {
		many[i] = api.Wrong{Code: i, At: -i}
	}
	long := compile.Err(many...)
	if !slices.Equal(diag.Chain(long), many[:100]) || !errors.Is(long, diag.Of(149)) {
		t.Error("P23.1: many")
	}
	ws[0].Code = 9
	if code, _, _ := diag.Find(err); code != 3 {
		t.Error("R4: Err")
	}
}
