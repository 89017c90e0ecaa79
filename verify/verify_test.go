package verify_test

import (
	"errors"
	"math/rand"
	"slices"
	"strings"
	"testing"

	"governor/api"
	"governor/diag"
	"governor/gen"
	"governor/image"
	"governor/syntax"
	"governor/verify"
)

const source = `INTERFACE I ; METHOD M ( a : INT ) : INT ; METHOD K ( ) ; END_INTERFACE INTERFACE J ; END_INTERFACE
CLASS ABSTRACT A IMPLEMENTS J ; VAR f : INT := 3 ; VAR r : REF_TO A ; METHOD ABSTRACT K ( ) ; END_METHOD METHOD N ( q : REF_TO A ) : INT ; VAR v : INT ; RETURN f ; END_METHOD END_CLASS
CLASS B EXTENDS A IMPLEMENTS I ; VAR g : BOOL ; METHOD OVERRIDE K ( ) ; END_METHOD METHOD M ( a : INT ) : INT ; RETURN SUPER . N ( NULL ) ; END_METHOD END_CLASS
PROGRAM P ; VAR x : INT := 4 AT IN 1 ; VAR y : BOOL AT OUT 2 ; VAR r : REF_TO I ; VAR b : B ; VAR t : TON ; VAR z : INT AT OUT 3 ; r := REF ( b ) ; z := r . M ( 1 ) + b . N ( AS A ( r ) ) ; STEP t ( y , x ) ; END_PROGRAM
PROGRAM Q ; END_PROGRAM TASK T ( INTERVAL 2 , PRIORITY 3 ) : P ; TASK S ( INTERVAL 1 , PRIORITY 0 ) : Q ;`

// whole is an image that is accepted: codes 0 A.N, 1 B.K, 2 B.M, 3 P, 4 Q.
func whole(t *testing.T) api.Image {
	t.Helper()
	u, _, err := syntax.Parse(source)
	if err != nil {
		t.Fatal(err)
	}
	im, err := gen.Image(u)
	if err != nil {
		t.Fatal(err)
	}
	return im
}

type change struct {
	name string
	do   func(im *api.Image)
}

func why(t *testing.T, want string, changes ...change) {
	t.Helper()
	for _, c := range changes {
		im := whole(t)
		c.do(&im)
		if got := verify.Why(im); got != want {
			t.Errorf("P20.1: %s: %q, want %q", c.name, got, want)
		}
		err := verify.Image(im)
		code, at, _ := diag.Find(err)
		if (want == "") != (err == nil) || want != "" && (code != api.Unsafe || at != 0 || err.Error() != "code 20 at 0" || !errors.Is(err, diag.Of(api.Unsafe)) || errors.Unwrap(err) != nil) {
			t.Errorf("P20.1: %s: %v", c.name, err)
		}
	}
}

func TestAccepted(t *testing.T) {
	if verify.Why(api.Image{}) != "" || verify.Image(api.Image{}) != nil {
		t.Error("P20.1: no image")
	}
	why(t, "", change{"as it is", func(im *api.Image) {}},
		change{"Init at the limits", func(im *api.Image) { im.Init[0], im.Classes[0].Init[0] = -32768, 32767 }},
		change{"one method less in a VTable of a class without instances", func(im *api.Image) { im.Classes[0].VTable[1] = -1 }},
		change{"First and Every at the limits", func(im *api.Image) { im.Jobs[0] = api.Job{Code: 3, Every: 100, First: 9} }},
		change{"two Ins of one Slot and one Global", func(im *api.Image) { im.Ins = append(im.Ins, im.Ins[0]) }},
		change{"100 blocks", func(im *api.Image) { im.Blocks = slices.Repeat([]int{api.FTrig}, 100) }},
		change{"100 Ins", func(im *api.Image) { im.Ins = slices.Repeat(im.Ins, 100) }},
		change{"100 instances", func(im *api.Image) { im.Insts = slices.Repeat(im.Insts, 100) }},
		change{"100 interfaces", func(im *api.Image) { im.Faces = append(im.Faces, make([][]string, 98)...) }},
		change{"100 methods of a Face", func(im *api.Image) { im.Faces = append(im.Faces, slices.Repeat([]string{"r>i"}, 100)) }},
		change{"MaxWords Globals", func(im *api.Image) {
			im.Init = append(im.Init, make([]int, api.MaxWords-len(im.Globals))...)
			im.Globals += strings.Repeat("r", api.MaxWords-len(im.Globals))
		}},
		change{"400 Locals, MaxOps Ops", func(im *api.Image) {
			im.Codes[4].Locals = strings.Repeat("r", 400)
			im.Codes[4].Ops = append(im.Codes[4].Ops, make([]api.Op, api.MaxOps-len(im.Codes[4].Ops))...)
			im.W = max(im.W, 400)
		}},
		change{"an interface of no methods, that a class answers", func(im *api.Image) {
			im.Classes[1].Tables = append(im.Classes[1].Tables, api.Table{Face: 2})
			im.Faces = append(im.Faces, nil)
		}},
	)
}

// TestLimits holds an image of which nearly all is at its limit.
func TestLimits(t *testing.T) {
	base := api.Desc{Base: -1, Fields: strings.Repeat("i", api.MaxWords), Init: make([]int, api.MaxWords), VTable: slices.Repeat([]int{-1}, 100), Sigs: slices.Repeat([]string{"iri>"}, 100)}
	for f := range 100 {
		base.Tables = append(base.Tables, api.Table{Face: f})
	}
	heir := base
	heir.Base, heir.VTable = 0, slices.Clone(base.VTable)
	heir.VTable[99] = 1
	ret := []api.Op{{K: api.OpRet}}
	im := api.Image{Faces: make([][]string, 100), Classes: []api.Desc{base, heir}, Codes: []api.Code{{Class: -1, Ops: ret}, {Class: 1, Params: "iri", Ops: ret}},
		Globals: "i", Init: []int{0}, Ins: []api.Link{{}}, Outs: []api.Link{{}}, Jobs: []api.Job{{Every: 1}}, D: 1}
	if why := verify.Why(im); why != "" {
		t.Errorf("P20.1: at the limits: %s", why)
	}
	im.Classes[0].VTable[99] = 1
	if why := verify.Why(im); why != "tables" {
		t.Errorf("P20.1: an heir's code: %s", why)
	}
}

func TestSizes(t *testing.T) {
	well := []change{
		{"Faces", func(im *api.Image) { im.Faces = make([][]string, 101) }}, {"Classes", func(im *api.Image) { im.Classes = make([]api.Desc, 101) }}, {"Codes", func(im *api.Image) { im.Codes = make([]api.Code, 101) }}, {"Insts", func(im *api.Image) { im.Insts = make([]int, 101) }}, {"Blocks", func(im *api.Image) { im.Blocks = make([]int, 101) }},
		{"Ins", func(im *api.Image) { im.Ins = make([]api.Link, 101) }}, {"Outs", func(im *api.Image) { im.Outs = make([]api.Link, 101) }}, {"Jobs", func(im *api.Image) { im.Jobs = make([]api.Job, 101) }}, {"Globals", func(im *api.Image) { im.Globals = strings.Repeat("x", 10001) }}, {"Ops", func(im *api.Image) { im.Codes[0].Ops = make([]api.Op, 10001) }},
		{"Locals", func(im *api.Image) { im.Codes[1].Locals = strings.Repeat("x", 401) }}, {"a Face", func(im *api.Image) { im.Faces[1] = make([]string, 101) }}, {"Sigs", func(im *api.Image) { im.Classes[1].Sigs = make([]string, 101) }}, {"Tables", func(im *api.Image) { im.Classes[1].Tables = make([]api.Table, 101) }}, {"Fields", func(im *api.Image) { im.Classes[0].Fields = strings.Repeat("x", 10001) }},
	}
	why(t, "sizes", well...)
}

func TestLetters(t *testing.T) {
	why(t, "letters",
		change{"Globals", func(im *api.Image) { im.Globals = "x" + im.Globals[1:] }}, change{"in the midst", func(im *api.Image) { im.Globals = "i" + "x" + im.Globals[2:] }}, change{"Fields", func(im *api.Image) { im.Classes[0].Fields = "iI" }}, change{"Params", func(im *api.Image) { im.Codes[0].Params = "R" }}, change{"Locals", func(im *api.Image) { im.Codes[0].Locals = "i " }},
		change{"four Params", func(im *api.Image) { im.Codes[0].Params = "iiii" }}, change{"a short Init", func(im *api.Image) { im.Init = im.Init[1:] }}, change{"a long Init", func(im *api.Image) { im.Init = append(im.Init, 0) }}, change{"a class's Init", func(im *api.Image) { im.Classes[1].Init = nil }},
		change{"too great", func(im *api.Image) { im.Init[0] = 32768 }}, change{"too small", func(im *api.Image) { im.Classes[0].Init[0] = -32769 }}, change{"a reference", func(im *api.Image) { im.Init[2] = 1 }}, change{"a field's reference", func(im *api.Image) { im.Classes[0].Init[1] = 1 }},
		change{"letters go ahead of classes", func(im *api.Image) { im.Init[0], im.Classes[0].Base = 40000, 9 }})
}

func TestClasses(t *testing.T) {
	why(t, "classes",
		change{"a Base that is the class", func(im *api.Image) { im.Classes[0].Base = 0 }}, change{"a Base behind", func(im *api.Image) { im.Classes[0].Base = 1 }}, change{"Base -2", func(im *api.Image) { im.Classes[1].Base = -2 }}, change{"Base 7", func(im *api.Image) { im.Classes[1].Base = 7 }},
		change{"other fields", func(im *api.Image) { im.Classes[1].Fields = "ii" + im.Classes[1].Fields[2:] }}, change{"less fields", func(im *api.Image) { im.Classes[1].Fields, im.Classes[1].Init = "i", []int{0} }}, change{"other Sigs", func(im *api.Image) { im.Classes[1].Sigs[0] = ">i" }}, change{"less Sigs", func(im *api.Image) {
			im.Classes[1].Sigs, im.Classes[1].VTable = im.Classes[1].Sigs[:1], im.Classes[1].VTable[:1]
		}},
		change{"a short VTable", func(im *api.Image) { im.Classes[1].VTable = im.Classes[1].VTable[:2] }}, change{"a long VTable", func(im *api.Image) { im.Classes[1].VTable = append(im.Classes[1].VTable, -1) }}, change{"no Sig", func(im *api.Image) { im.Classes[1].Sigs[2] = "i" }}, change{"a Face's", func(im *api.Image) { im.Faces[0][0] = "iiii>" }})
}

func TestTables(t *testing.T) {
	why(t, "tables",
		change{"a program's code", func(im *api.Image) { im.Classes[1].VTable[0] = 4 }}, change{"an heir's code", func(im *api.Image) { im.Classes[0].VTable[0] = 1 }}, change{"no code", func(im *api.Image) { im.Classes[1].VTable[0] = 5 }}, change{"-2", func(im *api.Image) { im.Classes[1].VTable[0] = -2 }}, change{"another Sig", func(im *api.Image) { im.Classes[1].VTable[0] = 0 }}, change{"another Ret", func(im *api.Image) { im.Codes[1].Ret = true }},
		change{"no Face", func(im *api.Image) { im.Classes[1].Tables[0].Face = 2 }}, change{"Face -1", func(im *api.Image) { im.Classes[1].Tables[0].Face = -1 }}, change{"not rising", func(im *api.Image) { slices.Reverse(im.Classes[1].Tables) }}, change{"twice", func(im *api.Image) { im.Classes[1].Tables[1] = im.Classes[1].Tables[0] }}, change{"too few Slots", func(im *api.Image) { im.Classes[1].Tables[0].Slots = []int{2} }}, change{"too many Slots", func(im *api.Image) { im.Classes[1].Tables[1].Slots = []int{-1} }},
		change{"another Sig of a Slot", func(im *api.Image) { im.Classes[1].Tables[0].Slots[0] = 1 }}, change{"no code of a Slot", func(im *api.Image) { im.Classes[1].Tables[0].Slots[1] = 99 }}, change{"a class of a code that is none", func(im *api.Image) { im.Codes[1].Class = 77 }}, change{"the Class of another", func(im *api.Image) { im.Codes[0].Class = 1 }})
}

func TestThings(t *testing.T) {
	why(t, "things",
		change{"an instance of what is abstract", func(im *api.Image) { im.Insts[0] = 0 }}, change{"of no class", func(im *api.Image) { im.Insts[0] = 2 }}, change{"of -1", func(im *api.Image) { im.Insts[0] = -1 }}, change{"-1 in a table", func(im *api.Image) { im.Classes[1].Tables[0].Slots[0] = -1 }}, change{"-1 in a VTable", func(im *api.Image) { im.Classes[1].VTable[2] = -1 }},
		change{"block 0", func(im *api.Image) { im.Blocks[0] = 0 }}, change{"block 8", func(im *api.Image) { im.Blocks[0] = 8 }}, change{"a Link's Global", func(im *api.Image) { im.Ins[0].Global = 4 }}, change{"Global -1", func(im *api.Image) { im.Outs[0].Global = -1 }}, change{"a reference", func(im *api.Image) { im.Outs[0].Global = 2 }}, change{"Slot 8", func(im *api.Image) { im.Ins[0].Slot = 8 }}, change{"Slot -1", func(im *api.Image) { im.Outs[0].Slot = -1 }}, change{"two Outs of one Slot", func(im *api.Image) { im.Outs[0].Slot = im.Outs[1].Slot }},
		change{"a method's Job", func(im *api.Image) { im.Jobs[0].Code = 0 }}, change{"no code's", func(im *api.Image) { im.Jobs[0].Code = 5 }}, change{"-1's", func(im *api.Image) { im.Jobs[0].Code = -1 }}, change{"two of one", func(im *api.Image) { im.Jobs[0].Code = im.Jobs[1].Code }}, change{"Every 0", func(im *api.Image) { im.Jobs[0].Every = 0 }}, change{"Every 101", func(im *api.Image) { im.Jobs[0].Every = 101 }}, change{"First -1", func(im *api.Image) { im.Jobs[0].First = -1 }}, change{"First 10", func(im *api.Image) { im.Jobs[0].First = 10 }})
}

func TestCodesAndBounds(t *testing.T) {
	why(t, "codes",
		change{"no class", func(im *api.Image) { im.Codes = append(im.Codes, api.Code{Class: 2, Ops: im.Codes[4].Ops}) }}, change{"class -2", func(im *api.Image) { im.Codes = append(im.Codes, api.Code{Class: -2, Ops: im.Codes[4].Ops}) }}, change{"a program's Params", func(im *api.Image) { im.Codes[4].Params = "i" }}, change{"a program answers", func(im *api.Image) {
			im.Codes[4].Ret, im.Codes[4].Stack = true, 1
			im.Codes[4].Ops = []api.Op{{K: api.OpPush}, {K: api.OpRetV}}
		}},
		change{"Stack", func(im *api.Image) { im.Codes[3].Stack++ }}, change{"Ops", func(im *api.Image) { im.Codes[2].Ops = nil }}, change{"a jump behind the end", func(im *api.Image) { im.Codes[4].Ops = []api.Op{{K: api.OpJump, A: 1}} }}, change{"an operand", func(im *api.Image) { im.Codes[4].Ops[0].B = 1 }})
	why(t, "bounds", change{"D", func(im *api.Image) { im.D++ }}, change{"W", func(im *api.Image) { im.W-- }}, change{"a ring", func(im *api.Image) {
		im.Codes[0].Ops = []api.Op{{K: api.OpNull}, {K: api.OpThis, A: 1}, {K: api.OpRetV}}
	}}, change{"a ring that no way leads to", func(im *api.Image) { im.Codes[0].Ops = append(im.Codes[0].Ops, api.Op{K: api.OpThis, A: 1}) }})
}

// TestOtherBytes holds P20.2: what is accepted, whatever made it, runs without a panic, within D and W.
func TestOtherBytes(t *testing.T) {
	random := rand.New(rand.NewSource(5))
	laid, err := image.Lay(whole(t))
	if err != nil {
		t.Fatal(err)
	}
	accepted := 0
	for range 12000 {
		b := slices.Clone(laid)
		for range 1 + random.Intn(4) {
			b[random.Intn(len(b)/4)*4+2+random.Intn(2)] = byte(random.Intn(9))
		}
		im, err := image.Read(b)
		if err != nil || verify.Image(im) != nil {
			continue
		}
		accepted++
		run(t, im, random)
	}
	if accepted < 200 {
		t.Errorf("only %d were accepted", accepted)
	}
}

// TestOtherOps holds the same of codes with other instructions.
func TestOtherOps(t *testing.T) {
	random := rand.New(rand.NewSource(6))
	accepted := 0
	for range 25000 {
		im := whole(t)
		c := &im.Codes[random.Intn(5)]
		for range 1 + random.Intn(3) {
			o := &c.Ops[random.Intn(len(c.Ops))]
			switch random.Intn(3) {
			case 0:
				o.K = 1 + random.Intn(35)
			case 1:
				o.A = random.Intn(8)
			case 2:
				o.B = random.Intn(3)
			}
		}
		settle(&im)
		if verify.Image(im) == nil {
			accepted++
			run(t, im, random)
		}
	}
	if accepted < 200 {
		t.Errorf("only %d were accepted", accepted)
	}
}
