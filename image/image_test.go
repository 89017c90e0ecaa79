package image

import (
	"bytes"
	"encoding/binary"
	"math"
	"math/rand"
	"reflect"
	"strings"
	"testing"

	"governor/api"
	"governor/diag"
)

func sample() api.Image {
	return api.Image{
		Faces:   [][]string{{"i>i", ">"}, nil, {"rr>"}},
		Classes: []api.Desc{{Base: -1, Fields: "ir", Init: []int{5, 0}, VTable: []int{-1, 2}, Sigs: []string{">", "i>i"}, Tables: []api.Table{{Face: 1}, {Face: 2, Slots: []int{-1, 3}}}}, {}},
		Codes:   []api.Code{{Class: 1, Params: "ir", Locals: "i", Ret: true, Stack: 7, Ops: []api.Op{{K: 1, A: -2, B: 3}, {K: 29}}}, {Class: -1}},
		Insts:   []int{0, 1}, Globals: "iir", Init: []int{1, -2, 0}, Blocks: []int{7}, Ins: []api.Link{{Global: 1, Slot: 2, Bool: true}}, Outs: []api.Link{{Global: 2, Slot: 1}}, Jobs: []api.Job{{Code: 1, Every: 2, First: 3}}, D: 4, W: 5,
	}
}

// words are the bytes of numbers and texts, in order.
func words(all ...any) []byte {
	var b []byte
	for _, x := range all {
		switch x := x.(type) {
		case int:
			b = binary.BigEndian.AppendUint32(b, uint32(int32(x)))
		case string:
			b = append(binary.BigEndian.AppendUint32(b, uint32(len(x))), x...)
		}
	}
	return b
}

func TestBytes(t *testing.T) {
	want := words("gov-1", 3, 2, "i>i", ">", 0, 1, "rr>",
		2, -1, "ir", 2, 5, 0, 2, -1, 2, 2, ">", "i>i", 2, 1, 0, 2, 2, -1, 3, 0, "", 0, 0, 0, 0,
		2, 1, "ir", "i", 1, 7, 2, 1, -2, 3, 29, 0, 0, -1, "", "", 0, 0, 0,
		2, 0, 1, "iir", 3, 1, -2, 0, 1, 7, 1, 1, 2, 1, 1, 2, 1, 0, 1, 1, 2, 3, 4, 5)
	got, err := Lay(sample())
	if err != nil || !bytes.Equal(got, want) {
		t.Errorf("P15.1: Lay: %v, %v", got, err)
	}
	if got, err := Lay(api.Image{}); err != nil || !bytes.Equal(got, words("gov-1", 0, 0, 0, 0, "", 0, 0, 0, 0, 0, 0, 0)) {
		t.Errorf("P15.1: Lay of nothing: %v, %v", got, err)
	}
	im, err := Read(want)
	if err != nil || !Same(im, sample()) {
		t.Errorf("P15.1: Read: %v, %v", im, err)
	}
	before := bytes.Clone(want)
	im.Codes[0].Ops[0].A = 9
	if !bytes.Equal(want, before) {
		t.Error("R4: Read")
	}
}

func TestReadOfOtherBytes(t *testing.T) {
	whole, _ := Lay(sample())
	refused := func(b []byte, what string) {
		t.Helper()
		im, err := Read(b)
		if code, at, _ := diag.Find(err); code != api.Form || at != 0 || !reflect.DeepEqual(im, api.Image{}) {
			t.Errorf("P15.1: %s: %v", what, err)
		}
	}
	for n := range whole {
		refused(whole[:n], "cut")
	}
	refused(append(bytes.Clone(whole), 0), "more behind")
	refused(nil, "nothing")
	for _, first := range []string{"gov-2", "gov-1 ", "gov-", ""} {
		refused(append(words(first), whole[9:]...), first)
	}
	empty := func(at int, n int) []byte {
		b := words("gov-1", 0, 0, 0, 0, "", 0, 0, 0, 0, 0, 0, 0)
		copy(b[9+4*at:], words(n))
		return b
	}
	for at := range 10 {
		for _, n := range []int{-1, 1, 10001, math.MaxInt32, math.MinInt32} {
			refused(empty(at, n), "a length")
		}
	}
	for _, n := range []int{-1, math.MaxInt32, math.MinInt32} {
		if im, err := Read(empty(10, n)); err != nil || im.D != n {
			t.Errorf("P15.1: D %d: %v", n, err)
		}
	}
	for _, flag := range []int{-1, 2, 256, 1 << 24} {
		refused(words("gov-1", 0, 0, 0, 0, "", 0, 0, 1, 0, 0, flag, 0, 0, 0, 0), "a bool")
	}
	long := strings.Repeat("i", 10000)
	if im, err := Read(words("gov-1", 0, 0, 0, 0, long, 0, 0, 0, 0, 0, 0, 0)); err != nil || im.Globals != long {
		t.Error("P15.1: a text of MaxWords")
	}
	refused(words("gov-1", 0, 0, 0, 0, long+"i", 0, 0, 0, 0, 0, 0, 0), "a text that is too long")
	refused(append(words("gov-1", 0, 0, 0, 10001), make([]byte, 50000)...), "a list that is too long")
}

func TestFull(t *testing.T) {
	numbers := map[string]func(im *api.Image, n int){
		"D": func(im *api.Image, n int) { im.D = n }, "W": func(im *api.Image, n int) { im.W = n }, "Insts": func(im *api.Image, n int) { im.Insts[1] = n }, "Init": func(im *api.Image, n int) { im.Init[0] = n }, "Blocks": func(im *api.Image, n int) { im.Blocks[0] = n },
		"Base": func(im *api.Image, n int) { im.Classes[0].Base = n }, "VTable": func(im *api.Image, n int) { im.Classes[0].VTable[1] = n }, "class Init": func(im *api.Image, n int) { im.Classes[0].Init[1] = n }, "Face": func(im *api.Image, n int) { im.Classes[0].Tables[0].Face = n }, "Slots": func(im *api.Image, n int) { im.Classes[0].Tables[1].Slots[0] = n },
		"Class": func(im *api.Image, n int) { im.Codes[1].Class = n }, "Stack": func(im *api.Image, n int) { im.Codes[1].Stack = n }, "K": func(im *api.Image, n int) { im.Codes[0].Ops[1].K = n }, "A": func(im *api.Image, n int) { im.Codes[0].Ops[1].A = n }, "B": func(im *api.Image, n int) { im.Codes[0].Ops[1].B = n },
		"Global": func(im *api.Image, n int) { im.Ins[0].Global = n }, "Slot": func(im *api.Image, n int) { im.Outs[0].Slot = n }, "Code": func(im *api.Image, n int) { im.Jobs[0].Code = n }, "Every": func(im *api.Image, n int) { im.Jobs[0].Every = n }, "First": func(im *api.Image, n int) { im.Jobs[0].First = n },
	}
	for name, set := range numbers {
		for n, ok := range map[int]bool{math.MaxInt32: true, math.MinInt32: true, math.MaxInt32 + 1: false, math.MinInt32 - 1: false, math.MaxInt: false, math.MinInt: false} {
			im := sample()
			set(&im, n)
			held(t, im, ok, name)
		}
	}
	lengths := map[string]func(im *api.Image, n int){
		"Faces": func(im *api.Image, n int) { im.Faces = make([][]string, n) }, "a Face": func(im *api.Image, n int) { im.Faces[0] = make([]string, n) }, "a Sig": func(im *api.Image, n int) { im.Faces[0][0] = strings.Repeat("x", n) }, "Classes": func(im *api.Image, n int) { im.Classes = make([]api.Desc, n) }, "Codes": func(im *api.Image, n int) { im.Codes = make([]api.Code, n) },
		"Ops": func(im *api.Image, n int) { im.Codes[0].Ops = make([]api.Op, n) }, "Globals": func(im *api.Image, n int) { im.Globals = strings.Repeat("x", n) }, "Fields": func(im *api.Image, n int) { im.Classes[1].Fields = strings.Repeat("x", n) }, "Params": func(im *api.Image, n int) { im.Codes[0].Params = strings.Repeat("x", n) }, "Locals": func(im *api.Image, n int) { im.Codes[0].Locals = strings.Repeat("x", n) },
		"Insts": func(im *api.Image, n int) { im.Insts = make([]int, n) }, "Init": func(im *api.Image, n int) { im.Init = make([]int, n) }, "Blocks": func(im *api.Image, n int) { im.Blocks = make([]int, n) }, "Ins": func(im *api.Image, n int) { im.Ins = make([]api.Link, n) }, "Outs": func(im *api.Image, n int) { im.Outs = make([]api.Link, n) }, "Jobs": func(im *api.Image, n int) { im.Jobs = make([]api.Job, n) },
		"VTable": func(im *api.Image, n int) { im.Classes[0].VTable = make([]int, n) }, "Sigs": func(im *api.Image, n int) { im.Classes[0].Sigs = make([]string, n) }, "Tables": func(im *api.Image, n int) { im.Classes[0].Tables = make([]api.Table, n) }, "Slots": func(im *api.Image, n int) { im.Classes[0].Tables[0].Slots = make([]int, n) }, "class Init": func(im *api.Image, n int) { im.Classes[0].Init = make([]int, n) },
	}
	for name, set := range lengths {
		for n, ok := range map[int]bool{9999: true, 10000: true, 10001: false} {
			im := sample()
			set(&im, n)
			held(t, im, ok, name)
		}
	}
}

// held lays an image, and reads it again.
func held(t *testing.T, im api.Image, ok bool, name string) {
	t.Helper()
	b, err := Lay(im)
	if !ok {
		if code, at, _ := diag.Find(err); b != nil || code != api.Full || at != 0 {
			t.Errorf("P15.1: %s: %v", name, err)
		}
		return
	}
	again, read := Read(b)
	if err != nil || read != nil || !Same(im, again) {
		t.Errorf("P15.1: %s: %v, %v", name, err, read)
	}
}

func TestSame(t *testing.T) {
	changes := []func(im *api.Image){
		func(im *api.Image) { im.Faces[0][1] = "i>" }, func(im *api.Image) { im.Faces = im.Faces[:2] }, func(im *api.Image) { im.Faces[1] = []string{""} }, func(im *api.Image) { im.Classes[0].Base = 0 }, func(im *api.Image) { im.Classes[0].Fields = "ii" }, func(im *api.Image) { im.Classes[0].Init[0] = 1 }, func(im *api.Image) { im.Classes[0].VTable[0] = 1 }, func(im *api.Image) { im.Classes[0].Sigs[0] = "" },
		func(im *api.Image) { im.Classes[0].Tables[0].Face = 0 }, func(im *api.Image) { im.Classes[0].Tables[1].Slots[1] = 0 }, func(im *api.Image) { im.Classes = im.Classes[:1] }, func(im *api.Image) { im.Codes[0].Class = 0 }, func(im *api.Image) { im.Codes[0].Params = "" }, func(im *api.Image) { im.Codes[0].Locals = "" }, func(im *api.Image) { im.Codes[0].Ret = false }, func(im *api.Image) { im.Codes[0].Stack = 0 }, func(im *api.Image) { im.Codes[0].Ops[0].A = 0 }, func(im *api.Image) { im.Codes[0].Ops = nil },
		func(im *api.Image) { im.Insts[0] = 1 }, func(im *api.Image) { im.Globals = "iii" }, func(im *api.Image) { im.Init[0] = 0 }, func(im *api.Image) { im.Blocks[0] = 1 }, func(im *api.Image) { im.Ins[0].Bool = false }, func(im *api.Image) { im.Outs[0].Slot = 0 }, func(im *api.Image) { im.Jobs[0].First = 0 }, func(im *api.Image) { im.D = 0 }, func(im *api.Image) { im.W = 0 },
	}
	for i, change := range changes {
		im := sample()
		change(&im)
		if Same(im, sample()) || Same(sample(), im) || !Same(im, im) {
			t.Errorf("P15.1: Same, the %d-th change", i)
		}
	}
	empty := api.Image{Faces: [][]string{}, Classes: []api.Desc{}, Insts: []int{}, Init: []int{}, Ins: []api.Link{}}
	if !Same(empty, api.Image{}) {
		t.Error("P15.1: nil and empty")
	}
}

func TestOtherBytesThereAndBack(t *testing.T) {
	random := rand.New(rand.NewSource(3))
	whole, _ := Lay(sample())
	for range 20000 {
		b := bytes.Clone(whole)
		for range 1 + random.Intn(3) {
			b[random.Intn(len(b))] = byte(random.Intn(4))
		}
		im, err := Read(b)
		if err != nil {
			continue
		}
		if again, err := Lay(im); err != nil || !bytes.Equal(again, b) {
			t.Fatalf("P15.1: %v: %v", err, b)
		}
	}
}
