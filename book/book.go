// Package book looks things up in a unit, and keeps what was found for the next time.
package book

import (
	"slices"

	"governor/api"
)

// A unit of more declarations than these has its names in a map.
const short = 32

// None is the number of a declaration that is none.
const None = -1

// So many chains are kept at most: all chains of many classes would take too much room.
const mostChains = 64

// What is kept of a question: answers are numbers, 0 of one that was not asked.
const (
	yes = 1
	no  = 2
)

// Book is a unit that is asked more than once, and not changed meanwhile.
type Book struct {
	Unit    api.Unit
	names   map[string]int
	notes   []note
	kin     map[pair]int
	methods map[member]found
	chains  map[int][]int
	turn    int
}

// note is what was found of a declaration: of a class its base, and its own interfaces; of one with many methods where
// each name stands first. A walk stamps those that it met.
type note struct {
	related bool
	base    int
	faces   []int
	methods map[string]int
	stamp   int
}

type pair struct{ name, what string }

type member struct {
	decl int
	name string
}

// found is where a method is, if there is one.
type found struct {
	where api.Where
	ok    bool
}

// Of opens a book of a unit.
func Of(u api.Unit) *Book {
	return &Book{Unit: u, kin: map[pair]int{}, methods: map[member]found{}, chains: map[int][]int{}}
}

func (b *Book) note(d int) *note {
	if b.notes == nil {
		b.notes = make([]note, len(b.Unit.Decls))
	}
	return &b.notes[d]
}

// Has tells whether d is a declaration of a kind.
func (b *Book) Has(d int, kind int) bool {
	return d >= 0 && d < len(b.Unit.Decls) && b.Unit.Decls[d].Kind == kind
}

// Find is the first declaration of a name; -1, if there is none.
func (b *Book) Find(name string) int {
	if len(b.Unit.Decls) > short {
		return b.look(name)
	}
	for d := range b.Unit.Decls {
		if b.Unit.Decls[d].Name == name {
			return d
		}
	}
	return None
}

// look finds a name of a long unit.
func (b *Book) look(name string) int {
	if b.names == nil {
		b.names = map[string]int{}
		for d := len(b.Unit.Decls) - 1; d >= 0; d-- {
			b.names[b.Unit.Decls[d].Name] = d
		}
	}
	if d, ok := b.names[name]; ok {
		return d
	}
	return None
}

// Typed is the first declaration of a name, if that is a class or an interface; else -1.
func (b *Book) Typed(name string) int {
	d := b.Find(name)
	if b.Has(d, api.Class) || b.Has(d, api.Interface) {
		return d
	}
	return -1
}

// Chain is a class, its base, and so on, as long as there is one that was not met. It is not to be changed.
func (b *Book) Chain(d int) []int {
	chain, kept := b.chains[d]
	if !kept {
		if len(b.chains) >= mostChains {
			clear(b.chains)
		}
		chain = b.walk(d)
		b.chains[d] = chain
	}
	return chain
}

func (b *Book) walk(d int) []int {
	var chain []int
	first := b.begin()
	for b.Has(d, api.Class) && first(d) {
		chain = append(chain, d)
		d = b.relate(d).base
	}
	return chain
}

// begin tells of each declaration whether it is asked about for the first time from now on.
func (b *Book) begin() func(d int) bool {
	b.turn++
	turn := b.turn
	return func(d int) bool {
		n := b.note(d)
		met := n.stamp == turn
		n.stamp = turn
		return !met
	}
}

// relate finds a class's base and its own interfaces.
func (b *Book) relate(d int) *note {
	n := b.note(d)
	if n.related {
		return n
	}
	n.related, n.base = true, b.Find(b.Unit.Decls[d].Base)
	if !b.Has(n.base, api.Class) {
		n.base = None
	}
	for _, name := range b.Unit.Decls[d].Faces {
		if f := b.Find(name); b.Has(f, api.Interface) {
			n.faces = append(n.faces, f)
		}
	}
	return n
}

// Next is the base of a class; -1, if it has none.
func (b *Book) Next(d int) int {
	if !b.Has(d, api.Class) || b.relate(d).base == d {
		return None
	}
	return b.relate(d).base
}

// Faces are the interfaces of a class and of those it extends, each once.
func (b *Book) Faces(d int) []int {
	var faces []int
	chain := b.Chain(d)
	first := b.begin()
	for _, c := range chain {
		for _, f := range b.relate(c).faces {
			if first(f) {
				faces = append(faces, f)
			}
		}
	}
	return faces
}

// Is tells whether what is of one name is of the other, too.
func (b *Book) Is(name string, what string) bool {
	key := pair{name, what}
	if b.kin[key] == 0 {
		b.kin[key] = no
		if b.comes(b.Typed(name), name, what) {
			b.kin[key] = yes
		}
	}
	return b.kin[key] == yes
}

func (b *Book) comes(d int, name string, what string) bool {
	if d < 0 || name == what {
		return d >= 0
	}
	of := b.Find(what)
	if !b.Has(of, api.Class) && !b.Has(of, api.Interface) {
		return false
	}
	first := b.begin()
	for b.Has(d, api.Class) && first(d) {
		n := b.relate(d)
		if d == of || slices.Contains(n.faces, of) {
			return true
		}
		d = n.base
	}
	return false
}

// Method is where a class or an interface has a method of a name.
func (b *Book) Method(d int, name string) (api.Where, bool) {
	key := member{d, name}
	f, asked := b.methods[key]
	if !asked {
		f = b.search(d, name)
		b.methods[key] = f
	}
	if !f.ok {
		return api.Where{}, false
	}
	return f.where, true
}

func (b *Book) search(d int, name string) found {
	if b.Has(d, api.Interface) {
		return b.own(d, name)
	}
	first := b.begin()
	for b.Has(d, api.Class) && first(d) {
		if f := b.own(d, name); f.ok {
			return f
		}
		d = b.relate(d).base
	}
	return found{}
}

// own is a method that stands in a declaration itself.
func (b *Book) own(d int, name string) found {
	methods := b.Unit.Decls[d].Methods
	if len(methods) > short {
		m, ok := b.sorted(d)[name]
		return found{api.Where{Decl: d, Method: m}, ok}
	}
	for m := range methods {
		if methods[m].Name == name {
			return found{api.Where{Decl: d, Method: m}, true}
		}
	}
	return found{}
}

// sorted tells where each method of a declaration stands first.
func (b *Book) sorted(d int) map[string]int {
	n := b.note(d)
	if n.methods == nil {
		n.methods = map[string]int{}
		for m := len(b.Unit.Decls[d].Methods) - 1; m >= 0; m-- {
			n.methods[b.Unit.Decls[d].Methods[m].Name] = m
		}
	}
	return n.methods
}

// At is the method of a place.
func (b *Book) At(w api.Where) *api.Method {
	return &b.Unit.Decls[w.Decl].Methods[w.Method]
}

// Fields are the variables of a class and of those it extends, or of a program.
func (b *Book) Fields(d int) []api.Var {
	if b.Has(d, api.Program) {
		return append([]api.Var(nil), b.Unit.Decls[d].Vars...)
	}
	var fields []api.Var
	chain := b.Chain(d)
	for i := len(chain) - 1; i >= 0; i-- {
		fields = append(fields, b.Unit.Decls[chain[i]].Vars...)
	}
	return fields
}

// IsBody tells whether a place is a program's body.
func (b *Book) IsBody(w api.Where) bool {
	return w.Method == -1 && b.Has(w.Decl, api.Program)
}

// IsMethod tells whether a place is a method of a class.
func (b *Book) IsMethod(w api.Where) bool {
	return b.Has(w.Decl, api.Class) && w.Method >= 0 && w.Method < len(b.Unit.Decls[w.Decl].Methods)
}

// Visible are the variables that a place may name: of one name the first one is meant.
func (b *Book) Visible(w api.Where) []api.Var {
	if b.IsBody(w) {
		return b.Fields(w.Decl)
	}
	if !b.IsMethod(w) {
		return nil
	}
	m := b.At(w)
	vars := append([]api.Var(nil), m.Params...)
	vars = append(vars, m.Vars...)
	return append(vars, b.Fields(w.Decl)...)
}

// Var is the variable that a place means by a name.
func (b *Book) Var(w api.Where, name string) (api.Var, bool) {
	var lists [][]api.Var
	if b.IsMethod(w) {
		lists = append(lists, b.At(w).Params, b.At(w).Vars)
	}
	if b.IsBody(w) {
		lists = append(lists, b.Unit.Decls[w.Decl].Vars)
	}
	for _, list := range lists {
		if i := indexOf(list, name); i >= 0 {
			return list[i], true
		}
	}
	if !b.IsMethod(w) {
		return api.Var{}, false
	}
	chain := b.Chain(w.Decl)
	for i := len(chain) - 1; i >= 0; i-- {
		fields := b.Unit.Decls[chain[i]].Vars
		if f := indexOf(fields, name); f >= 0 {
			return fields[f], true
		}
	}
	return api.Var{}, false
}

func indexOf(vars []api.Var, name string) int {
	for i := range vars {
		if vars[i].Name == name {
			return i
		}
	}
	return -1
}

// Body are the statements of a place.
func (b *Book) Body(w api.Where) []api.Stmt {
	if b.IsBody(w) {
		return b.Unit.Decls[w.Decl].Body
	}
	if b.IsMethod(w) {
		return b.At(w).Body
	}
	return nil
}
