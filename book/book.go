// Package book looks things up in a unit, and keeps what was found for the next time.
package book

import "governor/api"

// A unit of more declarations than these has its names in a map.
const short = 32

// So many chains are kept at most: all chains of many classes would take too much room.
const mostChains = 64

// What is kept of a question: answers are numbers, 0 of one that was not asked.
const (
	yes = 1
	no  = 2
)

// Book is a unit that is asked more than once, and not changed meanwhile.
type Book struct {
	Unit    api.Unit
	first   map[string]int
	kin     map[pair]int
	methods map[member]found
	chains  map[int][]int
	stamps  []int
	turn    int
}

type pair struct{ name, what string }

type member struct {
	decl int
	name string
}

// found is where a method is, if there is one.
type found struct {
	where api.Where
	ok    bool
}

// Of opens a book of a unit.
func Of(u api.Unit) *Book {
	b := &Book{Unit: u, kin: map[pair]int{}, methods: map[member]found{}, chains: map[int][]int{}}
	if len(u.Decls) > short {
		b.first = map[string]int{}
		for d := len(u.Decls) - 1; d >= 0; d-- {
			b.first[u.Decls[d].Name] = d
		}
	}
	return b
}

// Has tells whether d is a declaration of a kind.
func (b *Book) Has(d int, kind int) bool {
	return d >= 0 && d < len(b.Unit.Decls) && b.Unit.Decls[d].Kind == kind
}

// Find is the first declaration of a name; -1, if there is none.
func (b *Book) Find(name string) int {
	if b.first != nil {
		if d, ok := b.first[name]; ok {
			return d
		}
		return -1
	}
	for d := range b.Unit.Decls {
		if b.Unit.Decls[d].Name == name {
			return d
		}
	}
	return -1
}

// Typed is the first declaration of a name, if that is a class or an interface; else -1.
func (b *Book) Typed(name string) int {
	d := b.Find(name)
	if b.Has(d, api.Class) || b.Has(d, api.Interface) {
		return d
	}
	return -1
}

// Chain is a class, its base, and so on, as long as there is one that was not met. It is not to be changed.
func (b *Book) Chain(d int) []int {
	chain, kept := b.chains[d]
	if !kept {
		if len(b.chains) >= mostChains {
			clear(b.chains)
		}
		chain = b.walk(d)
		b.chains[d] = chain
	}
	return chain
}

func (b *Book) walk(d int) []int {
	var chain []int
	first := b.begin()
	for b.Has(d, api.Class) && first(d) {
		chain = append(chain, d)
		d = b.Find(b.Unit.Decls[d].Base)
	}
	return chain
}

// begin tells of each declaration whether it is asked about for the first time from now on.
func (b *Book) begin() func(d int) bool {
	if b.stamps == nil {
		b.stamps = make([]int, len(b.Unit.Decls))
	}
	b.turn++
	turn := b.turn
	return func(d int) bool {
		met := b.stamps[d] == turn
		b.stamps[d] = turn
		return !met
	}
}

// Next is the base of a class; -1, if it has none.
func (b *Book) Next(d int) int {
	if !b.Has(d, api.Class) {
		return -1
	}
	next := b.Find(b.Unit.Decls[d].Base)
	if next == d || !b.Has(next, api.Class) {
		return -1
	}
	return next
}

// Faces are the interfaces of a class and of those it extends, each once.
func (b *Book) Faces(d int) []int {
	var faces []int
	chain := b.Chain(d)
	first := b.begin()
	for _, c := range chain {
		for _, name := range b.Unit.Decls[c].Faces {
			f := b.Find(name)
			if b.Has(f, api.Interface) && first(f) {
				faces = append(faces, f)
			}
		}
	}
	return faces
}

// Is tells whether what is of one name is of the other, too.
func (b *Book) Is(name string, what string) bool {
	key := pair{name, what}
	if b.kin[key] == 0 {
		b.kin[key] = no
		if b.comes(b.Typed(name), name, what) {
			b.kin[key] = yes
		}
	}
	return b.kin[key] == yes
}

func (b *Book) comes(d int, name string, what string) bool {
	if d < 0 || name == what {
		return d >= 0
	}
	of := b.Find(what)
	if !b.Has(of, api.Class) && !b.Has(of, api.Interface) {
		return false
	}
	first := b.begin()
	for b.Has(d, api.Class) && first(d) {
		if d == of || b.Has(of, api.Interface) && b.implements(d, of) {
			return true
		}
		d = b.Find(b.Unit.Decls[d].Base)
	}
	return false
}

// implements tells whether a class names an interface itself.
func (b *Book) implements(d int, face int) bool {
	for _, name := range b.Unit.Decls[d].Faces {
		if b.Find(name) == face {
			return true
		}
	}
	return false
}

// Method is where a class or an interface has a method of a name.
func (b *Book) Method(d int, name string) (api.Where, bool) {
	key := member{d, name}
	f, asked := b.methods[key]
	if !asked {
		f = b.search(d, name)
		b.methods[key] = f
	}
	return f.where, f.ok
}

func (b *Book) search(d int, name string) found {
	if b.Has(d, api.Interface) {
		return b.own(d, name)
	}
	first := b.begin()
	for b.Has(d, api.Class) && first(d) {
		if f := b.own(d, name); f.ok {
			return f
		}
		d = b.Find(b.Unit.Decls[d].Base)
	}
	return found{}
}

// own is a method that stands in a declaration itself.
func (b *Book) own(d int, name string) found {
	for m := range b.Unit.Decls[d].Methods {
		if b.Unit.Decls[d].Methods[m].Name == name {
			return found{api.Where{Decl: d, Method: m}, true}
		}
	}
	return found{}
}

// At is the method of a place.
func (b *Book) At(w api.Where) *api.Method {
	return &b.Unit.Decls[w.Decl].Methods[w.Method]
}

// Fields are the variables of a class and of those it extends, or of a program.
func (b *Book) Fields(d int) []api.Var {
	if b.Has(d, api.Program) {
		return append([]api.Var(nil), b.Unit.Decls[d].Vars...)
	}
	var fields []api.Var
	chain := b.Chain(d)
	for i := len(chain) - 1; i >= 0; i-- {
		fields = append(fields, b.Unit.Decls[chain[i]].Vars...)
	}
	return fields
}

// IsBody tells whether a place is a program's body.
func (b *Book) IsBody(w api.Where) bool {
	return w.Method == -1 && b.Has(w.Decl, api.Program)
}

// IsMethod tells whether a place is a method of a class.
func (b *Book) IsMethod(w api.Where) bool {
	return b.Has(w.Decl, api.Class) && w.Method >= 0 && w.Method < len(b.Unit.Decls[w.Decl].Methods)
}

// Visible are the variables that a place may name: of one name the first one is meant.
func (b *Book) Visible(w api.Where) []api.Var {
	if b.IsBody(w) {
		return b.Fields(w.Decl)
	}
	if !b.IsMethod(w) {
		return nil
	}
	m := b.At(w)
	vars := append([]api.Var(nil), m.Params...)
	vars = append(vars, m.Vars...)
	return append(vars, b.Fields(w.Decl)...)
}

// Var is the variable that a place means by a name.
func (b *Book) Var(w api.Where, name string) (api.Var, bool) {
	var lists [][]api.Var
	if b.IsMethod(w) {
		lists = append(lists, b.At(w).Params, b.At(w).Vars)
	}
	if b.IsBody(w) {
		lists = append(lists, b.Unit.Decls[w.Decl].Vars)
	}
	for _, list := range lists {
		if i := indexOf(list, name); i >= 0 {
			return list[i], true
		}
	}
	if !b.IsMethod(w) {
		return api.Var{}, false
	}
	chain := b.Chain(w.Decl)
	for i := len(chain) - 1; i >= 0; i-- {
		fields := b.Unit.Decls[chain[i]].Vars
		if f := indexOf(fields, name); f >= 0 {
			return fields[f], true
		}
	}
	return api.Var{}, false
}

func indexOf(vars []api.Var, name string) int {
	for i := range vars {
		if vars[i].Name == name {
			return i
		}
	}
	return -1
}

// Body are the statements of a place.
func (b *Book) Body(w api.Where) []api.Stmt {
	if b.IsBody(w) {
		return b.Unit.Decls[w.Decl].Body
	}
	if b.IsMethod(w) {
		return b.At(w).Body
	}
	return nil
}
