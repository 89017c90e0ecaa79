// Package book looks things up in a unit, and keeps what was found for the next time.
package book

import "governor/api"

// A unit of more declarations than these has its names in a map.
const short = 32

// So many chains are kept at most: all chains of many classes would take too much room.
const mostChains = 64

// What is kept of a question: answers are numbers, 0 of one that was not asked.
const (
	yes = 1
	no  = 2
)

// Book is a unit that is asked more than once, and not changed meanwhile.
type Book struct {
	Unit    api.Unit
	first   map[string]int
	kin     map[pair]int
	methods map[member]found
	chains  map[int][]int
}

type pair struct{ name, what string }

type member struct {
	decl int
	name string
}

// found is where a method is, if there is one.
type found struct {
	where api.Where
	ok    bool
}

// Of opens a book of a unit.
func Of(u api.Unit) *Book {
	b := &Book{Unit: u, kin: map[pair]int{}, methods: map[member]found{}, chains: map[int][]int{}}
	if len(u.Decls) > short {
		b.first = map[string]int{}
		for d := len(u.Decls) - 1; d >= 0; d-- {
			b.first[u.Decls[d].Name] = d
		}
	}
	return b
}

// Has tells whether d is a declaration of a kind.
func (b *Book) Has(d int, kind int) bool {
	return d >= 0 && d < len(b.Unit.Decls) && b.Unit.Decls[d].Kind == kind
}

// Find is the first declaration of a name; -1, if there is none.
func (b *Book) Find(name string) int {
	if b.first != nil {
		if d, ok := b.first[name]; ok {
			return d
		}
		return -1
	}
	for d := range b.Unit.Decls {
		if b.Unit.Decls[d].Name == name {
			return d
		}
	}
	return -1
}

// Typed is the first declaration of a name, if that is a class or an interface; else -1.
func (b *Book) Typed(name string) int {
	d := b.Find(name)
	if b.Has(d, api.Class) || b.Has(d, api.Interface) {
		return d
	}
	return -1
}

// Chain is a class, its base, and so on, as long as there is one that was not met. It is not to be changed.
func (b *Book) Chain(d int) []int {
	chain, kept := b.chains[d]
	if !kept {
		if len(b.chains) >= mostChains {
			clear(b.chains)
		}
		chain = b.walk(d)
		b.chains[d] = chain
	}
	return chain
}

func (b *Book) walk(d int) []int {
	var chain []int
	met := map[int]int{}
	for b.Has(d, api.Class) && met[d] == 0 {
		met[d] = yes
		chain = append(chain, d)
		d = b.Find(b.Unit.Decls[d].Base)
	}
	return chain
}

// Faces are the interfaces of a class and of those it extends, each once.
func (b *Book) Faces(d int) []int {
	var faces []int
	met := map[int]int{}
	for _, c := range b.Chain(d) {
		for _, name := range b.Unit.Decls[c].Faces {
			f := b.Find(name)
			if b.Has(f, api.Interface) && met[f] == 0 {
				met[f] = yes
				faces = append(faces, f)
			}
		}
	}
	return faces
}

// Is tells whether what is of one name is of the other, too.
func (b *Book) Is(name string, what string) bool {
	key := pair{name, what}
	if b.kin[key] == 0 {
		b.kin[key] = no
		if b.comes(b.Typed(name), name, what) {
			b.kin[key] = yes
		}
	}
	return b.kin[key] == yes
}

func (b *Book) comes(d int, name string, what string) bool {
	if d < 0 || name == what {
		return d >= 0
	}
	of := b.Find(what)
	for _, c := range b.Chain(d) {
		if c == of {
			return true
		}
	}
	for _, f := range b.Faces(d) {
		if f == of {
			return true
		}
	}
	return false
}

// Method is where a class or an interface has a method of a name.
func (b *Book) Method(d int, name string) (api.Where, bool) {
	key := member{d, name}
	f, asked := b.methods[key]
	if !asked {
		f = b.search(d, name)
		b.methods[key] = f
	}
	return f.where, f.ok
}

func (b *Book) search(d int, name string) found {
	of := b.Chain(d)
	if b.Has(d, api.Interface) {
		of = []int{d}
	}
	for _, c := range of {
		for m := range b.Unit.Decls[c].Methods {
			if b.Unit.Decls[c].Methods[m].Name == name {
				return found{api.Where{Decl: c, Method: m}, true}
			}
		}
	}
	return found{}
}

// At is the method of a place.
func (b *Book) At(w api.Where) *api.Method {
	return &b.Unit.Decls[w.Decl].Methods[w.Method]
}

// Fields are the variables of a class and of those it extends, or of a program.
func (b *Book) Fields(d int) []api.Var {
	if b.Has(d, api.Program) {
		return append([]api.Var(nil), b.Unit.Decls[d].Vars...)
	}
	var fields []api.Var
	chain := b.Chain(d)
	for i := len(chain) - 1; i >= 0; i-- {
		fields = append(fields, b.Unit.Decls[chain[i]].Vars...)
	}
	return fields
}
