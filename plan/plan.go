// Package plan numbers the things of a unit, as they stand in its image, in one walk.
package plan

import (
	"governor/api"
	"governor/book"
)

// None is the number of what there is none of.
const None = -1

// named is something with a name, of a declaration.
type named struct {
	decl int
	name string
}

// Plan is a unit with its numbers.
type Plan struct {
	Book    *book.Book
	Classes []int
	Faces   []int
	Bodies  []api.Where
	class   []int
	face    []int
	codes   map[api.Where]int
	globals map[named]int
	insts   map[named]int
	blocks  map[named]int
	slots   map[int][]string
	size    int
}

// Of numbers the things of a unit.
func Of(u api.Unit) *Plan {
	p := &Plan{Book: book.Of(u), codes: map[api.Where]int{}, globals: map[named]int{}, insts: map[named]int{},
		blocks: map[named]int{}, slots: map[int][]string{}}
	for d := range u.Decls {
		p.class, p.face = append(p.class, None), append(p.face, None)
		switch u.Decls[d].Kind {
		case api.Class:
			p.class[d] = len(p.Classes)
			p.Classes = append(p.Classes, d)
			p.methods(d)
		case api.Interface:
			p.face[d] = len(p.Faces)
			p.Faces = append(p.Faces, d)
		case api.Program:
			p.program(d)
		}
	}
	// Programs' codes stand behind all methods'.
	for d := range u.Decls {
		if u.Decls[d].Kind == api.Program {
			p.code(api.Where{Decl: d, Method: -1})
		}
	}
	return p
}

func (p *Plan) methods(d int) {
	for m, method := range p.Book.Unit.Decls[d].Methods {
		if !method.Abstract {
			p.code(api.Where{Decl: d, Method: m})
		}
	}
}

func (p *Plan) code(w api.Where) {
	p.codes[w] = len(p.Bodies)
	p.Bodies = append(p.Bodies, w)
}

// program numbers a program's variables: of one name the first one is meant.
func (p *Plan) program(d int) {
	for _, v := range p.Book.Unit.Decls[d].Vars {
		key := named{d, v.Name}
		switch v.Type.Kind {
		case api.Inst:
			keep(p.insts, key, len(p.insts)+1)
		case api.Timer:
			keep(p.blocks, key, len(p.blocks))
		default:
			keep(p.globals, key, p.size)
			p.size += Size(v.Type)
		}
	}
}

func keep(numbers map[named]int, key named, n int) {
	if _, ok := numbers[key]; !ok {
		numbers[key] = n
	}
}

// Size is how many words a variable of a type has.
func Size(t api.Type) int {
	if t.Kind == api.Array {
		return min(max(t.Hi+1, 0), api.MaxArray)
	}
	return 1
}

// Class is the number of a class.
func (p *Plan) Class(d int) int {
	return entry(p.class, d)
}

// Face is the number of an interface.
func (p *Plan) Face(d int) int {
	return entry(p.face, d)
}

func entry(numbers []int, d int) int {
	if d < 0 || d >= len(numbers) {
		return None
	}
	return numbers[d]
}

// Code is the number of a method's or a program's code.
func (p *Plan) Code(w api.Where) int {
	if n, ok := p.codes[w]; ok {
		return n
	}
	return None
}

// Global is where a program's variable begins.
func (p *Plan) Global(program int, name string) int {
	return p.find(p.globals, program, name)
}

// Instance is the number of a program's instance.
func (p *Plan) Instance(program int, name string) int {
	return p.find(p.insts, program, name)
}

// Block is the number of a program's function block.
func (p *Plan) Block(program int, name string) int {
	return p.find(p.blocks, program, name)
}

func (p *Plan) find(numbers map[named]int, decl int, name string) int {
	if n, ok := numbers[named{decl, name}]; ok {
		return n
	}
	return None
}

// Field is where a class's field begins.
func (p *Plan) Field(class int, name string) int {
	if !p.Book.Has(class, api.Class) {
		return None
	}
	at := 0
	for _, v := range p.Book.Fields(class) {
		if v.Name == name {
			return at
		}
		at += Size(v.Type)
	}
	return None
}

// Slots are the names of a class's methods, its base's first.
func (p *Plan) Slots(class int) []string {
	names, ok := p.slots[class]
	if ok {
		return names
	}
	chain := p.Book.Chain(class)
	for i := len(chain) - 1; i >= 0; i-- {
		for _, m := range p.Book.Unit.Decls[chain[i]].Methods {
			if !m.Over {
				names = append(names, m.Name)
			}
		}
	}
	p.slots[class] = names
	return names
}

// Slot is the slot of a class's method.
func (p *Plan) Slot(class int, method string) int {
	for i, name := range p.Slots(class) {
		if name == method {
			return i
		}
	}
	return None
}
