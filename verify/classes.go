package verify

import (
	"slices"
	"strings"

	"governor/api"
	"governor/op"
)

func classes(im *api.Image) error {
	well := true
	for i, c := range im.Classes {
		well = well && isHeir(im, i) && len(c.VTable) == len(c.Sigs) && areSigs(c.Sigs)
	}
	for _, sigs := range im.Faces {
		well = well && areSigs(sigs)
	}
	return unless(well, errClasses)
}

// isHeir tells whether a class begins as its base does, that is ahead of it.
func isHeir(im *api.Image, i int) bool {
	c := &im.Classes[i]
	if c.Base == -1 {
		return true
	}
	if c.Base < 0 || c.Base >= i {
		return false
	}
	base := &im.Classes[c.Base]
	return strings.HasPrefix(c.Fields, base.Fields) && len(c.Sigs) >= len(base.Sigs) && slices.Equal(c.Sigs[:len(base.Sigs)], base.Sigs)
}

func areSigs(sigs []string) bool {
	for _, sig := range sigs {
		if _, _, ok := op.Parts(sig); !ok {
			return false
		}
	}
	return true
}

func tables(im *api.Image) error {
	well := true
	for i, c := range im.Classes {
		well = well && areEntries(im, i, c.VTable, c.Sigs)
		last := -1
		for _, t := range c.Tables {
			well = well && t.Face > last && t.Face < len(im.Faces) && areEntries(im, i, t.Slots, im.Faces[t.Face])
			last = t.Face
		}
	}
	return unless(well, errTables)
}

// areEntries tells whether there is for each Sig a code that a class may have there, or none.
func areEntries(im *api.Image, class int, entries []int, sigs []string) bool {
	if len(entries) != len(sigs) {
		return false
	}
	for i, code := range entries {
		if code == -1 {
			continue
		}
		if code < 0 || code >= len(im.Codes) {
			return false
		}
		c := &im.Codes[code]
		if !comesOf(im, class, c.Class) || op.Sig(c.Params, c.Ret) != sigs[i] {
			return false
		}
	}
	return true
}

// comesOf tells whether a class is another one, or comes of it. Bases are ahead of their heirs here.
func comesOf(im *api.Image, class int, of int) bool {
	for class >= 0 && class != of {
		class = im.Classes[class].Base
	}
	return class >= 0
}
