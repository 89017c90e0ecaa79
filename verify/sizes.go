package verify

import (
	"strings"

	"governor/api"
)

// Limits of an image that api does not name.
const (
	mostThings = 100
	mostLocals = 400
)

func sizes(im *api.Image) error {
	well := len(im.Globals) <= api.MaxWords
	for _, n := range []int{len(im.Faces), len(im.Classes), len(im.Codes), len(im.Insts), len(im.Blocks), len(im.Ins), len(im.Outs), len(im.Jobs)} {
		well = well && n <= mostThings
	}
	for _, c := range im.Codes {
		well = well && len(c.Ops) <= api.MaxOps && len(c.Locals) <= mostLocals
	}
	for _, sigs := range im.Faces {
		well = well && len(sigs) <= mostThings
	}
	for _, c := range im.Classes {
		well = well && len(c.Sigs) <= mostThings && len(c.Tables) <= mostThings && len(c.Fields) <= api.MaxWords
	}
	return unless(well, errSizes)
}

func letters(im *api.Image) error {
	well := areLetters(im.Globals) && areFirst(im.Globals, im.Init)
	for _, c := range im.Classes {
		well = well && areLetters(c.Fields) && areFirst(c.Fields, c.Init)
	}
	for _, c := range im.Codes {
		well = well && areLetters(c.Params) && areLetters(c.Locals) && len(c.Params) <= api.MaxParams
	}
	return unless(well, errLetters)
}

func areLetters(text string) bool {
	return strings.Trim(text, "ir") == ""
}

// areFirst tells whether there is for each letter what may stand there at first.
func areFirst(text string, init []int) bool {
	if len(init) != len(text) {
		return false
	}
	for i, n := range init {
		if n < api.Lowest || n > api.Highest || text[i] == 'r' && n != 0 {
			return false
		}
	}
	return true
}
