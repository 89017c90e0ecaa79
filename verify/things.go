package verify

import (
	"slices"

	"governor/api"
)

func things(im *api.Image) error {
	well := true
	for _, class := range im.Insts {
		well = well && isWhole(im, class)
	}
	for _, kind := range im.Blocks {
		well = well && api.TON <= kind && kind <= api.FTrig
	}
	for _, l := range im.Ins {
		well = well && isLink(im, l)
	}
	taken := map[int]int{}
	for _, l := range im.Outs {
		taken[l.Slot]++
		well = well && isLink(im, l) && taken[l.Slot] == 1
	}
	return unless(well && areJobs(im), errThings)
}

// isWhole tells whether a class has all its methods.
func isWhole(im *api.Image, class int) bool {
	if !isClass(im, class) || slices.Contains(im.Classes[class].VTable, -1) {
		return false
	}
	for _, t := range im.Classes[class].Tables {
		if slices.Contains(t.Slots, -1) {
			return false
		}
	}
	return true
}

func isLink(im *api.Image, l api.Link) bool {
	return l.Global >= 0 && l.Global < len(im.Globals) && im.Globals[l.Global] == 'i' && l.Slot >= 0 && l.Slot < api.MaxSlots
}

func areJobs(im *api.Image) bool {
	taken := map[int]int{}
	for _, j := range im.Jobs {
		taken[j.Code]++
		if j.Code < 0 || j.Code >= len(im.Codes) || im.Codes[j.Code].Class != -1 || taken[j.Code] > 1 ||
			j.Every < 1 || j.Every > api.MaxEvery || j.First < 0 || j.First > api.MaxFirst {
			return false
		}
	}
	return true
}
