package piece

import (
	"iter"

	"isatis/api"
	"isatis/lists"
	"isatis/vat"
)

// truths yields those of the vat, which is valid. A truth is valid until the next
// one is yielded.
func truths(v vat.Vat) iter.Seq[vat.Truth] {
	return func(yield func(vat.Truth) bool) {
		parts := [][]int{lists.FromTo(v.Start.Lo, v.Start.Hi), lists.FromTo(v.Blue.Lo, v.Blue.Hi)}
		for _, r := range v.Drift {
			parts = append(parts, lists.FromTo(r.Lo, r.Hi))
		}
		for numbers := range lists.Choices(parts) {
			t := vat.Truth{Start: numbers[0], Blue: numbers[1], Drift: numbers[2:]}
			if vat.ProveTruth(v, t) && !yield(t) {
				return
			}
		}
	}
}

// shades are those of as many further dips as there may be, one after the other.
type shades [api.MaxVatDips]int

// shades has an error if the truth has not one number of each range of the vat.
func (j Job) shades(t vat.Truth) (all shades, e api.Errno) {
	list, e := vat.Shades(j.Vat, t, j.Day, api.MaxVatDips)
	copy(all[:], list)
	return all, e
}

// stretch is a number of dips that are made after others.
type stretch struct{ before, dips int }

func (s shades) sum(x stretch) int {
	return lists.Sum(s[x.before : x.before+x.dips])
}

// stretches has the dips of each piece: none of a piece that is in no step.
func (j Job) stretches(plan []Step) []stretch {
	list := make([]stretch, len(j.Pieces))
	before := 0
	for _, s := range plan {
		list[s.Piece] = stretch{before: before, dips: s.Dips}
		before += s.Dips
	}
	return list
}

// dyed has the shade of each piece, in a truth.
type dyed []int

func (j Job) dye(plan []Step, s shades) dyed {
	var d dyed
	for _, x := range j.stretches(plan) {
		d = append(d, s.sum(x))
	}
	return d
}
