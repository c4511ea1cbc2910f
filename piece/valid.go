package piece

import (
	"slices"

	"isatis/api"
	"isatis/lists"
)

func (r Range) holds(n int) bool { return r.Lo <= n && n <= r.Hi }

// within reports whether it is a range, and all of it is in the other one.
func (r Range) within(other Range) bool {
	return other.Lo <= r.Lo && r.Lo <= r.Hi && r.Hi <= other.Hi
}

// meets reports whether some number is in both of them, which are ranges.
func (r Range) meets(other Range) bool { return r.Lo <= other.Hi && other.Lo <= r.Hi }

func upTo(limit int) Range { return Range{Hi: limit} }

// around has the numbers whose distance from 0 is at most the limit.
func around(limit int) Range { return Range{Lo: -limit, Hi: limit} }

func (r Range) isOfShades() bool { return r.within(upTo(api.MaxPieceShade)) }

// valid is for jobs whose vat is valid. It leaves the number of pieces to
// CheckJob, as that is another error.
func (j Job) valid() bool {
	return upTo(j.Vat.Last).holds(j.Day) && lists.All(j.Pieces, Range.isOfShades) &&
		upTo(api.MaxPieceShade).holds(j.Eye) && j.Old.isOfShades()
}

func isDips(dips int) bool { return upTo(api.MaxVatDips).holds(dips) }

func (j Job) hasPiece(piece int) bool { return 0 <= piece && piece < len(j.Pieces) }

func (j Job) validStep(s Step) bool { return j.hasPiece(s.Piece) && isDips(s.Dips) }

// isPlan is for valid jobs, and for those that are not. It adds the dips up only
// if those of each step are few, as the sum of others need not fit into an int.
// It sorts the pieces: if they rise then, none is there twice.
func (j Job) isPlan(plan []Step) bool {
	if !lists.All(plan, j.validStep) {
		return false
	}
	var pieces []int
	for _, s := range plan {
		pieces = append(pieces, s.Piece)
	}
	slices.Sort(pieces)
	return lists.Rises(pieces) && isDips(allDips(plan))
}

func allDips(plan []Step) int {
	sum := 0
	for _, s := range plan {
		sum += s.Dips
	}
	return sum
}
