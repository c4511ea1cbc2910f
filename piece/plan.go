package piece

import (
	"iter"

	"isatis/api"
	"isatis/lists"
)

// noDips is the number where no plan is as it must be: more than any plan has.
const noDips = api.MaxVatDips + 1

// set has for each piece whether it is in the set.
type set [api.MaxPiecePieces]bool

// stage is how far a plan has come: these pieces have been dipped, with so many
// dips, and so many others must still become right.
type stage struct {
	done           set
	before, wanted int
}

// planner looks for plans. It remembers the fewest further dips by which as many
// pieces as wanted are right always; others may be dipped, too.
type planner struct {
	*work
	fewest map[stage]int
}

func (w *work) planner() planner { return planner{work: w, fewest: map[stage]int{}} }

// steps yields those with which a plan can go on.
func (p planner) steps(s stage) iter.Seq[Step] {
	return func(yield func(Step) bool) {
		for piece := range p.Pieces {
			if s.done[piece] {
				continue
			}
			for dips := range api.MaxVatDips - s.before + 1 {
				if !yield(Step{Piece: piece, Dips: dips}) {
					return
				}
			}
		}
	}
}

func (p planner) after(s stage, x Step) stage {
	if p.right(x.Piece, stretch{before: s.before, dips: x.Dips}) {
		s.wanted--
	}
	s.done[x.Piece] = true
	s.before += x.Dips
	return s
}

// further is the fewest dips, or noDips.
func (p planner) further(s stage) int {
	if s.wanted == 0 {
		return 0
	}
	fewest, known := p.fewest[s]
	if !known {
		var numbers []int
		for x := range p.steps(s) {
			numbers = append(numbers, p.with(s, x))
		}
		fewest = lists.Least(noDips, numbers...)
		p.fewest[s] = fewest
	}
	return fewest
}

// with is the fewest further dips if the plan goes on with this step.
func (p planner) with(s stage, x Step) int { return x.Dips + p.further(p.after(s, x)) }

// plan has the fewest further dips, of which there are not noDips. Steps without
// dips are left out, as they change nothing.
func (p planner) plan(first stage) []Step {
	var plan []Step
	var add func(s stage)
	add = func(s stage) {
		if s.wanted == 0 {
			return
		}
		for x := range p.steps(s) {
			if p.with(s, x) > p.further(s) {
				continue
			}
			if x.Dips > 0 {
				plan = append(plan, x)
			}
			add(p.after(s, x))
			return
		}
	}
	add(first)
	return plan
}
