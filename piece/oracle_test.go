package piece_test

import (
	"math/rand/v2"
	"slices"

	"isatis/api"
	"isatis/oracle"
	"isatis/piece"
	"isatis/vat"
)

// The oracle follows the chapter word by word, and tries all plans, so that it
// shares no way of computing with the package. It is for valid jobs.

// anyTruths are those of the vat without its looks.
func anyTruths(v vat.Vat) (truths []vat.Truth) {
	drifts := oracle.OneOfEach(v.Drift...)
	for start := v.Start.Lo; start <= v.Start.Hi; start++ {
		for blue := v.Blue.Lo; blue <= v.Blue.Hi; blue++ {
			for _, l := range drifts {
				truths = append(truths, vat.Truth{Start: start, Blue: blue, Drift: slices.Clone(l)})
			}
		}
	}
	return truths
}

func rightLook(v vat.Vat, l vat.Look, y vat.Truth) bool {
	states, _ := vat.Play(v, y)
	n := states[l.Day].Blue
	if l.Balance {
		n = states[l.Day].Balance
	}
	return l.Number.Lo <= n && n <= l.Number.Hi
}

func truthsOf(v vat.Vat) (truths []vat.Truth) {
	for _, y := range anyTruths(v) {
		if !slices.ContainsFunc(v.Looks, func(l vat.Look) bool { return !rightLook(v, l, y) }) {
			truths = append(truths, y)
		}
	}
	return truths
}

// shadesOf are those of so many dips, one after the other, in the truth.
func shadesOf(j piece.Job, y vat.Truth, dips int) []int {
	l, e := vat.Shades(j.Vat, y, j.Day, dips)
	if e != api.OK {
		panic("no shades")
	}
	return l
}

func dipsOf(plan []piece.Step) (n int) {
	for _, s := range plan {
		n += s.Dips
	}
	return n
}

// playOf dips step by step, and each piece as often as its step says.
func playOf(j piece.Job, plan []piece.Step, y vat.Truth) []int {
	pieces, rest := make([]int, len(j.Pieces)), shadesOf(j, y, dipsOf(plan))
	for _, s := range plan {
		for range s.Dips {
			pieces[s.Piece] += rest[0]
			rest = rest[1:]
		}
	}
	return pieces
}

func isIn(n int, r piece.Range) bool { return n >= r.Lo && n <= r.Hi }

func isNear(a, b, eye int) bool { return max(a-b, b-a) <= eye }

// kindOf is for how often something is so, and how often it is asked.
func kindOf(so, asked int) int {
	switch so {
	case asked:
		return piece.Always
	case 0:
		return piece.Never
	}
	return piece.Perhaps
}

// asksOf asks about the shades of the pieces in each truth.
func asksOf(j piece.Job, plan []piece.Step, is func(pieces []int) bool) int {
	so, truths := 0, truthsOf(j.Vat)
	for _, y := range truths {
		if is(playOf(j, plan, y)) {
			so++
		}
	}
	return kindOf(so, len(truths))
}

func rightOf(j piece.Job, plan []piece.Step, one int) int {
	return asksOf(j, plan, func(pieces []int) bool { return isIn(pieces[one], j.Pieces[one]) })
}

func matchOf(j piece.Job, plan []piece.Step, one, other int) int {
	return asksOf(j, plan, func(pieces []int) bool { return isNear(pieces[one], pieces[other], j.Eye) })
}

// oldOf asks about each number of Old, too.
func oldOf(j piece.Job, plan []piece.Step, one int) int {
	so, asked := 0, 0
	for _, y := range truthsOf(j.Vat) {
		n := playOf(j, plan, y)[one]
		for old := j.Old.Lo; old <= j.Old.Hi; old++ {
			asked++
			if isNear(n, old, j.Eye) {
				so++
			}
		}
	}
	return kindOf(so, asked)
}

// rights has for each piece, by the dips before it and by its own dips, whether
// it is right after and with so many.
type rights [4][21][21]bool

func rightsOf(j piece.Job) *rights {
	var shades [][]int
	for _, y := range truthsOf(j.Vat) {
		shades = append(shades, shadesOf(j, y, 20))
	}
	var all rights
	for one, r := range j.Pieces {
		for before := range 21 {
			for dips := range 21 - before {
				wrong := func(l []int) bool { return !isIn(oracle.Sum(l[before:before+dips]), r) }
				all[one][before][dips] = !slices.ContainsFunc(shades, wrong)
			}
		}
	}
	return &all
}

// many is how many pieces are right always in the plan.
func (all *rights) many(j piece.Job, plan []piece.Step) (n int) {
	for one := range j.Pieces {
		before, dips := 0, 0
		if at := slices.IndexFunc(plan, func(s piece.Step) bool { return s.Piece == one }); at >= 0 {
			before, dips = dipsOf(plan[:at]), plan[at].Dips
		}
		if all[one][before][dips] {
			n++
		}
	}
	return n
}

func dipsAfter(all *rights, one, before int) (int, api.Errno) {
	for dips := range 21 - before {
		if all[one][before][dips] {
			return dips, api.OK
		}
	}
	return 0, api.ErrShort
}

func hopelessOf(j piece.Job) (list []int) {
	all := rightsOf(j)
	for one := range j.Pieces {
		some := false
		for before := range 21 {
			_, e := dipsAfter(all, one, before)
			some = some || e == api.OK
		}
		if !some {
			list = append(list, one)
		}
	}
	return list
}

// anyPlans yields all plans for so many pieces with at most so many dips. A plan
// is valid until the next one is yielded.
func anyPlans(pieces, dips int) func(yield func([]piece.Step) bool) {
	return func(yield func([]piece.Step) bool) {
		var more func(plan []piece.Step, left int) bool
		more = func(plan []piece.Step, left int) bool {
			if !yield(plan) {
				return false
			}
			for one := range pieces {
				if slices.ContainsFunc(plan, func(s piece.Step) bool { return s.Piece == one }) {
					continue
				}
				for n := range left + 1 {
					if !more(append(plan, piece.Step{Piece: one, Dips: n}), left-n) {
						return false
					}
				}
			}
			return true
		}
		more(nil, dips)
	}
}

// mostOf has by the number of dips the most pieces with at most so many.
func mostOf(j piece.Job) (most [21]int) {
	all := rightsOf(j)
	for plan := range anyPlans(len(j.Pieces), 20) {
		dips := dipsOf(plan)
		most[dips] = max(most[dips], all.many(j, plan))
	}
	for dips := range 20 {
		most[dips+1] = max(most[dips+1], most[dips])
	}
	return most
}

// bestOf is the fewest dips with which all pieces are right.
func bestOf(j piece.Job, most [21]int) (int, api.Errno) {
	if dips := slices.Index(most[:], len(j.Pieces)); dips >= 0 {
		return dips, api.OK
	}
	return 0, api.ErrShort
}

// with is the job with one more look of its vat.
func with(j piece.Job, l vat.Look) piece.Job {
	j.Vat.Looks = append(slices.Clone(j.Vat.Looks), l)
	return j
}

// randomLook shows what is so in the truth, within some slack.
func randomLook(r *rand.Rand, v vat.Vat, y vat.Truth) vat.Look {
	l := vat.Look{Day: r.IntN(v.Last + 1), Balance: r.IntN(3) > 0}
	states, _ := vat.Play(v, y)
	n := states[l.Day].Blue
	if l.Balance {
		n = states[l.Day].Balance
	}
	l.Number = vat.Range{Lo: n - r.IntN(2), Hi: n + r.IntN(3)}
	return l
}

// randomVat has some truth, and at most 48 truths.
func randomVat(r *rand.Rand, looks int) vat.Vat {
	v := vat.Vat{Last: r.IntN(4), Band: 1 + r.IntN(9), Gain: r.IntN(20), Take: []int{0, r.IntN(6), r.IntN(20)}[r.IntN(3)]}
	start, blue := r.IntN(9)-4, []int{r.IntN(60), 60 + r.IntN(140), r.IntN(900)}[r.IntN(3)]
	v.Start, v.Blue = vat.Range{Lo: start, Hi: start + r.IntN(2)}, vat.Range{Lo: blue, Hi: blue + r.IntN(3)}
	for day := range v.Last + 1 {
		drift := r.IntN(5) - 2
		v.Drift = append(v.Drift, vat.Range{Lo: drift, Hi: drift + r.IntN(2)*((day+1)%2)})
		v.Feeds = append(v.Feeds, vat.Feed{Lime: r.IntN(3), Bran: r.IntN(3), Madder: r.IntN(3)})
		v.Dips = append(v.Dips, r.IntN(4))
	}
	truths := anyTruths(v)
	y := truths[r.IntN(len(truths))]
	for range r.IntN(looks + 1) {
		v.Looks = append(v.Looks, randomLook(r, v, y))
	}
	return v
}

// randomPiece often can be right, and mostly not without dips: its range is about
// what it is by some dips, in all truths or in some of them.
func randomPiece(r *rand.Rand, j piece.Job) piece.Range {
	if r.IntN(8) == 0 {
		low := r.IntN(150)
		return to(low, low+r.IntN(20))
	}
	before, dips := r.IntN(8), 1+r.IntN(6)
	var sums []int
	for _, y := range truthsOf(j.Vat) {
		sums = append(sums, oracle.Sum(shadesOf(j, y, before+dips)[before:]))
	}
	low, high := slices.Min(sums), slices.Max(sums)
	if r.IntN(5) == 0 {
		high = low
	}
	return to(max(0, low-r.IntN(3)), high+r.IntN(4))
}

// randomJobs yields jobs whose vats have few truths, with a number source for
// what else a test needs.
func randomJobs(many, pieces int) func(yield func(*rand.Rand, piece.Job) bool) {
	return func(yield func(*rand.Rand, piece.Job) bool) {
		r := rand.New(rand.NewPCG(7, uint64(many)))
		for range many {
			v := randomVat(r, 2)
			j := piece.Job{Vat: v, Day: r.IntN(v.Last + 1), Eye: r.IntN(8)}
			if r.IntN(2) == 0 { // a vat that just is in order in some truth
				truths := anyTruths(v)
				states, _ := vat.Play(v, truths[r.IntN(len(truths))])
				j.Vat.Band = min(20, max(states[j.Day].Balance, -states[j.Day].Balance))
			}
			for range r.IntN(pieces + 1) {
				j.Pieces = append(j.Pieces, randomPiece(r, j))
			}
			j.Old = randomPiece(r, j)
			if !yield(r, j) {
				return
			}
		}
	}
}

func jobs(many, pieces int) (list []piece.Job) {
	for _, j := range randomJobs(many, pieces) {
		list = append(list, j)
	}
	return list
}

// bigJobs have vats with many truths, and four pieces.
func bigJobs() (list []piece.Job) {
	r := rand.New(rand.NewPCG(7, 7))
	for len(list) < 4 {
		v := randomVat(r, 0)
		v.Start, v.Blue = vat.Range{Lo: -3, Hi: 4}, vat.Range{Lo: 300, Hi: 315}
		for day := range v.Drift {
			v.Drift[day] = vat.Range{Lo: -1, Hi: 1 - day%2}
		}
		j := piece.Job{Vat: v, Day: v.Last, Eye: 3}
		if vat.CheckVat(v) != api.OK || len(anyTruths(v)) < 300 {
			continue
		}
		for range 4 {
			j.Pieces = append(j.Pieces, randomPiece(r, j))
		}
		list = append(list, j)
	}
	return list
}

// randomPlan is one of the job, with whatever dips.
func randomPlan(r *rand.Rand, j piece.Job) (plan []piece.Step) {
	left := 20
	for _, one := range r.Perm(len(j.Pieces)) {
		if r.IntN(5) > 0 {
			s := piece.Step{Piece: one, Dips: min(left, r.IntN(8))}
			plan = append(plan, s)
			left -= s.Dips
		}
	}
	return plan
}
