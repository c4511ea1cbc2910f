package weed_test

import (
	"math/rand/v2"
	"slices"

	"isatis/oracle"
	"isatis/weed"
)

// The oracle follows the chapter word by word, with lists alone, so that it
// shares no way of computing with the package. It is for small valid fields.

func within(n int, r weed.Range) bool { return r.Lo <= n && n <= r.Hi }

func counted(truth []int, weeder, from, to int) int {
	many := 0
	for row, said := range truth {
		if said == weeder && from <= row && row <= to {
			many++
		}
	}
	return many
}

func done(truth []int, weeder int) int { return counted(truth, weeder, 0, len(truth)-1) }

func right(y weed.Tally, truth []int) bool {
	return within(counted(truth, y.Weeder, y.From, y.To), y.Count)
}

// sheets are all lists with a number from low to high for each row.
func sheets(rows, low, high int) [][]int {
	return oracle.OneOfEach(slices.Repeat([]weed.Range{{Lo: low, Hi: high}}, rows)...)
}

func allowedTruths(f weed.Field) (list [][]int) {
	for _, truth := range sheets(f.Rows, -1, f.Weeders-1) {
		if within(done(truth, -1), f.Left) {
			list = append(list, truth)
		}
	}
	return list
}

func truthsOf(f weed.Field) (list [][]int) {
	for _, truth := range allowedTruths(f) {
		if !slices.ContainsFunc(f.Tallies, func(y weed.Tally) bool { return !right(y, truth) }) {
			list = append(list, truth)
		}
	}
	return list
}

func boundsOf(f weed.Field, weeder int) weed.Range {
	r := weed.Range{Lo: f.Rows + 1, Hi: -1}
	for _, truth := range truthsOf(f) {
		r = weed.Range{Lo: min(r.Lo, done(truth, weeder)), Hi: max(r.Hi, done(truth, weeder))}
	}
	return r
}

func saidOf(truths [][]int, row int) (list []int) {
	for _, truth := range truths {
		list = append(list, truth[row])
	}
	slices.Sort(list)
	return slices.Compact(list)
}

func settled(truths [][]int, weeder int, rows []int) bool {
	for _, one := range truths {
		for _, other := range truths {
			agree := !slices.ContainsFunc(rows, func(row int) bool { return one[row] != other[row] })
			if agree && done(one, weeder) != done(other, weeder) {
				return false
			}
		}
	}
	return true
}

// questionsOf returns the questions for the truths, and the first row with
// which they are reached, or -1.
func questionsOf(truths [][]int, weeder int) (row, many int) {
	if settled(truths, weeder, nil) {
		return -1, 0
	}
	row, many = -1, 99
	for r := range truths[0] {
		said := saidOf(truths, r)
		if len(said) < 2 {
			continue
		}
		worst := 0
		for _, n := range said {
			rest := slices.DeleteFunc(slices.Clone(truths), func(truth []int) bool { return truth[r] != n })
			_, q := questionsOf(rest, weeder)
			worst = max(worst, q)
		}
		if worst+1 < many {
			row, many = r, worst+1
		}
	}
	return row, many
}

// without is the field with the tallies alone that are not in the list.
func without(f weed.Field, list []int) weed.Field {
	f.Tallies = oracle.Without(f.Tallies, list)
	return f
}

// with is the field with one more tally.
func with(f weed.Field, y weed.Tally) weed.Field {
	f.Tallies = append(slices.Clone(f.Tallies), y)
	return f
}

func isRight(f weed.Field) bool { return len(truthsOf(f)) > 0 }

func around(r *rand.Rand, n, limit, slack int) weed.Range {
	return weed.Range{Lo: max(0, n-r.IntN(slack+1)), Hi: min(limit, n+r.IntN(slack+1))}
}

// randomTally reports what is so in the truth, within some slack; sometimes
// it has nothing to do with it.
func randomTally(r *rand.Rand, f weed.Field, truth []int) weed.Tally {
	y := weed.Tally{Weeder: r.IntN(f.Weeders), From: r.IntN(f.Rows)}
	y.To = y.From + r.IntN(f.Rows-y.From)
	n := counted(truth, y.Weeder, y.From, y.To)
	if r.IntN(4) == 0 {
		n = r.IntN(f.Rows + 1)
	}
	y.Count = around(r, n, f.Rows, 1)
	return y
}

// randomField is a valid field of that size, with a truth it is made around.
func randomField(r *rand.Rand, rows, weeders, tallies int) (weed.Field, []int) {
	truth := make([]int, rows)
	for row := range truth {
		truth[row] = r.IntN(weeders+1) - 1
	}
	f := weed.Field{Rows: rows, Weeders: weeders, Left: around(r, done(truth, -1), rows, 2)}
	for range tallies {
		f.Tallies = append(f.Tallies, randomTally(r, f, truth))
	}
	return f, truth
}

// randomFields yields small fields with at most so many tallies, and with a
// number source for what else a test needs.
func randomFields(many, tallies int) func(yield func(*rand.Rand, weed.Field) bool) {
	return func(yield func(*rand.Rand, weed.Field) bool) {
		r := rand.New(rand.NewPCG(7, uint64(many)))
		for range many {
			weeders := 1 + r.IntN(3)
			rows := 1 + r.IntN(6-weeders)
			f, _ := randomField(r, rows, weeders, r.IntN(tallies+1))
			if !yield(r, f) {
				return
			}
		}
	}
}

// bigFields are fields as large as the limits allow, with two tallies.
func bigFields() (list []weed.Field) {
	r := rand.New(rand.NewPCG(7, 7))
	for _, size := range [][2]int{{7, 1}, {7, 2}, {5, 3}} {
		for range 4 {
			f, _ := randomField(r, size[0], size[1], 0)
			for len(f.Tallies) < 2 {
				if g := with(f, randomTally(r, f, truthsOf(f)[0])); isRight(g) {
					f = g
				}
			}
			list = append(list, f)
		}
	}
	return list
}
