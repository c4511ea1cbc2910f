package wage_test

import (
	"math/rand/v2"
	"slices"

	"isatis/api"
	"isatis/oracle"
	"isatis/wage"
	"isatis/weed"
)

// The oracle follows the chapter word by word: it pays each weeder each penny, so
// that it shares no way of computing with the package. It is for valid ledgers
// with low dues.

func isIn(n int, r wage.Range) bool { return r.Lo <= n && n <= r.Hi }

func rowsOf(rows []int, weeder int) int {
	many := 0
	for _, said := range rows {
		if said == weeder {
			many++
		}
	}
	return many
}

// numbersOf are those of rows of all weeders.
func numbersOf(f weed.Field, rows []int) (numbers []int) {
	for weeder := range f.Weeders {
		numbers = append(numbers, rowsOf(rows, weeder))
	}
	return numbers
}

func duesOf(l wage.Ledger, rows []int) (dues []int) {
	for _, many := range numbersOf(l.Field, rows) {
		dues = append(dues, l.Rate*many)
	}
	return dues
}

func fieldTruths(f weed.Field) (truths [][]int) {
	said := slices.Repeat([]weed.Range{{Lo: -1, Hi: f.Weeders - 1}}, f.Rows)
	for _, rows := range oracle.OneOfEach(said...) {
		if weed.ProveTruth(f, rows) {
			truths = append(truths, rows)
		}
	}
	return truths
}

func allowedTruths(l wage.Ledger) (truths []wage.Truth) {
	for _, rows := range fieldTruths(l.Field) {
		var purses []wage.Range
		for _, due := range duesOf(l, rows) {
			purses = append(purses, to(0, due))
		}
		for _, paid := range oracle.OneOfEach(purses...) {
			if isIn(oracle.Sum(paid), l.Box) {
				truths = append(truths, wage.Truth{Rows: rows, Paid: paid})
			}
		}
	}
	return truths
}

// keep has those of the truths in which all notes but these are right.
func keep(truths []wage.Truth, notes []wage.Note, but ...int) (kept []wage.Truth) {
	for _, y := range truths {
		right := true
		for n, x := range notes {
			right = right && (slices.Contains(but, n) || isIn(y.Paid[x.Weeder], x.Pence))
		}
		if right {
			kept = append(kept, y)
		}
	}
	return kept
}

func truthsOf(l wage.Ledger) []wage.Truth { return keep(allowedTruths(l), l.Notes) }

func hasTruth(l wage.Ledger) bool { return len(truthsOf(l)) > 0 }

// boundsOf are those of each weeder, by what each truth has of them.
func boundsOf(truths []wage.Truth, of func(y wage.Truth) []int) []wage.Range {
	var bounds []wage.Range
	for _, y := range truths {
		for weeder, n := range of(y) {
			if weeder == len(bounds) {
				bounds = append(bounds, to(n, n))
			}
			bounds[weeder] = to(min(bounds[weeder].Lo, n), max(bounds[weeder].Hi, n))
		}
	}
	return bounds
}

func owedOf(l wage.Ledger, y wage.Truth) (owed []int) {
	for weeder, due := range duesOf(l, y.Rows) {
		owed = append(owed, due-y.Paid[weeder])
	}
	return owed
}

// sharedOf pays the pence that are left over one after the other, always to the
// first one of those with the greatest remainder who were not paid one before.
func sharedOf(money int, numbers []int) (shares []int) {
	all, over := oracle.Sum(numbers), money
	var remainders []int
	for _, n := range numbers {
		share := money * n / all
		shares, remainders = append(shares, share), append(remainders, money*n-share*all)
		over -= share
	}
	for range over {
		i := slices.Index(remainders, slices.Max(remainders))
		shares[i]++
		remainders[i] = -1
	}
	return shares
}

func leastOwed(l wage.Ledger, truths []wage.Truth) (least []int) {
	for _, r := range boundsOf(truths, func(y wage.Truth) []int { return owedOf(l, y) }) {
		least = append(least, r.Lo)
	}
	return least
}

func safeOf(l wage.Ledger, truths []wage.Truth, money int) []int {
	least := leastOwed(l, truths)
	if oracle.Sum(least) <= money {
		return least
	}
	return sharedOf(money, least)
}

func isSafe(l wage.Ledger, truths []wage.Truth, payments []int) bool {
	return !slices.ContainsFunc(truths, func(y wage.Truth) bool {
		for weeder, owed := range owedOf(l, y) {
			if payments[weeder] > owed {
				return true
			}
		}
		return false
	})
}

func nobodyWorked(y wage.Truth) bool {
	return !slices.ContainsFunc(y.Rows, func(said int) bool { return said >= 0 })
}

func settledBy(f weed.Field, rows []int) bool {
	truths := fieldTruths(f)
	for _, one := range truths {
		for _, other := range truths {
			agree := !slices.ContainsFunc(rows, func(row int) bool { return one[row] != other[row] })
			if agree && !slices.Equal(numbersOf(f, one), numbersOf(f, other)) {
				return false
			}
		}
	}
	return true
}

// only is the ledger with the first notes alone.
func only(l wage.Ledger, notes int) wage.Ledger {
	l.Notes = l.Notes[:notes]
	return l
}

// without is the ledger with the notes that are left if these are left out.
func without(l wage.Ledger, notes []int) wage.Ledger {
	l.Notes = oracle.Without(l.Notes, notes)
	return l
}

func with(l wage.Ledger, x wage.Note) wage.Ledger {
	l.Notes = append(slices.Clone(l.Notes), x)
	return l
}

func firstOf(l wage.Ledger) (int, api.Errno) {
	truths := allowedTruths(l)
	for n := range l.Notes {
		if len(keep(truths, l.Notes[:n+1])) == 0 {
			return n, api.OK
		}
	}
	return 0, api.ErrNone
}

func leaveOf(l wage.Ledger) []int {
	truths := allowedTruths(l)
	sets := oracle.ShortestFirst(len(l.Notes))
	return sets[slices.IndexFunc(sets, func(but []int) bool { return len(keep(truths, l.Notes, but...)) > 0 })]
}

func around(r *rand.Rand, n, slack int) wage.Range {
	return to(max(0, n-r.IntN(slack+1)), n+r.IntN(slack+1))
}

// randomField has a truth: the one that is returned.
func randomField(r *rand.Rand, rows, weeders, tallies int) (weed.Field, []int) {
	truth := make([]int, rows)
	for row := range truth {
		truth[row] = r.IntN(weeders+1) - min(1, r.IntN(4))
		truth[row] = min(truth[row], weeders-1)
	}
	f := weed.Field{Rows: rows, Weeders: weeders}
	left := rowsOf(truth, -1)
	f.Left = weed.Range{Lo: max(0, left-r.IntN(2)), Hi: min(rows, left+r.IntN(2))}
	for n := range tallies {
		y := weed.Tally{Weeder: n % weeders, From: r.IntN(1 + r.IntN(rows))}
		y.To = y.From + r.IntN(rows-y.From)
		many := rowsOf(truth[y.From:y.To+1], y.Weeder)
		y.Count = weed.Range{Lo: many, Hi: min(rows, many+r.IntN(3)/2)}
		f.Tallies = append(f.Tallies, y)
	}
	return f, truth
}

// randomNote has what was paid in the truth, within some slack; sometimes it has
// nothing to do with it.
func randomNote(r *rand.Rand, l wage.Ledger, y wage.Truth) wage.Note {
	weeder := r.IntN(l.Field.Weeders)
	n := y.Paid[weeder]
	if r.IntN(4) == 0 {
		n = r.IntN(4*l.Rate + 2)
	}
	return wage.Note{Weeder: weeder, Pence: around(r, n, l.Rate)}
}

// randomLedger has an allowed truth: the one that is returned. In some of them
// little was paid, so that something is owed surely.
func randomLedger(r *rand.Rand, rows, weeders, rate int) (wage.Ledger, wage.Truth) {
	f, truth := randomField(r, rows, weeders, r.IntN(4))
	l := wage.Ledger{Field: f, Rate: rate}
	y := wage.Truth{Rows: truth}
	part := 1 + r.IntN(3)
	for _, due := range duesOf(l, truth) {
		y.Paid = append(y.Paid, r.IntN(due/part+1))
	}
	l.Box = around(r, oracle.Sum(y.Paid), r.IntN(3*rate)/part)
	return l, y
}

// randomLedgers yields small valid ledgers with at most so many notes, and with a
// number source for what else a test needs.
func randomLedgers(many, notes int) func(yield func(*rand.Rand, wage.Ledger) bool) {
	return func(yield func(*rand.Rand, wage.Ledger) bool) {
		r := rand.New(rand.NewPCG(9, uint64(many)))
		for range many {
			weeders := 1 + r.IntN(3)
			l, y := randomLedger(r, 1+r.IntN(6-weeders), weeders, 1+r.IntN(4))
			for range r.IntN(notes + 1) {
				l = with(l, randomNote(r, l, y))
			}
			if !yield(r, l) {
				return
			}
		}
	}
}

// bigLedgers have as many rows as there can be, or a high rate.
func bigLedgers() []wage.Ledger {
	many := wage.Ledger{
		Field: weed.Field{Rows: 7, Weeders: 2, Left: weed.Range{Lo: 0, Hi: 3}, Tallies: []weed.Tally{
			{Weeder: 0, From: 0, To: 6, Count: weed.Range{Lo: 2, Hi: 6}},
		}},
		Rate: 2, Box: to(3, 9), Notes: []wage.Note{note(0, 1, 4), note(1, 2, 9)},
	}
	three := wage.Ledger{
		Field: weed.Field{Rows: 5, Weeders: 3, Left: weed.Range{Lo: 0, Hi: 1}, Tallies: []weed.Tally{
			{Weeder: 2, From: 1, To: 3, Count: weed.Range{Lo: 1, Hi: 2}},
		}},
		Rate: 2, Box: to(7, 9), Notes: []wage.Note{note(1, 3, 9), note(2, 0, 3)},
	}
	dear := wage.Ledger{
		Field: weed.Field{Rows: 3, Weeders: 2, Left: weed.Range{Lo: 0, Hi: 0}},
		Rate:  50, Box: to(40, 130), Notes: []wage.Note{note(0, 20, 90), note(1, 31, 77)},
	}
	return []wage.Ledger{many, three, dear}
}
