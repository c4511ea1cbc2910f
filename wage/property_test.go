package wage_test

import (
	"math"
	"math/rand/v2"
	"slices"
	"testing"

	"isatis/api"
	"isatis/oracle"
	"isatis/wage"
	"isatis/weed"
)

// terms are all bounds of a ledger.
type terms struct{ earned, paid, owed []wage.Range }

func bounds(t *testing.T, l wage.Ledger) terms {
	t.Helper()
	earned, e1 := wage.Earned(l)
	paid, e2 := wage.Paid(l)
	owed, e3 := wage.Owed(l)
	if e1 != api.OK || e2 != api.OK || e3 != api.OK {
		t.Fatalf("bounds of %v: %v, %v, %v", l, e1, e2, e3)
	}
	return terms{earned, paid, owed}
}

func inside(narrow, wide []wage.Range) bool {
	for i, r := range narrow {
		if r.Lo < wide[i].Lo || r.Hi > wide[i].Hi {
			return false
		}
	}
	return len(narrow) == len(wide)
}

func (x terms) inside(wide terms) bool {
	return inside(x.earned, wide.earned) && inside(x.paid, wide.paid) && inside(x.owed, wide.owed)
}

func safe(t *testing.T, l wage.Ledger, money int) []int {
	t.Helper()
	payments, e := wage.Safe(l, money)
	if e != api.OK {
		t.Fatalf("Safe of %v, %d: %v", l, money, e)
	}
	return payments
}

// share returns no shares if in some truth nobody did a row.
func share(t *testing.T, l wage.Ledger, pot int) []wage.Range {
	t.Helper()
	shares, e := wage.Share(l, pot)
	if e != api.OK && e != api.ErrNone {
		t.Fatalf("Share of %v, %d: %v", l, pot, e)
	}
	return shares
}

func settle(t *testing.T, l wage.Ledger) []int {
	t.Helper()
	rows, e := wage.Settle(l)
	if e != api.OK {
		t.Fatalf("Settle of %v: %v", l, e)
	}
	return rows
}

func leave(t *testing.T, l wage.Ledger) []int {
	t.Helper()
	notes, e := wage.Leave(l)
	if e != api.OK {
		t.Fatalf("Leave of %v: %v", l, e)
	}
	return notes
}

// ledgers are small and big ones; those without a truth are left out.
func ledgers(many, notes int) []wage.Ledger {
	all := append(bigLedgers(), example(), idle(0, 5), idle(1, 5))
	for _, l := range randomLedgers(many, notes) {
		if hasTruth(l) {
			all = append(all, l)
		}
	}
	return all
}

// ends counts which ends of bounds are reached.
type ends map[wage.Range]bool

// reach reports whether the numbers are within the bounds. The ends of the weeder
// that they reach are remembered by the weeder's number, and -1 or 1.
func (x ends) reach(bounds []wage.Range, numbers []int) bool {
	for weeder, n := range numbers {
		if !isIn(n, bounds[weeder]) {
			return false
		}
		x[to(weeder, -1)] = x[to(weeder, -1)] || n == bounds[weeder].Lo
		x[to(weeder, 1)] = x[to(weeder, 1)] || n == bounds[weeder].Hi
	}
	return len(bounds) == len(numbers)
}

func (x ends) all(weeders int) bool {
	for weeder := range weeders {
		if !x[to(weeder, -1)] || !x[to(weeder, 1)] {
			return false
		}
	}
	return true
}

// P9.7
func TestInEachTruth(t *testing.T) {
	const pot = 101
	for _, l := range ledgers(300, 3) {
		x, shares := bounds(t, l), share(t, l, pot)
		earned, paid, owed, part := ends{}, ends{}, ends{}, ends{}
		truths := truthsOf(l)
		for i, y := range truths {
			if i%(1+len(truths)/500) == 0 && !wage.ProveTruth(l, y) {
				t.Fatalf("ProveTruth of %v, %v", l, y)
			}
			if !earned.reach(x.earned, duesOf(l, y.Rows)) || !paid.reach(x.paid, y.Paid) || !owed.reach(x.owed, owedOf(l, y)) {
				t.Fatalf("bounds of %v: %v, but %v", l, x, y)
			}
			if shares == nil {
				continue
			}
			parts := sharedOf(pot, numbersOf(l.Field, y.Rows))
			if !part.reach(shares, parts) || oracle.Sum(parts) != pot {
				t.Fatalf("Share of %v: %v, but %v", l, shares, parts)
			}
		}
		many := l.Field.Weeders
		if !earned.all(many) || !paid.all(many) || !owed.all(many) || shares != nil && !part.all(many) {
			t.Fatalf("bounds of %v: %v, %v: an end is not reached", l, x, shares)
		}
		if len(leave(t, l)) > 0 {
			t.Fatalf("Leave of %v, which has a truth", l)
		}
	}
}

// fewer is a ledger in which 3, 3 and 1 are owed: of 3 pence the last weeder gets
// one, of 4 none.
func fewer() wage.Ledger {
	l := worked(1, 1, 1)
	l.Rate, l.Box, l.Notes = 5, to(8, 8), []wage.Note{note(0, 2, 2), note(1, 2, 2), note(2, 4, 4)}
	return l
}

// P9.8
func TestNeverTooMuch(t *testing.T) {
	s := oracle.Seen{}
	for _, l := range append(ledgers(600, 3), fewer()) {
		all := oracle.Sum(leastOwed(l, truthsOf(l)))
		var before []int
		for money := range min(all+3, 60) {
			payments := safe(t, l, money)
			if !wage.ProveSafe(l, payments) || oracle.Sum(payments) > money {
				t.Fatalf("Safe of %v, %d: %v", l, money, payments)
			}
			s.Count("all of the money is paid", money > 0 && oracle.Sum(payments) == money)
			for weeder := range payments {
				if before != nil && payments[weeder] < before[weeder]-1 {
					t.Fatalf("Safe of %v, %d: %v; %v with a penny less", l, money, payments, before)
				}
				more := slices.Clone(payments)
				more[weeder]++
				if oracle.Sum(payments) < money && wage.ProveSafe(l, more) {
					t.Fatalf("Safe of %v, %d: %v, but %v is safe", l, money, payments, more)
				}
				s.Count("a payment is smaller", before != nil && payments[weeder] < before[weeder])
			}
			before = payments
		}
	}
	s.Need(t, 50, "all of the money is paid")
	s.Need(t, 1, "a payment is smaller")
}

// P9.9
func TestAllThatWasEarned(t *testing.T) {
	for _, l := range ledgers(300, 3) {
		for _, rows := range fieldTruths(l.Field) {
			dues, e := wage.Due(l, rows)
			done := len(rows) - rowsOf(rows, -1)
			if e != api.OK || oracle.Sum(dues) != l.Rate*done {
				t.Fatalf("Due of %v, %v: %v, %v", l, rows, dues, e)
			}
		}
		for _, y := range truthsOf(l) {
			if done := len(y.Rows) - rowsOf(y.Rows, -1); !isIn(l.Rate*done-oracle.Sum(owedOf(l, y)), l.Box) {
				t.Fatalf("%v: %v is owed in %v", l, owedOf(l, y), y)
			}
		}
	}
}

// P9.10
func TestByTheField(t *testing.T) {
	s := oracle.Seen{}
	for _, l := range ledgers(600, 3) {
		done, e := weed.Done(l.Field)
		if e != api.OK {
			t.Fatalf("Done of %v: %v", l.Field, e)
		}
		var want []wage.Range
		for _, r := range done {
			want = append(want, to(l.Rate*r.Lo, l.Rate*r.Hi))
		}
		x := bounds(t, l)
		if !inside(x.earned, want) {
			t.Fatalf("Earned of %v: %v, not within %v", l, x.earned, want)
		}
		s.Count("more is known by what was paid", !inside(want, x.earned))
		l.Notes, l.Box = nil, to(0, 2000)
		x = bounds(t, l)
		if !slices.Equal(x.earned, want) || slices.ContainsFunc(x.owed, func(r wage.Range) bool { return r.Lo != 0 }) {
			t.Fatalf("%v: %v earned, %v owed; not %v", l, x.earned, x.owed, want)
		}
	}
	s.Need(t, 30, "more is known by what was paid")
}

// P9.11
func TestOneMoreNote(t *testing.T) {
	s := oracle.Seen{}
	for r, l := range randomLedgers(800, 3) {
		truths := allowedTruths(l)
		g := with(l, randomNote(r, l, truths[r.IntN(len(truths))]))
		d := len(leave(t, g)) - len(leave(t, l))
		if d < 0 || d > 1 {
			t.Fatalf("Leave of %v and of %v: %d more", l, g, d)
		}
		s.Count("one more is left out", d == 1)
		if !hasTruth(g) {
			continue
		}
		a, b := bounds(t, l), bounds(t, g)
		if !b.inside(a) {
			t.Fatalf("%v is wider than %v", g, l)
		}
		s.Count("narrower", !a.inside(b))
		payments := safe(t, l, 2000)
		if !wage.ProveSafe(g, payments) {
			t.Fatalf("%v: %v is not safe; it was of %v", g, payments, l)
		}
		s.Count("more can be paid", !slices.Equal(payments, safe(t, g, 2000)))
	}
	s.Need(t, 50, "one more is left out", "narrower")
	s.Need(t, 20, "more can be paid")
}

func widen(r *rand.Rand, x wage.Range) wage.Range { return to(max(0, x.Lo-r.IntN(3)), x.Hi+r.IntN(3)) }

// P9.12
func TestWider(t *testing.T) {
	s := oracle.Seen{}
	for r, l := range randomLedgers(800, 5) {
		g := l
		g.Notes = slices.Clone(l.Notes)
		if r.IntN(2) == 0 {
			g.Box = widen(r, l.Box)
		} else {
			for n := range g.Notes {
				g.Notes[n].Pence = widen(r, g.Notes[n].Pence)
			}
		}
		a, b := len(leave(t, l)), len(leave(t, g))
		if b > a {
			t.Fatalf("Leave of %v: more than of %v", g, l)
		}
		s.Count("less is left out", b < a)
		if !hasTruth(l) {
			continue
		}
		narrow, wide := bounds(t, l), bounds(t, g)
		if !narrow.inside(wide) {
			t.Fatalf("%v is narrower than %v", g, l)
		}
		s.Count("wider", !wide.inside(narrow))
	}
	s.Need(t, 20, "less is left out")
	s.Need(t, 50, "wider")
}

// P9.13
func TestSettled(t *testing.T) {
	for _, l := range ledgers(100, 0) {
		fewest := settle(t, l)
		for _, rows := range oracle.ShortestFirst(l.Field.Rows) {
			each := true
			for weeder := range l.Field.Weeders {
				each = each && weed.ProveAsk(l.Field, weeder, rows)
			}
			if wage.ProveSettle(l, rows) != each {
				t.Fatalf("ProveSettle of %v, %v: %v", l, rows, !each)
			}
			if slices.Equal(rows, fewest) {
				if !each {
					t.Fatalf("Settle of %v: %v", l, fewest)
				}
				break
			}
			if each {
				t.Fatalf("Settle of %v: %v, not %v", l, fewest, rows)
			}
		}
		dues := map[[api.MaxWeedRows]int][]int{}
		for _, truth := range fieldTruths(l.Field) {
			var said [api.MaxWeedRows]int
			for i, row := range fewest {
				said[i] = truth[row]
			}
			if d, ok := dues[said]; ok && !slices.Equal(d, duesOf(l, truth)) {
				t.Fatalf("%v: the rows %v do not tell the dues", l, fewest)
			}
			dues[said] = duesOf(l, truth)
		}
	}
}

// P9.14
func TestFirst(t *testing.T) {
	for _, l := range randomLedgers(500, 5) {
		n, e := wage.First(l)
		if e == api.ErrNone {
			bounds(t, l)
			continue
		}
		if e != api.OK || n < 0 || n >= len(l.Notes) {
			t.Fatalf("First of %v: %d, %v", l, n, e)
		}
		bounds(t, only(l, n))
		if _, e := wage.Paid(only(l, n+1)); e != api.ErrFalse {
			t.Fatalf("First of %v: %d, but Paid: %v", l, n, e)
		}
	}
}

// P9.15
func TestLeftOut(t *testing.T) {
	for _, l := range randomLedgers(500, 5) {
		smallest := leave(t, l)
		bounds(t, without(l, smallest))
		for _, notes := range oracle.ShortestFirst(len(l.Notes)) {
			if slices.Equal(notes, smallest) {
				break
			}
			if _, e := wage.Paid(without(l, notes)); e != api.ErrFalse {
				t.Fatalf("Leave of %v: %v, not %v", l, smallest, notes)
			}
		}
	}
}

func times(many int, r wage.Range) wage.Range { return to(many*r.Lo, many*r.Hi) }

// P9.16
func TestRate(t *testing.T) {
	s := oracle.Seen{}
	for r, l := range randomLedgers(600, 5) {
		many := 2 + r.IntN(9)
		g := l
		g.Rate, g.Box, g.Notes = many*l.Rate, times(many, l.Box), slices.Clone(l.Notes)
		for n := range g.Notes {
			g.Notes[n].Pence = times(many, g.Notes[n].Pence)
		}
		if !slices.Equal(leave(t, l), leave(t, g)) {
			t.Fatalf("Leave of %v and of %v", l, g)
		}
		s.Count("some are left out", len(leave(t, l)) > 0)
		before, e := wage.Earned(l)
		after, f := wage.Earned(g)
		if e != f {
			t.Fatalf("Earned of %v: %v; of %v: %v", l, e, g, f)
		}
		for weeder, r := range before {
			if after[weeder] != times(many, r) {
				t.Fatalf("Earned of %v: %v; of %v: %v", l, before, g, after)
			}
		}
	}
	s.Need(t, 50, "some are left out")
}

// P7: notes, and the field's tallies, in another order.
func TestAnyOrder(t *testing.T) {
	for r, l := range randomLedgers(400, 5) {
		g := l
		g.Notes, g.Field.Tallies = slices.Clone(l.Notes), slices.Clone(l.Field.Tallies)
		r.Shuffle(len(g.Notes), func(i, j int) { g.Notes[i], g.Notes[j] = g.Notes[j], g.Notes[i] })
		slices.Reverse(g.Field.Tallies)
		if len(leave(t, l)) != len(leave(t, g)) || !slices.Equal(settle(t, l), settle(t, g)) {
			t.Fatalf("%v and %v", l, g)
		}
		if !hasTruth(l) {
			if _, e := wage.Owed(g); e != api.ErrFalse {
				t.Fatalf("Owed of %v: %v", g, e)
			}
			continue
		}
		a, b := bounds(t, l), bounds(t, g)
		if !a.inside(b) || !b.inside(a) || !slices.Equal(safe(t, l, 5), safe(t, g, 5)) || !slices.Equal(share(t, l, 9), share(t, g, 9)) {
			t.Fatalf("%v and %v", l, g)
		}
	}
}

// Rules: a call with equal arguments returns equal results.
func TestAgain(t *testing.T) {
	for _, l := range append(bigLedgers(), example()) {
		x, payments, shares := bounds(t, l), safe(t, l, 7), share(t, l, 7)
		for range 5 {
			y := bounds(t, l)
			if !x.inside(y) || !y.inside(x) || !slices.Equal(payments, safe(t, l, 7)) || !slices.Equal(shares, share(t, l, 7)) {
				t.Fatalf("%v: not the same again", l)
			}
		}
	}
}

// P1: whatever the arguments are, each call returns.
func TestNoPanic(t *testing.T) {
	odd := []int{math.MinInt, -2, -1, 0, 0, 1, 1, 2, 3, 5, 10, 20, 22, 50, 51, 2000, 2001, math.MaxInt}
	r := rand.New(rand.NewPCG(1, 9))
	pick := func() int { return odd[r.IntN(len(odd))] }
	some := func() []int {
		l := make([]int, r.IntN(6))
		for i := range l {
			l[i] = pick()
		}
		return l
	}
	for range 8000 {
		l := example()
		if r.IntN(3) == 0 {
			l.Field = weed.Field{Rows: pick(), Weeders: pick(), Left: weed.Range{Lo: pick(), Hi: pick()}}
		}
		for range r.IntN(3) * r.IntN(2) {
			l.Field.Tallies = append(l.Field.Tallies, weed.Tally{
				Weeder: pick(), From: pick(), To: pick(), Count: weed.Range{Lo: pick(), Hi: pick()},
			})
		}
		if r.IntN(2) == 0 {
			l.Rate, l.Box = pick(), to(pick(), pick())
		}
		for range r.IntN(7) * r.IntN(2) {
			l.Notes = append(l.Notes, note(pick(), pick(), pick()))
		}
		rows, pence := some(), some()
		if _, zero := calls(l, rows, pick()); !zero {
			t.Fatalf("%v, %v: a result together with an error", l, rows)
		}
		proves(l, wage.Truth{Rows: rows, Paid: pence}, pence, rows)
	}
}

// R3, R4: arguments stay as they are, and results are new.
func TestMemory(t *testing.T) {
	l := example(note(1, 5, 12))
	rows, paid, payments := list(0, 0, 1, 0), list(12, 10), list(5, 0)
	for range 2 {
		due, e := wage.Due(l, rows)
		x := bounds(t, l)
		pays, shares, asked, left := safe(t, l, 9), share(t, l, 7), settle(t, l), leave(t, example(note(1, 13, 20)))
		if e != api.OK || !slices.Equal(due, list(30, 10)) || x.paid[1] != to(5, 12) || !slices.Equal(pays, list(5, 0)) ||
			shares[1] != to(2, 3) || !slices.Equal(asked, list(0, 1, 2, 3)) || !slices.Equal(left, list(0)) {
			t.Fatalf("%v, %v, %v, %v, %v, %v", due, x, pays, shares, asked, left)
		}
		due[0], x.earned[0], x.paid[1], x.owed[0], pays[0], shares[1], asked[0], left[0] = 9, to(9, 9), to(9, 9), to(9, 9), 9, to(9, 9), 9, 9
		if !wage.ProveTruth(l, wage.Truth{Rows: rows, Paid: paid}) || !wage.ProveSafe(l, payments) || !wage.ProveSettle(l, list(0, 1, 2, 3)) {
			t.Fatal("what was proved is not proved again")
		}
	}
	if !slices.Equal(rows, list(0, 0, 1, 0)) || !slices.Equal(paid, list(12, 10)) || !slices.Equal(payments, list(5, 0)) {
		t.Error("an argument was changed")
	}
	if !slices.Equal(l.Notes, []wage.Note{note(0, 10, 15), note(1, 5, 12)}) || !slices.Equal(l.Field.Tallies, field().Tallies) {
		t.Error("the ledger was changed")
	}
	none, empty := example(), example()
	none.Notes, empty.Notes = nil, []wage.Note{}
	none.Field.Tallies, empty.Field.Tallies = nil, []weed.Tally{}
	if !bounds(t, none).inside(bounds(t, empty)) || !bounds(t, empty).inside(bounds(t, none)) || len(leave(t, empty)) > 0 {
		t.Error("nothing, and an empty list")
	}
	known := worked(2, 1)
	if !wage.ProveSettle(known, nil) || !wage.ProveSettle(known, list()) || len(settle(t, known)) > 0 {
		t.Error("no rows, and an empty list of them")
	}
}
