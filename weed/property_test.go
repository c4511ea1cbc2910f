package weed_test

import (
	"math"
	"math/rand/v2"
	"slices"
	"testing"

	"isatis/api"
	"isatis/oracle"
	"isatis/weed"
)

// answer is the field after the row was asked about, and this was said.
func answer(f weed.Field, row, said int) weed.Field {
	if said >= 0 {
		return with(f, tally(said, row, row, 1, 1))
	}
	for weeder := range f.Weeders {
		f = with(f, tally(weeder, row, row, 0, 0))
	}
	return f
}

func ask(t *testing.T, f weed.Field, weeder int) []int {
	t.Helper()
	l, e := weed.Ask(f, weeder)
	if e != api.OK {
		t.Fatalf("Ask of %v, %d: %v", f, weeder, e)
	}
	return l
}

func next(t *testing.T, f weed.Field, weeder int) (row, many int) {
	t.Helper()
	row, many, e := weed.Next(f, weeder)
	if e != api.OK {
		t.Fatalf("Next of %v, %d: %v", f, weeder, e)
	}
	return row, many
}

func bounds(t *testing.T, f weed.Field) []weed.Range {
	t.Helper()
	l, e := weed.Done(f)
	if e != api.OK {
		t.Fatalf("Done of %v: %v", f, e)
	}
	return l
}

func leave(t *testing.T, f weed.Field) []int {
	t.Helper()
	l, e := weed.Leave(f)
	if e != api.OK {
		t.Fatalf("Leave of %v: %v", f, e)
	}
	return l
}

// inside reports whether each range is within the other one of its index.
func inside(narrow, wide []weed.Range) bool {
	for i, r := range narrow {
		if r.Lo < wide[i].Lo || r.Hi > wide[i].Hi {
			return false
		}
	}
	return len(narrow) == len(wide)
}

// P1.6
func TestInEachTruth(t *testing.T) {
	for _, f := range append(bigFields(), example()) {
		l := bounds(t, f)
		var who [][]int
		for row := range f.Rows {
			said, e := weed.Who(f, row)
			if e != api.OK {
				t.Fatalf("Who of %v, %d: %v", f, row, e)
			}
			who = append(who, said)
		}
		low, high := make([]bool, f.Weeders), make([]bool, f.Weeders)
		for _, truth := range truthsOf(f) {
			together := done(truth, -1)
			for weeder, r := range l {
				n := done(truth, weeder)
				together += n
				low[weeder] = low[weeder] || n == r.Lo
				high[weeder] = high[weeder] || n == r.Hi
				if !within(n, r) {
					t.Fatalf("Done of %v: %v, but %v", f, l, truth)
				}
			}
			for row, said := range truth {
				if !slices.Contains(who[row], said) {
					t.Fatalf("Who of %v, %d: %v, but %v", f, row, who[row], truth)
				}
			}
			if together != f.Rows || !weed.ProveTruth(f, truth) {
				t.Fatalf("%v: the truth %v", f, truth)
			}
		}
		if slices.Contains(low, false) || slices.Contains(high, false) {
			t.Fatalf("Done of %v: %v: an end is not reached", f, l)
		}
		if l := leave(t, f); len(l) > 0 {
			t.Fatalf("Leave of %v: %v", f, l)
		}
	}
}

// P1.7
func TestSettled(t *testing.T) {
	for _, f := range bigFields() {
		for weeder := range f.Weeders {
			fewest := ask(t, f, weeder)
			if !weed.ProveAsk(f, weeder, fewest) {
				t.Fatalf("ProveAsk of %v, %d, %v", f, weeder, fewest)
			}
			for _, rows := range oracle.ShortestFirst(f.Rows) {
				if slices.Equal(rows, fewest) {
					break
				}
				if weed.ProveAsk(f, weeder, rows) {
					t.Fatalf("Ask of %v, %d: %v, not %v", f, weeder, fewest, rows)
				}
			}
			number := map[[api.MaxWeedRows]int]int{}
			for _, truth := range truthsOf(f) {
				var said [api.MaxWeedRows]int
				for i, row := range fewest {
					said[i] = truth[row]
				}
				if n, ok := number[said]; ok && n != done(truth, weeder) {
					t.Fatalf("%v: the rows %v do not settle the weeder %d", f, fewest, weeder)
				}
				number[said] = done(truth, weeder)
			}
		}
	}
}

// P1.8
func TestOneAfterTheOther(t *testing.T) {
	check := func(f weed.Field, weeder int) {
		row, many := next(t, f, weeder)
		if many > len(ask(t, f, weeder)) {
			t.Fatalf("%v, %d: %d questions", f, weeder, many)
		}
		if many == 0 {
			return
		}
		said, e := weed.Who(f, row)
		if e != api.OK || len(said) < 2 {
			t.Fatalf("Who of %v, %d: %v, %v", f, row, said, e)
		}
		worst := 0
		for _, n := range said {
			_, after := next(t, answer(f, row, n), weeder)
			worst = max(worst, after)
		}
		if worst != many-1 {
			t.Fatalf("Next of %v, %d: %d, %d, but then %d", f, weeder, row, many, worst)
		}
	}
	for _, f := range bigFields() {
		check(f, 0)
	}
	for _, f := range randomFields(200, 2) {
		for weeder := range f.Weeders {
			if isRight(f) {
				check(f, weeder)
			}
		}
	}
}

// P1.9
func TestOneMoreTally(t *testing.T) {
	for r, f := range randomFields(300, 4) {
		truth := allowedTruths(f)[0]
		g := with(f, randomTally(r, f, truth))
		if d := len(leave(t, g)) - len(leave(t, f)); d < 0 || d > 1 {
			t.Fatalf("Leave of %v and of %v: %d more", f, g, d)
		}
		if !isRight(g) {
			continue
		}
		if !inside(bounds(t, g), bounds(t, f)) {
			t.Fatalf("Done of %v is wider than of %v", g, f)
		}
		for row := range f.Rows {
			before, _ := weed.Who(f, row)
			after, _ := weed.Who(g, row)
			for _, said := range after {
				if !slices.Contains(before, said) {
					t.Fatalf("Who of %v, %d: %v, but %v before", g, row, after, before)
				}
			}
		}
		for weeder := range f.Weeders {
			_, before := next(t, f, weeder)
			_, after := next(t, g, weeder)
			if after > before || len(ask(t, g, weeder)) > len(ask(t, f, weeder)) {
				t.Fatalf("%v, %d: more is asked about than of %v", g, weeder, f)
			}
		}
	}
}

// P1.10
func TestWider(t *testing.T) {
	widen := func(r *rand.Rand, x weed.Range, limit int) weed.Range {
		return to(max(0, x.Lo-r.IntN(2)), min(limit, x.Hi+r.IntN(2)))
	}
	for r, f := range randomFields(300, 5) {
		g := f
		g.Left = widen(r, f.Left, f.Rows)
		g.Tallies = slices.Clone(f.Tallies)
		for i := range g.Tallies {
			g.Tallies[i].Count = widen(r, g.Tallies[i].Count, f.Rows)
		}
		if len(leave(t, g)) > len(leave(t, f)) {
			t.Fatalf("Leave of %v: more than of %v", g, f)
		}
		if isRight(f) && !inside(bounds(t, f), bounds(t, g)) {
			t.Fatalf("Done of %v is narrower than of %v", g, f)
		}
	}
}

// P1.11
func TestFirst(t *testing.T) {
	for _, f := range randomFields(500, 5) {
		n, e := weed.First(f)
		if e == api.ErrNone {
			bounds(t, f)
			continue
		}
		if e != api.OK || n < 0 || n >= len(f.Tallies) {
			t.Fatalf("First of %v: %d, %v", f, n, e)
		}
		g := f
		g.Tallies = f.Tallies[:n]
		bounds(t, g)
		g.Tallies = f.Tallies[:n+1]
		if _, e := weed.Done(g); e != api.ErrFalse {
			t.Fatalf("First of %v: %d, but Done: %v", f, n, e)
		}
	}
}

// P1.12
func TestLeftOut(t *testing.T) {
	for _, f := range randomFields(500, 5) {
		smallest := leave(t, f)
		bounds(t, without(f, smallest))
		for _, l := range oracle.ShortestFirst(len(f.Tallies)) {
			if slices.Equal(l, smallest) {
				break
			}
			if _, e := weed.Done(without(f, l)); e != api.ErrFalse {
				t.Fatalf("Leave of %v: %v, not %v", f, smallest, l)
			}
		}
	}
}

// P1.13
func TestFromTheOtherEnd(t *testing.T) {
	for _, f := range randomFields(200, 3) {
		g := f
		g.Tallies = slices.Clone(f.Tallies)
		for i, y := range f.Tallies {
			g.Tallies[i].From, g.Tallies[i].To = f.Rows-1-y.To, f.Rows-1-y.From
		}
		if !isRight(f) {
			if _, e := weed.Done(g); e != api.ErrFalse {
				t.Fatalf("Done of %v: %v", g, e)
			}
			continue
		}
		if !slices.Equal(bounds(t, f), bounds(t, g)) {
			t.Fatalf("Done of %v and of %v", f, g)
		}
		for weeder := range f.Weeders {
			if len(ask(t, f, weeder)) != len(ask(t, g, weeder)) {
				t.Fatalf("Ask of %v and of %v, %d", f, g, weeder)
			}
		}
	}
}

// P1.14
func TestOtherNames(t *testing.T) {
	for r, f := range randomFields(300, 4) {
		name := r.Perm(f.Weeders)
		g := f
		g.Tallies = slices.Clone(f.Tallies)
		for i, y := range f.Tallies {
			g.Tallies[i].Weeder = name[y.Weeder]
		}
		if len(leave(t, f)) != len(leave(t, g)) {
			t.Fatalf("Leave of %v and of %v", f, g)
		}
		if !isRight(f) {
			continue
		}
		before, after := bounds(t, f), bounds(t, g)
		for weeder, r := range before {
			if after[name[weeder]] != r {
				t.Fatalf("Done of %v and of %v", f, g)
			}
		}
	}
}

// P1.15
func TestOneWeeder(t *testing.T) {
	for rows := 1; rows <= api.MaxWeedRows; rows++ {
		for low := 0; low <= rows; low++ {
			for high := low; high <= rows; high++ {
				f := weed.Field{Rows: rows, Weeders: 1, Left: to(low, high)}
				if l := bounds(t, f); !slices.Equal(l, []weed.Range{to(rows-high, rows-low)}) {
					t.Errorf("Done of %v: %v", f, l)
				}
			}
		}
	}
}

// P7: tallies in another order.
func TestAnyOrder(t *testing.T) {
	for r, f := range randomFields(200, 5) {
		g := f
		g.Tallies = slices.Clone(f.Tallies)
		r.Shuffle(len(g.Tallies), func(i, j int) { g.Tallies[i], g.Tallies[j] = g.Tallies[j], g.Tallies[i] })
		if len(leave(t, f)) != len(leave(t, g)) {
			t.Fatalf("Leave of %v and of %v", f, g)
		}
		if !isRight(f) {
			continue
		}
		row, many := next(t, f, 0)
		again, as := next(t, g, 0)
		if !slices.Equal(bounds(t, f), bounds(t, g)) || !slices.Equal(ask(t, f, 0), ask(t, g, 0)) || row != again || many != as {
			t.Fatalf("%v and %v", f, g)
		}
	}
}

// P1: whatever the arguments are, each call returns.
func TestNoPanic(t *testing.T) {
	odd := []int{math.MinInt, -2, -1, 0, 1, 3, 7, 8, math.MaxInt}
	r := rand.New(rand.NewPCG(1, 1))
	pick := func() int { return odd[r.IntN(len(odd))] }
	for range 20000 {
		f := weed.Field{Rows: pick(), Weeders: pick(), Left: to(pick(), pick())}
		for range r.IntN(3) {
			f.Tallies = append(f.Tallies, tally(pick(), pick(), pick(), pick(), pick()))
		}
		if _, zero := calls(f, pick(), pick()); !zero {
			t.Fatalf("%v: a result together with an error", f)
		}
		weed.ProveTruth(f, []int{pick(), pick()})
		weed.ProveAsk(f, pick(), []int{pick(), pick()})
	}
}

// R3, R4: arguments stay as they are, and results are new.
func TestMemory(t *testing.T) {
	f := example(tally(0, 0, 1, 2, 2), tally(0, 0, 3, 0, 4))
	before := slices.Clone(f.Tallies)
	rows, truth := []int{2, 3}, []int{0, 0, 1, 0}
	for range 2 {
		done, _ := weed.Done(f)
		who, _ := weed.Who(f, 2)
		fewest, _ := weed.Ask(f, 0)
		left, _ := weed.Leave(example(false2()))
		if !slices.Equal(done, []weed.Range{to(2, 3), to(1, 2)}) || !slices.Equal(who, []int{0, 1}) || !slices.Equal(fewest, rows) || !slices.Equal(left, []int{0}) {
			t.Fatalf("%v, %v, %v, %v", done, who, fewest, left)
		}
		done[0], who[0], fewest[0], left[0] = to(9, 9), 9, 9, 9
		if !weed.ProveAsk(f, 0, rows) || !weed.ProveTruth(f, truth) {
			t.Fatal("what was proved is not proved again")
		}
	}
	if !slices.Equal(f.Tallies, before) || !slices.Equal(rows, []int{2, 3}) || !slices.Equal(truth, []int{0, 0, 1, 0}) {
		t.Error("an argument was changed")
	}
	one := weed.Field{Rows: 2, Weeders: 1, Left: to(0, 1)}
	two := one
	two.Tallies = []weed.Tally{}
	if !slices.Equal(bounds(t, one), bounds(t, two)) || len(leave(t, two)) > 0 {
		t.Error("no tallies, and an empty list of them")
	}
}
