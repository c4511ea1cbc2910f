package trade_test

import (
	"math"
	"math/rand/v2"
	"slices"
	"testing"

	"isatis/api"
	"isatis/cask"
	"isatis/oracle"
	"isatis/trade"
)

func play(t *testing.T, d trade.Trade, heaps []int) []int {
	t.Helper()
	l, e := trade.Play(d, heaps)
	if e != api.OK {
		t.Fatalf("Play of %v, %v: %v", d, heaps, e)
	}
	return l
}

func bounds(t *testing.T, d trade.Trade) []trade.Range {
	t.Helper()
	l, e := trade.Bounds(d)
	if e != api.OK {
		t.Fatalf("Bounds of %v: %v", d, e)
	}
	return l
}

func worth(t *testing.T, d trade.Trade, sale []int) trade.Range {
	t.Helper()
	r, e := trade.Worth(d, sale)
	if e != api.OK {
		t.Fatalf("Worth of %v, %v: %v", d, sale, e)
	}
	return r
}

func best(t *testing.T, d trade.Trade) ([]int, int) {
	t.Helper()
	sale, sure, e := trade.Best(d)
	if e != api.OK {
		t.Fatalf("Best of %v: %v", d, e)
	}
	return sale, sure
}

// fill is the delivery, and whether there is any.
func fill(t *testing.T, d trade.Trade) ([]int, bool) {
	t.Helper()
	l, e := trade.Fill(d)
	if e != api.OK && e != api.ErrShort {
		t.Fatalf("Fill of %v: %v", d, e)
	}
	return l, e == api.OK
}

// short is the smallest proof, and whether there is any.
func short(t *testing.T, d trade.Trade) ([]int, bool) {
	t.Helper()
	l, e := trade.Short(d)
	if e != api.OK && e != api.ErrNone {
		t.Fatalf("Short of %v: %v", d, e)
	}
	return l, e == api.OK
}

func leave(t *testing.T, d trade.Trade) []int {
	t.Helper()
	l, e := trade.Leave(d)
	if e != api.OK {
		t.Fatalf("Leave of %v: %v", d, e)
	}
	return l
}

func inside(narrow, wide trade.Range) bool { return narrow.Lo >= wide.Lo && narrow.Hi <= wide.Hi }

func allInside(narrow, wide []trade.Range) bool {
	for number, r := range narrow {
		if !inside(r, wide[number]) {
			return false
		}
	}
	return len(narrow) == len(wide)
}

// trades are small and big ones; those without a truth are left out.
func trades(many, notes int) []trade.Trade {
	all := append(bigTrades(), example(), example(note(0, 80, 80)))
	for _, d := range randomTrades(many, notes) {
		if hasTruth(d) {
			all = append(all, d)
		}
	}
	return all
}

// P10.7
func TestInEachTruth(t *testing.T) {
	for _, d := range trades(500, 3) {
		b := bounds(t, d)
		low, high := make([]bool, len(b)), make([]bool, len(b))
		for _, heaps := range truthsOf(d) {
			if !trade.ProveTruth(d, heaps) {
				t.Fatalf("ProveTruth of %v, %v", d, heaps)
			}
			for number, n := range play(t, d, heaps) {
				if !isIn(n, b[number]) {
					t.Fatalf("Bounds of %v: %v, but %d with %v", d, b, n, heaps)
				}
				low[number], high[number] = low[number] || n == b[number].Lo, high[number] || n == b[number].Hi
			}
		}
		if slices.Contains(low, false) || slices.Contains(high, false) {
			t.Fatalf("Bounds of %v: %v, an end is not reached", d, b)
		}
		if len(leave(t, d)) > 0 {
			t.Fatalf("Leave of %v, which has a truth", d)
		}
	}
}

// P10.8
func TestWorth(t *testing.T) {
	s := oracle.Seen{}
	for _, d := range trades(800, 3) {
		b, flat := bounds(t, d), 0
		var all []int
		for number := range b {
			flat += d.Flat * weightOf(d, number)
			all = append(all, number)
		}
		truths := truthsOf(d)
		sum := boundsOf(truths, func(heaps []int) int { return oracle.Sum(play(t, d, heaps)) })
		if r := worth(t, d, all); r != sum {
			t.Fatalf("Worth of %v, all: %v, not %v", d, r, sum)
		}
		if r := worth(t, d, nil); r != to(flat, flat) {
			t.Fatalf("Worth of %v, none: %v, not %d", d, r, flat)
		}
		for number, r := range b {
			others := flat - d.Flat*weightOf(d, number)
			if g := worth(t, d, list(number)); g != to(r.Lo+others, r.Hi+others) {
				t.Fatalf("Worth of %v, %d: %v, not %v and %d", d, number, g, r, others)
			}
			s.Count("others are sold flat", others > 0 && r.Hi > 0)
		}
	}
	s.Need(t, 200, "others are sold flat")
}

// P10.9
func TestBest(t *testing.T) {
	s := oracle.Seen{}
	for _, d := range trades(800, 3) {
		sale, sure := best(t, d)
		if !trade.ProveWorth(d, sale, sure) || worth(t, d, sale).Lo != sure {
			t.Fatalf("Best of %v: %v, %d", d, sale, sure)
		}
		for _, heaps := range truthsOf(d) {
			if worthOf(d, heaps, sale) < sure {
				t.Fatalf("Best of %v: %v, %d, but less with %v", d, sale, sure, heaps)
			}
		}
		for _, other := range sales(d) {
			n := worth(t, d, other).Lo
			if n > sure || n == sure && slices.Compare(other, sale) < 0 {
				t.Fatalf("Best of %v: %v, %d, not %v, %d", d, sale, sure, other, n)
			}
			s.Count("another one is as good", n == sure && !slices.Equal(other, sale))
		}
		s.Count("the best one has several casks", len(sale) > 1)
	}
	s.Need(t, 50, "another one is as good", "the best one has several casks")
}

// P10.10
func TestFilledOrShort(t *testing.T) {
	s := oracle.Seen{}
	for _, d := range trades(800, 3) {
		delivery, filled := fill(t, d)
		_, isShort := short(t, d)
		if filled == isShort {
			t.Fatalf("%v: Fill %v, Short %v", d, filled, isShort)
		}
		for _, l := range assignments(d) {
			if slices.Equal(l, delivery) && filled {
				break
			}
			if trade.ProveFill(d, l) {
				t.Fatalf("Fill of %v: %v, %v, not %v", d, delivery, filled, l)
			}
			s.Count("a later one is a delivery", filled)
		}
		if !filled {
			continue
		}
		if !trade.ProveFill(d, delivery) || len(delivery) != len(d.Orders) {
			t.Fatalf("Fill of %v: %v", d, delivery)
		}
		for _, heaps := range truthsOf(d) {
			strengths, e := cask.Play(d.Cellar, heaps)
			for i, o := range d.Orders {
				if number := delivery[i]; e != api.OK || weightOf(d, number) < o.Least || strengths[number] < d.Grades[o.Grade].Strength {
					t.Fatalf("Fill of %v: %v, but not with %v", d, delivery, heaps)
				}
			}
		}
	}
	s.Need(t, 50, "a later one is a delivery")
}

// P10.11
func TestSmallestProof(t *testing.T) {
	s := oracle.Seen{}
	for _, d := range trades(2000, 3) {
		smallest, is := short(t, d)
		if is && !trade.ProveShort(d, smallest) {
			t.Fatalf("Short of %v: %v", d, smallest)
		}
		for _, orders := range oracle.ShortestFirst(len(d.Orders)) {
			if is && slices.Equal(orders, smallest) {
				break
			}
			if trade.ProveShort(d, orders) {
				t.Fatalf("Short of %v: %v, not %v", d, smallest, orders)
			}
		}
		s.Count("it is not the first order", is && smallest[0] > 0)
		s.Count("it has several orders", len(smallest) > 1)
	}
	s.Need(t, 50, "it is not the first order", "it has several orders")
}

// P10.12
func TestStronger(t *testing.T) {
	s := oracle.Seen{}
	for r, d := range randomTrades(400, 0) {
		for _, heaps := range oracle.OneOfEach(d.Cellar.Heaps...) {
			before, heap := play(t, d, heaps), r.IntN(len(heaps))
			if heaps[heap]++; heaps[heap] > d.Cellar.Heaps[heap].Hi {
				continue
			}
			for number, n := range play(t, d, heaps) {
				if n < before[number] {
					t.Fatalf("Play of %v, %v: %d, but %d before", d, heaps, n, before[number])
				}
				s.Count("more money", n > before[number])
			}
		}
	}
	s.Need(t, 200, "more money")
}

// P10.13
func TestOneMoreNote(t *testing.T) {
	s := oracle.Seen{}
	for r, d := range randomTrades(2500, 4) {
		truths := oracle.TruthsOf(d.Cellar)
		if len(truths) == 0 || len(d.Cellar.Casks) == 0 {
			continue
		}
		g := with(d, randomNote(r, d, truths[r.IntN(len(truths))]))
		more := len(leave(t, g)) - len(leave(t, d))
		if more < 0 || more > 1 {
			t.Fatalf("Leave of %v and of %v: %d more", d, g, more)
		}
		s.Count("one more is left out", more == 1)
		if !hasTruth(g) {
			continue
		}
		if !allInside(bounds(t, g), bounds(t, d)) {
			t.Fatalf("Bounds of %v are wider than of %v", g, d)
		}
		s.Count("bounds are narrower", !allInside(bounds(t, d), bounds(t, g)))
		for _, sale := range sales(d) {
			before, after := worth(t, d, sale), worth(t, g, sale)
			if !inside(after, before) {
				t.Fatalf("Worth of %v, %v: %v; of %v: %v", d, sale, before, g, after)
			}
			s.Count("more is sure", after.Lo > before.Lo)
		}
		delivery, filled := fill(t, d)
		if filled && !trade.ProveFill(g, delivery) {
			t.Fatalf("%v is no delivery of %v any more, as it was of %v", delivery, g, d)
		}
		_, now := fill(t, g)
		s.Count("orders are filled now", now && !filled)
	}
	s.Need(t, 50, "one more is left out", "bounds are narrower", "more is sure")
	s.Need(t, 10, "orders are filled now")
}

// P10.14
func TestOneLessOrder(t *testing.T) {
	s := oracle.Seen{}
	for _, d := range trades(800, 3) {
		delivery, filled := fill(t, d)
		for i := range delivery {
			g := d
			g.Orders = oracle.Without(d.Orders, list(i))
			if l := oracle.Without(delivery, list(i)); !filled || !trade.ProveFill(g, l) {
				t.Fatalf("%v is no delivery of %v; %v of %v", l, g, delivery, d)
			}
			s.Count("some orders are left", len(g.Orders) > 0)
		}
	}
	s.Need(t, 50, "some orders are left")
}

// P10.15
func TestFirst(t *testing.T) {
	s := oracle.Seen{}
	for _, d := range randomTrades(1000, 5) {
		n, e := trade.First(d)
		switch e {
		case api.ErrFalse:
			continue
		case api.ErrNone:
			bounds(t, d)
			continue
		}
		if e != api.OK || n < 0 || n >= len(d.Notes) {
			t.Fatalf("First of %v: %d, %v", d, n, e)
		}
		bounds(t, only(d, n))
		if _, e := trade.Bounds(only(d, n+1)); e != api.ErrFail {
			t.Fatalf("First of %v: %d, but Bounds: %v", d, n, e)
		}
		s.Count("notes before it are right", n > 0)
	}
	s.Need(t, 50, "notes before it are right")
}

// P10.16
func TestLeftOut(t *testing.T) {
	for _, d := range randomTrades(1000, 5) {
		if errorOf(d) == api.ErrFalse {
			continue
		}
		smallest := leave(t, d)
		bounds(t, without(d, smallest))
		for _, notes := range oracle.ShortestFirst(len(d.Notes)) {
			if slices.Equal(notes, smallest) {
				break
			}
			if _, e := trade.Bounds(without(d, notes)); e != api.ErrFail {
				t.Fatalf("Leave of %v: %v, not %v", d, smallest, notes)
			}
		}
	}
}

// P10.17
func TestByTheCellar(t *testing.T) {
	s := oracle.Seen{}
	for _, d := range trades(1500, 0) {
		d.Notes = nil
		for _, o := range d.Orders {
			for number := range d.Cellar.Casks {
				kind, e := cask.Graded(d.Cellar, number, d.Grades[o.Grade].Strength)
				if e != api.OK {
					t.Fatalf("Graded of %v: %v", d, e)
				}
				g := d
				g.Orders = []trade.Order{o}
				want := weightOf(d, number) >= o.Least && kind == cask.Always
				if trade.ProveFill(g, list(number)) != want {
					t.Fatalf("ProveFill of %v, %d: not %v", g, number, want)
				}
				s.Count("it suits", want)
				s.Count("it is heavy enough, but perhaps too weak", weightOf(d, number) >= o.Least && kind == cask.Perhaps)
				s.Count("it is strong, but not heavy enough", weightOf(d, number) < o.Least && kind == cask.Always)
			}
		}
	}
	s.Need(t, 100, "it suits", "it is heavy enough, but perhaps too weak", "it is strong, but not heavy enough")
}

// P7: notes and trials in another order.
func TestAnyOrder(t *testing.T) {
	for r, d := range randomTrades(600, 5) {
		g := d
		g.Notes, g.Cellar.Trials = slices.Clone(d.Notes), slices.Clone(d.Cellar.Trials)
		r.Shuffle(len(g.Notes), func(i, j int) { g.Notes[i], g.Notes[j] = g.Notes[j], g.Notes[i] })
		slices.Reverse(g.Cellar.Trials)
		want := errorOf(d)
		if _, e := trade.Bounds(g); e != want {
			t.Fatalf("Bounds of %v: %v, not %v", g, e, want)
		}
		if want != api.ErrFalse && len(leave(t, d)) != len(leave(t, g)) {
			t.Fatalf("Leave of %v and of %v", d, g)
		}
		if want != api.OK {
			continue
		}
		a, x := best(t, d)
		b, y := best(t, g)
		before, _ := fill(t, d)
		after, _ := fill(t, g)
		if !slices.Equal(bounds(t, d), bounds(t, g)) || !slices.Equal(a, b) || x != y || !slices.Equal(before, after) {
			t.Fatalf("%v and %v", d, g)
		}
	}
}

// Rules: a call with equal arguments returns equal results.
func TestAgain(t *testing.T) {
	for _, d := range append(bigTrades(), example()) {
		b := bounds(t, d)
		sale, sure := best(t, d)
		delivery, _ := fill(t, d)
		orders, _ := short(t, d)
		for range 3 {
			again, n := best(t, d)
			l, _ := fill(t, d)
			m, _ := short(t, d)
			if !slices.Equal(b, bounds(t, d)) || !slices.Equal(sale, again) || n != sure || !slices.Equal(delivery, l) || !slices.Equal(orders, m) {
				t.Fatalf("%v: not the same again", d)
			}
		}
	}
}

// P1: whatever the arguments are, each call returns.
func TestNoPanic(t *testing.T) {
	odd := []int{math.MinInt, -2, -1, 0, 0, 1, 1, 2, 3, 10, 20, 40, 60, 80, 100, 101, 9000, 9001, math.MaxInt}
	r := rand.New(rand.NewPCG(1, 10))
	pick := func() int { return odd[r.IntN(len(odd))] }
	some := func() []int {
		l := make([]int, r.IntN(5))
		for i := range l {
			l[i] = pick()
		}
		return l
	}
	for range 20000 {
		d := example()
		if r.IntN(4) == 0 {
			d.Cellar = cask.Cellar{}
			for range r.IntN(5) {
				d.Cellar.Heaps = append(d.Cellar.Heaps, cask.Range{Lo: pick(), Hi: pick()})
			}
			for range r.IntN(5) {
				d.Cellar.Casks = append(d.Cellar.Casks, some())
			}
		}
		if r.IntN(3) == 0 {
			d.Flat, d.Grades = pick(), nil
			for range r.IntN(5) {
				d.Grades = append(d.Grades, grade(pick(), pick()))
			}
		}
		for range r.IntN(4) * r.IntN(2) {
			d.Orders = append(d.Orders, order(pick(), pick()))
		}
		for range r.IntN(7) * r.IntN(2) {
			d.Notes = append(d.Notes, note(pick(), pick(), pick()))
		}
		for range r.IntN(3) * r.IntN(2) {
			d.Cellar.Trials = append(d.Cellar.Trials, cask.Trial{Cask: r.IntN(2) == 0, Number: pick(), Strength: cask.Range{Lo: pick(), Hi: pick()}})
		}
		heaps, l := some(), some()
		if _, zero := calls(d, heaps, l); !zero {
			t.Fatalf("%v, %v, %v: a result together with an error", d, heaps, l)
		}
		proves(d, heaps, l, l, l)
	}
}

// R3, R4: arguments stay as they are, and results are new.
func TestMemory(t *testing.T) {
	d, heaps, sale := example(note(0, 80, 80)), list(42, 62), list(0, 1)
	d.Cellar.Trials = noCellar()[:1]
	for range 2 {
		money, b := play(t, d, heaps), bounds(t, d)
		chosen, sure := best(t, d)
		delivery, _ := fill(t, d)
		orders, _ := short(t, example())
		left := leave(t, example(note(0, 80, 80), note(0, 40, 40)))
		if !slices.Equal(money, list(80, 120)) || !slices.Equal(b, []trade.Range{to(80, 80), to(120, 120)}) || !slices.Equal(chosen, sale) ||
			sure != 200 || !slices.Equal(delivery, list(1, 0)) || !slices.Equal(orders, list(0, 1)) || !slices.Equal(left, list(0)) {
			t.Fatalf("%v, %v, %v, %d, %v, %v, %v", money, b, chosen, sure, delivery, orders, left)
		}
		money[0], b[0], chosen[0], delivery[0], orders[0], left[0] = 9, to(9, 9), 9, 9, 9, 9
		if worth(t, d, sale) != to(200, 200) || !trade.ProveTruth(d, heaps) || !trade.ProveFill(d, list(1, 0)) || !trade.ProveShort(example(), sale) {
			t.Fatal("what was proved is not proved again")
		}
	}
	g := example(note(0, 80, 80))
	if d.Flat != g.Flat || !slices.Equal(d.Cellar.Heaps, g.Cellar.Heaps) || !slices.EqualFunc(d.Cellar.Casks, g.Cellar.Casks, slices.Equal) ||
		!slices.Equal(d.Cellar.Trials, noCellar()[:1]) || !slices.Equal(d.Grades, g.Grades) || !slices.Equal(d.Orders, g.Orders) || !slices.Equal(d.Notes, g.Notes) {
		t.Error("the trade was changed")
	}
	if !slices.Equal(heaps, list(42, 62)) || !slices.Equal(sale, list(0, 1)) {
		t.Error("a list was changed")
	}
	empty := example()
	empty.Notes, empty.Cellar.Trials, empty.Orders = []trade.Note{}, []cask.Trial{}, []trade.Order{}
	if !slices.Equal(bounds(t, empty), bounds(t, example())) || len(leave(t, empty)) > 0 || !trade.ProveFill(empty, []int{}) || trade.ProveShort(empty, []int{}) ||
		worth(t, empty, []int{}) != worth(t, empty, nil) {
		t.Error("nothing, and an empty list")
	}
}
