package couch_test

import (
	"math"
	"math/rand/v2"
	"slices"
	"testing"

	"isatis/api"
	"isatis/couch"
	"isatis/oracle"
)

func play(t *testing.T, h couch.Heap, y couch.Truth, turns []int) []int {
	t.Helper()
	l, e := couch.Play(h, y, turns)
	if e != api.OK {
		t.Fatalf("Play of %v, %v, %v: %v", h, y, turns, e)
	}
	return l
}

func bounds(t *testing.T, h couch.Heap, turns []int) []couch.Range {
	t.Helper()
	l, e := couch.Bounds(h, turns)
	if e != api.OK {
		t.Fatalf("Bounds of %v, %v: %v", h, turns, e)
	}
	return l
}

func keeps(t *testing.T, h couch.Heap, turns []int) int {
	t.Helper()
	kind, e := couch.Keeps(h, turns)
	if e != api.OK {
		t.Fatalf("Keeps of %v, %v: %v", h, turns, e)
	}
	return kind
}

// many is how many turnings the heap needs; of a heap that no turnings keep
// always they are more than there are hours.
func many(t *testing.T, h couch.Heap) int {
	t.Helper()
	switch l, e := couch.Fewest(h); e {
	case api.OK:
		return len(l)
	case api.ErrShort:
		return 11
	default:
		t.Fatalf("Fewest of %v: %v", h, e)
		return 0
	}
}

func leave(t *testing.T, h couch.Heap) []int {
	t.Helper()
	l, e := couch.Leave(h)
	if e != api.OK {
		t.Fatalf("Leave of %v: %v", h, e)
	}
	return l
}

// inside reports whether no heat is bounded more widely in the narrow heap than
// in the wide one.
func inside(t *testing.T, narrow, wide couch.Heap, turns []int) bool {
	t.Helper()
	b := bounds(t, wide, turns)
	for hour, a := range bounds(t, narrow, turns) {
		if a.Lo < b[hour].Lo || a.Hi > b[hour].Hi {
			return false
		}
	}
	return true
}

func copied(y couch.Truth) couch.Truth {
	return couch.Truth{Start: y.Start, Wet: slices.Clone(y.Wet)}
}

// isLost reports whether the heap is lost in the hour in which it has this heat.
func isLost(h couch.Heap, heat int) bool { return heat > h.Burn || heat < h.Die }

// noneAbove reports whether no element is greater than that of the other list.
func noneAbove(a, b []int) bool {
	for i := range a {
		if a[i] > b[i] {
			return false
		}
	}
	return len(a) == len(b)
}

// P4.6
func TestInEachTruth(t *testing.T) {
	heaps := append(bigHeaps(), example(), example(isRead()))
	for _, h := range randomHeaps(200, 3) {
		if isRight(h) {
			heaps = append(heaps, h)
		}
	}
	r := rand.New(rand.NewPCG(6, 6))
	for _, h := range heaps {
		turns := randomTurns(r, h)
		b, kind := bounds(t, h, turns), keeps(t, h, turns)
		low, high := make([]bool, h.Last+1), make([]bool, h.Last+1)
		truths := truthsOf(h)
		for _, y := range truths {
			heats := play(t, h, y, turns)
			for hour, heat := range heats {
				if heat < b[hour].Lo || heat > b[hour].Hi {
					t.Fatalf("Bounds of %v, %v: %v, but %v in %v", h, turns, b, heats, y)
				}
				low[hour], high[hour] = low[hour] || heat == b[hour].Lo, high[hour] || heat == b[hour].Hi
			}
			lost := slices.ContainsFunc(heats, func(heat int) bool { return isLost(h, heat) })
			if lost && kind == couch.Always || !lost && kind == couch.Never {
				t.Fatalf("Keeps of %v, %v: %d, but %v in %v", h, turns, kind, heats, y)
			}
		}
		if slices.Contains(low, false) || slices.Contains(high, false) {
			t.Fatalf("Bounds of %v, %v: %v, which are not reached", h, turns, b)
		}
		if len(leave(t, h)) > 0 {
			t.Fatalf("Leave of %v, which has a truth", h)
		}
	}
}

// P4.7
func TestWetter(t *testing.T) {
	for r, h := range randomHeaps(500, 0) {
		turns := randomTurns(r, h)
		truths := anyTruths(h)
		y := truths[r.IntN(len(truths))]
		heats := play(t, h, y, turns)
		more, hour := h, r.IntN(h.Last+2)
		more.Wet = slices.Clone(h.Wet)
		z := copied(y)
		if hour > h.Last {
			more.Start.Hi++
			z.Start++
		} else {
			more.Wet[hour].Hi++
			z.Wet[hour]++
		}
		if couch.CheckHeap(more) != api.OK {
			continue
		}
		if other := play(t, more, z, turns); !noneAbove(heats, other) {
			t.Fatalf("Play of %v, %v: %v in %v, but %v in %v", h, turns, heats, y, other, z)
		}
		for at := range h.Last + 1 {
			if slices.Contains(turns, at) {
				continue
			}
			longer := append(slices.Clone(turns), at)
			slices.Sort(longer)
			if other := play(t, h, y, longer); !noneAbove(other, heats) {
				t.Fatalf("Play of %v in %v: %v with %v, but %v with %v", h, y, heats, turns, other, longer)
			}
		}
	}
}

// P4.8
func TestNoneAreFewer(t *testing.T) {
	heaps := append(bigHeaps(), example(), example(isRead()))
	for _, h := range randomHeaps(200, 2) {
		if isRight(h) {
			heaps = append(heaps, h)
		}
	}
	for _, h := range heaps {
		fewest, e := couch.Fewest(h)
		if e == api.OK && !couch.ProveKeeps(h, fewest) {
			t.Fatalf("Fewest of %v: %v, which do not keep it", h, fewest)
		}
		for _, turns := range oracle.ShortestFirst(h.Last + 1) {
			if e == api.OK && slices.Equal(turns, fewest) {
				break
			}
			if couch.ProveKeeps(h, turns) {
				t.Fatalf("Fewest of %v: %v, %v, but %v keep it", h, fewest, e, turns)
			}
		}
	}
}

// P4.9
func TestDanger(t *testing.T) {
	for r, h := range randomHeaps(500, 3) {
		if !isRight(h) {
			continue
		}
		turns := randomTurns(r, h)
		d, e := couch.Fear(h, turns)
		if (e == api.ErrNone) != (keeps(t, h, turns) == couch.Always) {
			t.Fatalf("Fear of %v, %v: %v, %v", h, turns, d, e)
		}
		if e != api.OK {
			continue
		}
		var burns, dies bool
		for _, y := range truthsOf(h) {
			heats := play(t, h, y, turns)
			if slices.ContainsFunc(heats[:d.Hour], func(heat int) bool { return isLost(h, heat) }) {
				t.Fatalf("Fear of %v, %v: %v, but %v in %v", h, turns, d, heats, y)
			}
			burns, dies = burns || heats[d.Hour] > h.Burn, dies || heats[d.Hour] < h.Die
		}
		if burns != d.Burns || dies != d.Dies || !burns && !dies {
			t.Fatalf("Fear of %v, %v: %v", h, turns, d)
		}
	}
}

// P4.10
func TestOwnTurns(t *testing.T) {
	for r, h := range randomHeaps(500, 0) {
		truths := anyTruths(h)
		y := truths[r.IntN(len(truths))]
		for hour, heat := range play(t, h, y, h.Turns) {
			h.Readings = append(h.Readings[max(0, len(h.Readings)-4):], reading(hour, heat, r.IntN(51)))
			if !couch.ProveTruth(h, y) || len(leave(t, h)) > 0 {
				t.Fatalf("%v is no truth of %v", y, h)
			}
		}
	}
}

// P4.11
func TestOneMoreReading(t *testing.T) {
	compared, changed := 0, 0
	for r, h := range randomHeaps(600, 4) {
		truths := anyTruths(h)
		g := with(h, randomReading(r, h, truths[r.IntN(len(truths))]))
		if d := len(leave(t, g)) - len(leave(t, h)); d < 0 || d > 1 {
			t.Fatalf("Leave of %v and of %v: %d more", h, g, d)
		}
		if !isRight(g) {
			continue
		}
		compared++
		turns := randomTurns(r, h)
		if !inside(t, g, h, turns) {
			t.Fatalf("%v with %v is wider than %v", g, turns, h)
		}
		if kind := keeps(t, h, turns); kind != couch.Perhaps && keeps(t, g, turns) != kind {
			t.Fatalf("Keeps of %v, %v: %d; not of %v", h, turns, kind, g)
		}
		if many(t, g) > many(t, h) {
			t.Fatalf("%v needs more turnings than %v", g, h)
		}
		if !inside(t, h, g, turns) {
			changed++
		}
	}
	if compared < 200 || changed < 50 {
		t.Errorf("%d heaps compared, %d are not the same", compared, changed)
	}
}

func widen(r *rand.Rand, x couch.Range, limit int) couch.Range {
	return to(max(0, x.Lo-r.IntN(2)), min(limit, x.Hi+r.IntN(2)))
}

// P4.12
func TestWider(t *testing.T) {
	compared := 0
	for r, h := range randomHeaps(500, 5) {
		g := h
		g.Wet, g.Readings = slices.Clone(h.Wet), slices.Clone(h.Readings)
		for i := range g.Readings {
			g.Readings[i].Error += r.IntN(2)
		}
		hour := r.IntN(h.Last + 1)
		g.Wet[hour] = widen(r, h.Wet[hour], api.MaxCouchWet)
		g.Start = widen(r, h.Start, api.MaxCouchHeat)
		if len(leave(t, g)) > len(leave(t, h)) {
			t.Fatalf("Leave of %v: more than of %v", g, h)
		}
		if !isRight(h) {
			continue
		}
		compared++
		turns := randomTurns(r, h)
		if !inside(t, h, g, turns) {
			t.Fatalf("%v with %v is narrower than %v", g, turns, h)
		}
		if many(t, g) < many(t, h) {
			t.Fatalf("%v needs fewer turnings than %v", g, h)
		}
	}
	if compared < 100 {
		t.Errorf("only %d of the heaps have a truth", compared)
	}
}

// P4.13
func TestLater(t *testing.T) {
	for r, h := range randomHeaps(500, 0) {
		turns, hour := randomTurns(r, h), r.IntN(h.Last+1)
		for i := range h.Wet {
			h.Wet[i] = to(3, 5)
		}
		if couch.CheckHeap(h) != api.OK {
			continue
		}
		y := couch.Truth{Start: h.Start.Lo, Wet: make([]int, h.Last+1)}
		for i := range y.Wet {
			y.Wet[i] = 3 + r.IntN(3)
		}
		z := copied(y)
		var others []int
		for at := range h.Last + 1 {
			if at > hour {
				z.Wet[at] = 3 + r.IntN(3)
			}
			if at > hour && r.IntN(2) == 0 || at <= hour && slices.Contains(turns, at) {
				others = append(others, at)
			}
		}
		a, b := play(t, h, y, turns), play(t, h, z, others)
		if !slices.Equal(a[:hour+1], b[:hour+1]) {
			t.Fatalf("%v up to the hour %d: %v with %v in %v, but %v with %v in %v", h, hour, a, turns, y, b, others, z)
		}
	}
}

// P4.14
func TestFirst(t *testing.T) {
	for _, h := range randomHeaps(500, 5) {
		n, e := couch.First(h)
		if e == api.ErrNone {
			bounds(t, h, nil)
			continue
		}
		if e != api.OK || n < 0 || n >= len(h.Readings) {
			t.Fatalf("First of %v: %d, %v", h, n, e)
		}
		g := h
		g.Readings = h.Readings[:n]
		bounds(t, g, nil)
		g.Readings = h.Readings[:n+1]
		if _, e := couch.Keeps(g, nil); e != api.ErrFalse {
			t.Fatalf("First of %v: %d, but Keeps: %v", h, n, e)
		}
	}
}

// P4.15
func TestLeftOut(t *testing.T) {
	for _, h := range randomHeaps(500, 5) {
		smallest := leave(t, h)
		bounds(t, without(h, smallest), nil)
		for _, l := range oracle.ShortestFirst(len(h.Readings)) {
			if slices.Equal(l, smallest) {
				break
			}
			if _, e := couch.Bounds(without(h, l), nil); e != api.ErrFalse {
				t.Fatalf("Leave of %v: %v, not %v", h, smallest, l)
			}
		}
	}
}

// P4.16
func TestNoCooling(t *testing.T) {
	needs := map[int]int{}
	for r, h := range randomHeaps(400, 2) {
		h.Cool = 0
		if !isRight(h) {
			continue
		}
		turns := randomTurns(r, h)
		if !slices.Equal(bounds(t, h, turns), bounds(t, h, nil)) || keeps(t, h, turns) != keeps(t, h, nil) {
			t.Fatalf("%v is changed by %v", h, turns)
		}
		n := many(t, h)
		if n != 0 && n != 11 || (n == 0) != couch.ProveKeeps(h, nil) {
			t.Fatalf("%v needs %d turnings", h, n)
		}
		needs[n]++
	}
	if len(needs) != 2 {
		t.Errorf("turnings that are needed: %v", needs)
	}
}

// P7: readings in another order.
func TestAnyOrder(t *testing.T) {
	for r, h := range randomHeaps(300, 5) {
		g := h
		g.Readings = slices.Clone(h.Readings)
		r.Shuffle(len(g.Readings), func(i, j int) { g.Readings[i], g.Readings[j] = g.Readings[j], g.Readings[i] })
		if len(leave(t, h)) != len(leave(t, g)) {
			t.Fatalf("Leave of %v and of %v", h, g)
		}
		if !isRight(h) {
			continue
		}
		turns := randomTurns(r, h)
		a, _ := couch.Fewest(h)
		b, _ := couch.Fewest(g)
		if !slices.Equal(a, b) || !slices.Equal(bounds(t, h, turns), bounds(t, g, turns)) || keeps(t, h, turns) != keeps(t, g, turns) {
			t.Fatalf("%v and %v", h, g)
		}
	}
}

// Readings were made with the heap's own Turns, whatever turnings are asked
// about.
func TestReadingsByOwnTurns(t *testing.T) {
	h := hours(to(20, 30), to(0, 0), to(5, 5))
	h.Readings = []couch.Reading{reading(1, 17, 0)}
	h.Turns = list(0) // 24 or 25 at first, then 12 or 13, then 17 or 18
	if l := bounds(t, h, nil); !slices.Equal(l, []couch.Range{to(23, 24), to(28, 29)}) {
		t.Errorf("Bounds without turnings: %v", l)
	}
	if l := bounds(t, h, list(0)); !slices.Equal(l, []couch.Range{to(12, 12), to(17, 17)}) {
		t.Errorf("Bounds with its own turnings: %v", l)
	}
	h.Burn = 28
	if kind := keeps(t, h, nil); kind != couch.Perhaps {
		t.Errorf("Keeps without turnings: %d", kind)
	}
	h.Turns = nil
	if _, e := couch.Bounds(h, list(0)); e != api.ErrFalse {
		t.Errorf("Bounds of what was read without turnings: %v", e)
	}
}

// P1: whatever the arguments are, each call returns.
func TestNoPanic(t *testing.T) {
	odd := []int{math.MinInt, -2, -1, 0, 0, 1, 1, 2, 3, 10, 50, 101, math.MaxInt}
	r := rand.New(rand.NewPCG(1, 1))
	pick := func() int { return odd[r.IntN(len(odd))] }
	some := func() []int {
		l := make([]int, r.IntN(6))
		for i := range l {
			l[i] = pick()
		}
		return l
	}
	for range 20000 {
		h := couch.Heap{Last: pick(), Size: pick(), Cool: pick(), Die: pick(), Burn: pick(), Start: to(pick(), pick()), Turns: some()}
		for range r.IntN(4) {
			h.Wet = append(h.Wet, to(pick(), pick()))
		}
		for range r.IntN(3) {
			h.Readings = append(h.Readings, reading(pick(), pick(), pick()))
		}
		if r.IntN(2) == 0 { // a valid heap, with whatever else
			h = example(h.Readings...)
		}
		y, turns := couch.Truth{Start: pick(), Wet: some()}, some()
		if _, zero := calls(h, y, turns); !zero {
			t.Fatalf("%v, %v, %v: a result together with an error", h, y, turns)
		}
		couch.ProveTruth(h, y)
		couch.ProveKeeps(h, turns)
	}
}

// R3, R4: arguments stay as they are, and results are new.
func TestMemory(t *testing.T) {
	h, y, turns := example(isRead(), reading(0, 43, 1)), truth(), list(2)
	h.Turns = list(4)
	for range 2 {
		heats, around := play(t, h, y, turns), bounds(t, h, turns)
		fewest, _ := couch.Fewest(h)
		left := leave(t, example(isRead(), isFalse()))
		if !slices.Equal(heats, list(40, 50, 37, 45, 55)) || around[0] != to(42, 44) || !slices.Equal(fewest, turns) || !slices.Equal(left, list(0)) {
			t.Fatalf("%v, %v, %v, %v", heats, around, fewest, left)
		}
		heats[0], around[0], fewest[0], left[0] = 9, couch.Range{}, 9, 9
		if !couch.ProveTruth(example(), y) || !couch.ProveKeeps(h, turns) {
			t.Fatal("what was proved is not proved again")
		}
	}
	if g := example(isRead(), reading(0, 43, 1)); !slices.Equal(h.Wet, g.Wet) || !slices.Equal(h.Turns, list(4)) || !slices.Equal(h.Readings, g.Readings) {
		t.Error("the heap was changed")
	}
	if !slices.Equal(y.Wet, truth().Wet) || !slices.Equal(turns, list(2)) {
		t.Error("a truth or turnings were changed")
	}
	g := example()
	g.Readings, g.Turns = []couch.Reading{}, list()
	if !slices.Equal(bounds(t, g, list()), bounds(t, example(), nil)) || keeps(t, g, list()) != couch.Never || len(leave(t, g)) > 0 {
		t.Error("nothing, and an empty list")
	}
}
