package couch_test

import (
	"math"
	"slices"
	"testing"

	"isatis/api"
	"isatis/couch"
	"isatis/oracle"
)

func to(low, high int) couch.Range { return couch.Range{Lo: low, Hi: high} }

func reading(hour, seen, slack int) couch.Reading {
	return couch.Reading{Hour: hour, Seen: seen, Error: slack}
}

func list(l ...int) []int { return l }

// example is the heap of the chapter's examples, with readings.
func example(readings ...couch.Reading) couch.Heap {
	return couch.Heap{
		Last: 4, Size: 10, Cool: 50, Die: 20, Burn: 60, Start: to(30, 32),
		Wet: []couch.Range{to(10, 12), to(10, 10), to(12, 12), to(8, 9), to(10, 10)}, Readings: readings,
	}
}

func isRead() couch.Reading { return reading(1, 53, 1) }

// isFalse is a reading that contradicts isRead.
func isFalse() couch.Reading { return reading(3, 70, 1) }

// truth is the truth of the example that is played.
func truth() couch.Truth { return couch.Truth{Start: 30, Wet: list(10, 10, 12, 8, 10)} }

// hours is a heap of the size 10, so that it rises by its Wet, that is turned
// at no hour and bears all heats.
func hours(start couch.Range, wet ...couch.Range) couch.Heap {
	return couch.Heap{Last: len(wet) - 1, Size: 10, Cool: 50, Burn: 500, Start: start, Wet: wet}
}

// calls are the errors of all calls with the heap, and whether each of them
// returns nothing else together with its error.
func calls(h couch.Heap, y couch.Truth, turns []int) (map[string]api.Errno, bool) {
	play, e1 := couch.Play(h, y, turns)
	bounds, e2 := couch.Bounds(h, turns)
	keeps, e3 := couch.Keeps(h, turns)
	fewest, e4 := couch.Fewest(h)
	fear, e5 := couch.Fear(h, turns)
	first, e6 := couch.First(h)
	leave, e7 := couch.Leave(h)
	zero := (e1 == 0 || play == nil) && (e2 == 0 || bounds == nil) && (e3 == 0 || keeps == 0) && (e4 == 0 || fewest == nil) &&
		(e5 == 0 || fear == couch.Danger{}) && (e6 == 0 || first == 0) && (e7 == 0 || leave == nil)
	return map[string]api.Errno{"Play": e1, "Bounds": e2, "Keeps": e3, "Fewest": e4, "Fear": e5, "First": e6, "Leave": e7}, zero
}

type change struct {
	name string
	make func(h *couch.Heap)
	want api.Errno
}

func hourChanges() []change {
	return []change{
		{"as it is", func(h *couch.Heap) {}, api.OK},
		{"1 hour", func(h *couch.Heap) { h.Last, h.Wet = 0, h.Wet[:1] }, api.OK},
		{"10 hours", func(h *couch.Heap) { h.Last, h.Wet = 9, make([]couch.Range, 10) }, api.OK},
		{"11 hours", func(h *couch.Heap) { h.Last, h.Wet = 10, make([]couch.Range, 11) }, api.ErrLimit},
		{"no hours", func(h *couch.Heap) { h.Last, h.Wet = -1, nil }, api.ErrArg},
		{"the smallest Last", func(h *couch.Heap) { h.Last = math.MinInt }, api.ErrArg},
		{"the greatest Last", func(h *couch.Heap) { h.Last = math.MaxInt }, api.ErrLimit},
		{"an hour more", func(h *couch.Heap) { h.Last = 5 }, api.ErrArg},
		{"an hour less", func(h *couch.Heap) { h.Last = 3 }, api.ErrArg},
		{"Wet too short", func(h *couch.Heap) { h.Wet = h.Wet[:4] }, api.ErrArg},
		{"Wet too long", func(h *couch.Heap) { h.Wet = append(h.Wet, to(1, 1)) }, api.ErrArg},
		{"no Wet", func(h *couch.Heap) { h.Wet = nil }, api.ErrArg},
		{"Wet to 20", func(h *couch.Heap) { h.Wet[4] = to(20, 20) }, api.OK},
		{"Wet above 20", func(h *couch.Heap) { h.Wet[4] = to(20, 21) }, api.ErrArg},
		{"Wet from 0", func(h *couch.Heap) { h.Wet[4] = to(0, 0) }, api.OK},
		{"Wet below 0", func(h *couch.Heap) { h.Wet[4] = to(-1, 0) }, api.ErrArg},
		{"Wet upside down", func(h *couch.Heap) { h.Wet[4] = to(2, 1) }, api.ErrArg},
		{"a turning in each hour", func(h *couch.Heap) { h.Turns = list(0, 1, 2, 3, 4) }, api.OK},
		{"a turning before the hours", func(h *couch.Heap) { h.Turns = list(-1, 4) }, api.ErrArg},
		{"a turning after the hours", func(h *couch.Heap) { h.Turns = list(0, 5) }, api.ErrArg},
		{"a turning twice", func(h *couch.Heap) { h.Turns = list(1, 1) }, api.ErrArg},
		{"turnings that fall", func(h *couch.Heap) { h.Turns = list(2, 1) }, api.ErrArg},
	}
}

func heatChanges() []change {
	return []change{
		{"Size below 0", func(h *couch.Heap) { h.Size = -1 }, api.ErrArg},
		{"Size 0", func(h *couch.Heap) { h.Size = 0 }, api.OK},
		{"Size 20", func(h *couch.Heap) { h.Size = 20 }, api.OK},
		{"Size 21", func(h *couch.Heap) { h.Size = 21 }, api.ErrArg},
		{"Cool below 0", func(h *couch.Heap) { h.Cool = -1 }, api.ErrArg},
		{"Cool 0", func(h *couch.Heap) { h.Cool = 0 }, api.OK},
		{"Cool 100", func(h *couch.Heap) { h.Cool = 100 }, api.OK},
		{"Cool 101", func(h *couch.Heap) { h.Cool = 101 }, api.ErrArg},
		{"Die below 0", func(h *couch.Heap) { h.Die = -1 }, api.ErrArg},
		{"Die 0", func(h *couch.Heap) { h.Die = 0 }, api.OK},
		{"Die as great as Burn", func(h *couch.Heap) { h.Die = 60 }, api.OK},
		{"Die above Burn", func(h *couch.Heap) { h.Die = 61 }, api.ErrArg},
		{"Burn 500", func(h *couch.Heap) { h.Burn = 500 }, api.OK},
		{"Burn 501", func(h *couch.Heap) { h.Burn = 501 }, api.ErrArg},
		{"Die and Burn 500", func(h *couch.Heap) { h.Die, h.Burn = 500, 500 }, api.OK},
		{"Die and Burn 0", func(h *couch.Heap) { h.Die, h.Burn = 0, 0 }, api.OK},
		{"Die and Burn below 0", func(h *couch.Heap) { h.Die, h.Burn = -1, -1 }, api.ErrArg},
		{"Start from 0", func(h *couch.Heap) { h.Start = to(0, 1) }, api.OK},
		{"Start below 0", func(h *couch.Heap) { h.Start = to(-1, 1) }, api.ErrArg},
		{"Start to 500", func(h *couch.Heap) { h.Start = to(500, 500) }, api.OK},
		{"Start above 500", func(h *couch.Heap) { h.Start = to(500, 501) }, api.ErrArg},
		{"Start upside down", func(h *couch.Heap) { h.Start = to(2, 1) }, api.ErrArg},
	}
}

func readingChanges() []change {
	return []change{
		{"5 readings", func(h *couch.Heap) { h.Readings = make([]couch.Reading, 5) }, api.OK},
		{"6 readings", func(h *couch.Heap) { h.Readings = make([]couch.Reading, 6) }, api.ErrLimit},
		{"6 readings, Size below 0", func(h *couch.Heap) { h.Size, h.Readings = -1, make([]couch.Reading, 6) }, api.ErrLimit},
		{"a reading before the hours", func(h *couch.Heap) { h.Readings = []couch.Reading{reading(0, 1, 1), reading(-1, 1, 1)} }, api.ErrArg},
		{"a reading after the hours", func(h *couch.Heap) { h.Readings = []couch.Reading{reading(5, 1, 1)} }, api.ErrArg},
		{"a reading in the last hour", func(h *couch.Heap) { h.Readings = []couch.Reading{reading(4, 1, 1)} }, api.OK},
		{"Seen below 0", func(h *couch.Heap) { h.Readings = []couch.Reading{reading(4, -1, 1)} }, api.ErrArg},
		{"Seen 0", func(h *couch.Heap) { h.Readings = []couch.Reading{reading(4, 0, 1)} }, api.OK},
		{"Seen 1000", func(h *couch.Heap) { h.Readings = []couch.Reading{reading(4, 1000, 1)} }, api.OK},
		{"Seen 1001", func(h *couch.Heap) { h.Readings = []couch.Reading{reading(4, 1001, 1)} }, api.ErrArg},
		{"Error below 0", func(h *couch.Heap) { h.Readings = []couch.Reading{reading(4, 1, -1)} }, api.ErrArg},
		{"Error 0", func(h *couch.Heap) { h.Readings = []couch.Reading{reading(4, 1, 0)} }, api.OK},
		{"Error 50", func(h *couch.Heap) { h.Readings = []couch.Reading{reading(4, 1, 50)} }, api.OK},
		{"Error 51", func(h *couch.Heap) { h.Readings = []couch.Reading{reading(4, 1, 51)} }, api.ErrArg},
		{"2000 truths", func(h *couch.Heap) { *h = hours(to(0, 99), to(1, 20)) }, api.OK},
		{"2001 truths", func(h *couch.Heap) { *h = hours(to(0, 86), to(0, 0)); h.Wet = []couch.Range{to(0, 22), to(0, 0)} }, api.ErrArg},
		{"2016 truths", func(h *couch.Heap) { *h = hours(to(1, 96), to(0, 20)) }, api.ErrLimit},
		{"2002 truths", func(h *couch.Heap) { *h = hours(to(0, 142), to(3, 16)) }, api.ErrLimit},
		{"501 truths", func(h *couch.Heap) { *h = hours(to(0, 500), to(1, 1)) }, api.OK},
		{"too many truths, and Cool", func(h *couch.Heap) { *h = hours(to(0, 500), to(0, 20)); h.Cool = -1 }, api.ErrArg},
		{"too many truths, and 6 readings", func(h *couch.Heap) { *h = hours(to(0, 500), to(0, 20)); h.Readings = make([]couch.Reading, 6) }, api.ErrLimit},
	}
}

// P4.1: the errors of a heap, in their order.
func TestCheckHeap(t *testing.T) {
	for _, x := range slices.Concat(hourChanges(), heatChanges(), readingChanges()) {
		h := example()
		x.make(&h)
		if e := couch.CheckHeap(h); e != x.want {
			t.Errorf("%s: CheckHeap: %v", x.name, e)
		}
		if x.want == api.OK {
			continue
		}
		// No truth and no turnings of the heap: the error of the heap comes first.
		errors, zero := calls(h, couch.Truth{}, list(-1))
		for name, e := range errors {
			if e != x.want {
				t.Errorf("%s: %s: %v", x.name, name, e)
			}
		}
		if !zero {
			t.Errorf("%s: a result together with an error", x.name)
		}
		if couch.ProveTruth(h, truth()) || couch.ProveTruth(h, couch.Truth{}) || couch.ProveKeeps(h, nil) || couch.ProveKeeps(h, list(2)) {
			t.Errorf("%s: something is proved of a heap that is not valid", x.name)
		}
	}
}

// P4.1: sizes whose product is far above the limit.
func TestManyTruths(t *testing.T) {
	for many := 1; many <= 10; many++ {
		for high := range api.MaxCouchWet + 1 {
			for _, start := range []couch.Range{to(5, 5), to(0, 500)} {
				h := hours(start, slices.Repeat([]couch.Range{to(0, high)}, many)...)
				truths := start.Hi - start.Lo + 1
				for range many {
					truths *= high + 1
				}
				want := api.OK
				if truths > 2000 {
					want = api.ErrLimit
				}
				if e := couch.CheckHeap(h); e != want {
					t.Errorf("Start %v, %d hours of 0..%d: %v", start, many, high, e)
				}
			}
		}
	}
}

// P4.1 to P4.5: the errors of calls with a valid heap.
func TestErrors(t *testing.T) {
	none := example(isRead(), isFalse())
	cold := example() // nothing keeps it
	cold.Die, cold.Burn = 28, 39
	other := truth()
	other.Start = 33
	for _, x := range []struct {
		name                       string
		h                          couch.Heap
		y                          couch.Truth
		turns                      []int
		play, bounds, fear, fewest api.Errno
	}{
		{"all is there", example(), truth(), list(1), api.OK, api.OK, api.OK, api.OK},
		{"no turnings", example(), truth(), nil, api.OK, api.OK, api.OK, api.OK},
		{"turnings in each hour", example(), truth(), list(0, 1, 2, 3, 4), api.OK, api.OK, api.ErrNone, api.OK},
		{"it is kept always", example(), truth(), list(2), api.OK, api.OK, api.ErrNone, api.OK},
		{"no truth of the heap", example(), other, list(1), api.ErrRange, api.OK, api.OK, api.OK},
		{"below", example(), truth(), list(-1, 2), api.ErrRange, api.ErrRange, api.ErrRange, api.OK},
		{"above", example(), truth(), list(2, 5), api.ErrRange, api.ErrRange, api.ErrRange, api.OK},
		{"far off", example(), truth(), list(math.MinInt, math.MaxInt), api.ErrRange, api.ErrRange, api.ErrRange, api.OK},
		{"a turning twice", example(), truth(), list(2, 2), api.ErrRange, api.ErrRange, api.ErrRange, api.OK},
		{"turnings that fall", example(), truth(), list(2, 1), api.ErrRange, api.ErrRange, api.ErrRange, api.OK},
		{"nothing keeps it", cold, truth(), list(1), api.OK, api.OK, api.OK, api.ErrShort},
		{"no truth", none, truth(), list(1), api.OK, api.ErrFalse, api.ErrFalse, api.ErrFalse},
		{"no truth, it would be kept", none, truth(), list(2), api.OK, api.ErrFalse, api.ErrFalse, api.ErrFalse},
		{"no truth, below", none, truth(), list(-1), api.ErrRange, api.ErrRange, api.ErrRange, api.ErrFalse},
		{"no truth, above", none, truth(), list(5), api.ErrRange, api.ErrRange, api.ErrRange, api.ErrFalse},
	} {
		first := api.OK
		if isRight(x.h) {
			first = api.ErrNone
		}
		errors, zero := calls(x.h, x.y, x.turns)
		for name, want := range map[string]api.Errno{"Play": x.play, "Bounds": x.bounds, "Keeps": x.bounds, "Fewest": x.fewest, "Fear": x.fear, "First": first, "Leave": api.OK} {
			if errors[name] != want {
				t.Errorf("%s: %s: %v", x.name, name, errors[name])
			}
		}
		if !zero {
			t.Errorf("%s: a result together with an error", x.name)
		}
		if couch.ProveKeeps(x.h, x.turns) != (x.fear == api.ErrNone) {
			t.Errorf("%s: ProveKeeps", x.name)
		}
	}
}

// P4.1: truths that have not one number of each range.
func TestNoTruths(t *testing.T) {
	for _, x := range []struct {
		name   string
		change func(y *couch.Truth)
	}{
		{"nothing", func(y *couch.Truth) { *y = couch.Truth{} }},
		{"no Wet", func(y *couch.Truth) { y.Wet = nil }},
		{"Wet too short", func(y *couch.Truth) { y.Wet = y.Wet[:4] }},
		{"Wet too long", func(y *couch.Truth) { y.Wet = append(y.Wet, 0) }},
		{"Start too small", func(y *couch.Truth) { y.Start = 29 }},
		{"Start too great", func(y *couch.Truth) { y.Start = 33 }},
		{"Wet too small", func(y *couch.Truth) { y.Wet[0] = 9 }},
		{"Wet too great", func(y *couch.Truth) { y.Wet[0] = 13 }},
		{"the last Wet too small", func(y *couch.Truth) { y.Wet[4] = 9 }},
		{"the last Wet too great", func(y *couch.Truth) { y.Wet[4] = 11 }},
	} {
		y := truth()
		x.change(&y)
		if l, e := couch.Play(example(), y, list(1, 3)); l != nil || e != api.ErrRange {
			t.Errorf("%s: Play: %v, %v", x.name, l, e)
		}
		if couch.ProveTruth(example(), y) {
			t.Errorf("%s: ProveTruth", x.name)
		}
	}
	if !couch.ProveTruth(example(), truth()) || !couch.ProveTruth(example(), couch.Truth{Start: 32, Wet: list(12, 10, 12, 9, 10)}) {
		t.Error("ProveTruth of the truths of the example")
	}
	if couch.ProveTruth(example(isRead()), truth()) || !couch.ProveTruth(example(isRead()), couch.Truth{Start: 32, Wet: list(10, 10, 12, 9, 10)}) {
		t.Error("ProveTruth with a reading")
	}
	if l, e := couch.Play(example(isRead()), truth(), list(2)); !slices.Equal(l, list(40, 50, 37, 45, 55)) || e != api.OK {
		t.Errorf("Play of a truth in which a reading is wrong: %v, %v", l, e)
	}
}

// The examples of the chapter.
func TestExamples(t *testing.T) {
	for _, x := range []struct{ turns, want []int }{{nil, list(40, 50, 62, 70, 80)}, {list(2), list(40, 50, 37, 45, 55)}} {
		if l, e := couch.Play(example(), truth(), x.turns); e != api.OK || !slices.Equal(l, x.want) {
			t.Errorf("Play with %v: %v, %v", x.turns, l, e)
		}
	}
	want := []couch.Range{to(40, 44), to(50, 54), to(62, 66), to(70, 75), to(80, 85)}
	if l, e := couch.Bounds(example(), nil); e != api.OK || !slices.Equal(l, want) {
		t.Errorf("Bounds: %v, %v", l, e)
	}
	for _, x := range []struct {
		h     couch.Heap
		turns []int
		want  int
	}{{example(), nil, couch.Never}, {example(), list(2), couch.Always}, {example(), list(1), couch.Perhaps}, {example(isRead()), list(1), couch.Never}} {
		if kind, e := couch.Keeps(x.h, x.turns); e != api.OK || kind != x.want {
			t.Errorf("Keeps of %v, %v: %d, %v", x.h, x.turns, kind, e)
		}
	}
	for _, x := range []struct {
		turns []int
		want  couch.Danger
	}{{nil, couch.Danger{Hour: 2, Burns: true}}, {list(1), couch.Danger{Hour: 4, Burns: true}}} {
		if d, e := couch.Fear(example(), x.turns); e != api.OK || d != x.want {
			t.Errorf("Fear with %v: %v, %v", x.turns, d, e)
		}
	}
	if l, e := couch.Fewest(example()); e != api.OK || !slices.Equal(l, list(2)) {
		t.Errorf("Fewest: %v, %v", l, e)
	}
	if n, e := couch.First(example(isRead(), isFalse())); e != api.OK || n != 1 {
		t.Errorf("First: %d, %v", n, e)
	}
	if l, e := couch.Leave(example(isRead(), isFalse())); e != api.OK || !slices.Equal(l, list(0)) {
		t.Errorf("Leave: %v, %v", l, e)
	}
}

// P4.1: what the heats are at their edges.
func TestEdgesOfHeats(t *testing.T) {
	for _, x := range []struct {
		name  string
		size  int
		cool  int
		start int
		wet   []int
		turns []int
		want  []int
	}{
		{"rounded down when it rises", 7, 50, 3, list(1, 2, 3, 19), nil, list(3, 4, 6, 19)},
		{"each hour is rounded for itself", 5, 50, 0, list(1, 1, 1, 3), nil, list(0, 0, 0, 1)},
		{"rounded down when it falls", 10, 50, 51, list(0, 0, 0), list(0, 1, 2), list(26, 13, 7)},
		{"what is small does not fall", 10, 33, 3, list(0, 0), list(0, 1), list(3, 3)},
		{"just falls", 10, 34, 3, list(0, 0), list(0), list(2, 2)},
		{"first it falls, then it rises", 10, 100, 500, list(20, 1, 7), list(0, 2), list(20, 21, 7)},
		{"all at once", 20, 99, 500, list(20, 20), list(1), list(540, 46)},
		{"no cooling", 10, 0, 9, list(1, 2), list(0, 1), list(10, 12)},
		{"no size", 0, 50, 9, list(20, 20), list(1), list(9, 5)},
		{"one hour", 20, 50, 9, list(20), list(0), list(45)},
		{"all it can be", 20, 0, 500, slices.Repeat(list(20), 10), nil, list(540, 580, 620, 660, 700, 740, 780, 820, 860, 900)},
		{"it goes on when it is lost", 10, 50, 500, list(20, 0, 0), list(2), list(520, 520, 260)},
	} {
		var wet []couch.Range
		for _, n := range x.wet {
			wet = append(wet, to(n, n))
		}
		h := hours(to(x.start, x.start), wet...)
		h.Size, h.Cool = x.size, x.cool
		y := couch.Truth{Start: x.start, Wet: x.wet}
		if l, e := couch.Play(h, y, x.turns); e != api.OK || !slices.Equal(l, x.want) {
			t.Errorf("%s: Play: %v, %v", x.name, l, e)
		}
	}
}

// P4.1: by the oracle.
func TestPlayAndProveTruth(t *testing.T) {
	for r, h := range randomHeaps(300, 3) {
		for _, y := range anyTruths(h) {
			if couch.ProveTruth(h, y) != allRight(h, y) {
				t.Fatalf("ProveTruth of %v, %v: %v", h, y, !allRight(h, y))
			}
			turns := randomTurns(r, h)
			if l, e := couch.Play(h, y, turns); e != api.OK || !slices.Equal(l, heatsOf(h, y, turns)) {
				t.Fatalf("Play of %v, %v, %v: %v, %v; not %v", h, y, turns, l, e, heatsOf(h, y, turns))
			}
		}
	}
}

// A reading is right if it differs by its Error, and not if it does by more.
func TestEdgesOfReadings(t *testing.T) {
	h := hours(to(30, 30), to(1, 1), to(2, 2))
	h.Turns = list(1)
	y := couch.Truth{Start: 30, Wet: list(1, 2)} // 31, and 31 less 15 and 2 more
	for _, x := range []struct {
		r    couch.Reading
		want bool
	}{
		{reading(0, 31, 0), true}, {reading(0, 30, 0), false}, {reading(0, 32, 0), false},
		{reading(0, 28, 3), true}, {reading(0, 34, 3), true}, {reading(0, 27, 3), false}, {reading(0, 35, 3), false},
		{reading(1, 18, 0), true}, {reading(1, 33, 0), false}, {reading(1, 17, 0), false},
		{reading(0, 0, 31), true}, {reading(0, 0, 30), false}, {reading(0, 81, 50), true}, {reading(0, 82, 50), false},
		{reading(0, 0, 50), true}, {reading(0, 1000, 50), false},
	} {
		h.Readings = []couch.Reading{x.r}
		_, e := couch.Bounds(h, nil)
		if couch.ProveTruth(h, y) != x.want || (e == api.OK) != x.want {
			t.Errorf("%v: %v", x.r, e)
		}
	}
}

// P4.2: the verdicts by their numbers.
func TestVerdicts(t *testing.T) {
	for _, x := range []struct {
		turns []int
		want  int
	}{{list(2), 1}, {nil, 2}, {list(1), 3}} {
		if kind, e := couch.Keeps(example(), x.turns); e != api.OK || kind != x.want {
			t.Errorf("Keeps of %v: %d, %v", x.turns, kind, e)
		}
	}
}

// P4.2: by the oracle.
func TestBoundsAndKeeps(t *testing.T) {
	kinds := map[int]int{}
	for r, h := range randomHeaps(600, 3) {
		if !isRight(h) {
			continue
		}
		turns := randomTurns(r, h)
		if l, e := couch.Bounds(h, turns); e != api.OK || !slices.Equal(l, boundsOf(h, turns)) {
			t.Fatalf("Bounds of %v, %v: %v, %v; not %v", h, turns, l, e, boundsOf(h, turns))
		}
		want := keepsOf(h, turns)
		if kind, e := couch.Keeps(h, turns); e != api.OK || kind != want {
			t.Fatalf("Keeps of %v, %v: %d, %v; not %d", h, turns, kind, e, want)
		}
		if couch.ProveKeeps(h, turns) != (want == couch.Always) {
			t.Fatalf("ProveKeeps of %v, %v", h, turns)
		}
		kinds[want]++
	}
	if kinds[couch.Always] < 30 || kinds[couch.Never] < 30 || kinds[couch.Perhaps] < 30 {
		t.Errorf("how often turnings keep a heap: %v", kinds)
	}
}

// P4.2: a heat that is as great as Burn does not burn, nor does one that is as
// small as Die die.
func TestEdgesOfLosses(t *testing.T) {
	for _, x := range []struct {
		die, burn int
		want      int
		danger    couch.Danger
	}{
		{30, 60, couch.Always, couch.Danger{}},
		{30, 59, couch.Perhaps, couch.Danger{Hour: 2, Burns: true}},
		{31, 60, couch.Perhaps, couch.Danger{Dies: true}},
		{31, 59, couch.Perhaps, couch.Danger{Dies: true}},
		{32, 60, couch.Never, couch.Danger{Dies: true}},
		{30, 57, couch.Never, couch.Danger{Hour: 2, Burns: true}},
		{31, 31, couch.Never, couch.Danger{Dies: true}},
		{30, 30, couch.Never, couch.Danger{Burns: true}},
		{0, 500, couch.Always, couch.Danger{}},
		{500, 500, couch.Never, couch.Danger{Dies: true}},
		{0, 0, couch.Never, couch.Danger{Burns: true}},
	} {
		h := hours(to(20, 21), to(10, 10), to(10, 11), to(18, 18)) // 30..31, 40..42, 58..60
		h.Die, h.Burn = x.die, x.burn
		kind, e := couch.Keeps(h, nil)
		d, f := couch.Fear(h, nil)
		if e != api.OK || kind != x.want || d != x.danger || (f == api.ErrNone) != (kind == couch.Always) {
			t.Errorf("Die %d, Burn %d: %d, %v; %v, %v", x.die, x.burn, kind, e, d, f)
		}
	}
	// It is lost if it is so in any hour, though it is not later.
	h := hours(to(50, 50), to(11, 11), to(0, 0))
	h.Burn = 60
	if kind, e := couch.Keeps(h, list(1)); kind != couch.Never || e != api.OK {
		t.Errorf("Keeps of what burns and is turned: %d, %v", kind, e)
	}
}

// P4.4: in one hour it can burn, and die.
func TestBurnsAndDies(t *testing.T) {
	h := hours(to(10, 30), to(0, 0), to(0, 20))
	h.Die, h.Burn = 5, 29
	if d, e := couch.Fear(h, list(1)); e != api.OK || d != (couch.Danger{Burns: true}) {
		t.Errorf("Fear: %v, %v", d, e)
	}
	h.Die, h.Burn = 11, 29
	if d, e := couch.Fear(h, nil); e != api.OK || d != (couch.Danger{Burns: true, Dies: true}) {
		t.Errorf("Fear of what burns and dies: %v, %v", d, e)
	}
	h.Die, h.Burn = 6, 34
	if d, e := couch.Fear(h, list(1)); e != api.OK || d != (couch.Danger{Hour: 1, Burns: true, Dies: true}) {
		t.Errorf("Fear of what burns and dies later: %v, %v", d, e)
	}
}

// P4.3: by the oracle, which tries all turnings.
func TestFewest(t *testing.T) {
	lengths := map[int]int{}
	for _, h := range randomHeaps(800, 2) {
		if !isRight(h) {
			continue
		}
		want, found := fewestOf(h)
		l, e := couch.Fewest(h)
		if found && (e != api.OK || !slices.Equal(l, want)) || !found && (e != api.ErrShort || l != nil) {
			t.Fatalf("Fewest of %v: %v, %v; not %v", h, l, e, want)
		}
		if !found {
			lengths[-1]++
		} else {
			lengths[len(want)]++
		}
	}
	if lengths[-1] < 30 || lengths[0] < 30 || lengths[1] < 20 || lengths[2] < 10 {
		t.Errorf("how often turnings are so many: %v", lengths)
	}
}

// P4.3: of several shortest ones the one that is lexicographically first.
func TestFewestOfSeveral(t *testing.T) {
	for _, x := range []struct {
		name string
		make func(h *couch.Heap)
		want []int
		e    api.Errno
	}{
		{"it needs none", func(h *couch.Heap) {}, nil, api.OK},
		{"any hour up to 3", func(h *couch.Heap) { h.Burn = 79 }, list(0), api.OK},
		{"not too soon", func(h *couch.Heap) { h.Burn, h.Die = 60, 31 }, list(1), api.OK},
		{"two", func(h *couch.Heap) { h.Burn, h.Die = 45, 26 }, list(0, 2), api.OK},
		{"two, one after the other", func(h *couch.Heap) { h.Burn = 45 }, list(0, 1), api.OK},
		{"each hour", func(h *couch.Heap) { h.Burn, h.Cool = 10, 100 }, list(0, 1, 2, 3), api.OK},
		{"its own Turns are not asked", func(h *couch.Heap) { h.Turns = list(0, 1, 2, 3) }, nil, api.OK},
		{"it burns at once", func(h *couch.Heap) { h.Burn, h.Cool = 9, 100 }, nil, api.ErrShort},
		{"it dies at once", func(h *couch.Heap) { h.Die = 51 }, nil, api.ErrShort},
		{"it burns, and dies if it is turned", func(h *couch.Heap) { h.Die, h.Burn, h.Cool = 50, 79, 100 }, nil, api.ErrShort},
		{"it does not cool", func(h *couch.Heap) { h.Burn, h.Cool = 79, 0 }, nil, api.ErrShort},
	} {
		h := hours(to(40, 40), slices.Repeat([]couch.Range{to(10, 10)}, 4)...) // 50, 60, 70, 80
		x.make(&h)
		want, _ := fewestOf(h)
		if l, e := couch.Fewest(h); e != x.e || !slices.Equal(l, x.want) || !slices.Equal(want, x.want) {
			t.Errorf("%s: Fewest: %v, %v; by the oracle %v", x.name, l, e, want)
		}
	}
}

// P4.4: by the oracle.
func TestFear(t *testing.T) {
	found := map[couch.Danger]int{}
	for r, h := range randomHeaps(600, 3) {
		if !isRight(h) {
			continue
		}
		turns := randomTurns(r, h)
		want := fearOf(h, turns)
		e := api.OK
		if want == (couch.Danger{}) {
			e = api.ErrNone
		}
		if d, f := couch.Fear(h, turns); f != e || d != want {
			t.Fatalf("Fear of %v, %v: %v, %v; not %v", h, turns, d, f, want)
		}
		want.Hour = 0
		found[want]++
	}
	if len(found) < 4 {
		t.Errorf("dangers: %v", found)
	}
}

// P4.5: by the oracle, which tries every set of readings.
func TestFirstAndLeave(t *testing.T) {
	wrong := 0
	for _, h := range randomHeaps(400, 5) {
		first, e := 0, api.ErrNone
		for n := range h.Readings {
			before := h
			before.Readings = h.Readings[:n+1]
			if !isRight(before) {
				first, e, wrong = n, api.OK, wrong+1
				break
			}
		}
		if n, g := couch.First(h); n != first || g != e {
			t.Fatalf("First of %v: %d, %v; not %d, %v", h, n, g, first, e)
		}
		sets := oracle.ShortestFirst(len(h.Readings))
		smallest := sets[slices.IndexFunc(sets, func(l []int) bool { return isRight(without(h, l)) })]
		if l, g := couch.Leave(h); g != api.OK || !slices.Equal(l, smallest) {
			t.Fatalf("Leave of %v: %v, %v; not %v", h, l, g, smallest)
		}
	}
	if wrong < 50 {
		t.Errorf("only %d of the heaps have a wrong reading", wrong)
	}
}

// P4.5: all readings have to be left out.
func TestLeaveAll(t *testing.T) {
	h := hours(to(3, 4), to(0, 0))
	h.Readings = slices.Repeat([]couch.Reading{reading(0, 6, 1)}, 5)
	if l, e := couch.Leave(h); e != api.OK || !slices.Equal(l, list(0, 1, 2, 3, 4)) {
		t.Errorf("Leave: %v, %v", l, e)
	}
	if n, e := couch.First(h); e != api.OK || n != 0 {
		t.Errorf("First: %d, %v", n, e)
	}
}
