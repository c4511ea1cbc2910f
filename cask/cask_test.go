package cask_test

import (
	"math"
	"slices"
	"testing"

	"isatis/api"
	"isatis/cask"
	"isatis/oracle"
)

func to(low, high int) cask.Range { return cask.Range{Lo: low, Hi: high} }

func ofHeap(number, low, high int) cask.Trial {
	return cask.Trial{Number: number, Strength: to(low, high)}
}

func ofCask(number, low, high int) cask.Trial {
	return cask.Trial{Cask: true, Number: number, Strength: to(low, high)}
}

func list(l ...int) []int { return l }

// example is the cellar of the chapter's examples, with trials.
func example(trials ...cask.Trial) cask.Cellar {
	return cask.Cellar{Heaps: []cask.Range{to(40, 42), to(60, 63)}, Casks: [][]int{{10, 10}, {5, 15}}, Trials: trials}
}

func isTried() cask.Trial { return ofCask(0, 52, 52) }

// isFalse is a trial that contradicts isTried.
func isFalse() cask.Trial { return ofHeap(0, 40, 40) }

// asked is what calls ask about besides the cellar.
type asked struct {
	strengths     []int
	cask, grade   int
	stock         []int
	weight        int
	things, blend []int
}

// plain is asked of the example.
func plain() asked {
	return asked{strengths: list(41, 62), grade: 51, stock: list(10, 10), weight: 12, things: list(2), blend: list(2, 10)}
}

// calls are the errors of all calls with the cellar, and whether each of them
// returns nothing else together with its error.
func calls(c cask.Cellar, a asked) (map[string]api.Errno, bool) {
	play, e1 := cask.Play(c, a.strengths)
	heaps, casks, e2 := cask.Bounds(c)
	kind, e3 := cask.Graded(c, a.cask, a.grade)
	things, e4 := cask.Decide(c, a.grade)
	blend, e5 := cask.Blend(c, a.stock, a.weight, a.grade)
	first, e6 := cask.First(c)
	leave, e7 := cask.Leave(c)
	zero := (e1 == 0 || play == nil) && (e2 == 0 || heaps == nil && casks == nil) && (e3 == 0 || kind == 0) &&
		(e4 == 0 || things == nil) && (e5 == 0 || blend == nil) && (e6 == 0 || first == 0) && (e7 == 0 || leave == nil)
	return map[string]api.Errno{"Play": e1, "Bounds": e2, "Graded": e3, "Decide": e4, "Blend": e5, "First": e6, "Leave": e7}, zero
}

// proves reports whether some call proves what is asked.
func proves(c cask.Cellar, a asked) bool {
	return cask.ProveTruth(c, a.strengths) || cask.ProveDecide(c, a.grade, a.things) ||
		cask.ProveBlend(c, a.stock, a.weight, a.grade, a.blend)
}

type change struct {
	name string
	make func(c *cask.Cellar)
	want api.Errno
}

func heapChanges() []change {
	return []change{
		{"as it is", func(c *cask.Cellar) {}, api.OK},
		{"no heaps", func(c *cask.Cellar) { c.Heaps, c.Casks = nil, nil }, api.ErrArg},
		{"nothing", func(c *cask.Cellar) { *c = cask.Cellar{} }, api.ErrArg},
		{"no heaps, but casks", func(c *cask.Cellar) { c.Heaps, c.Casks = nil, [][]int{nil} }, api.ErrArg},
		{"a heap alone", func(c *cask.Cellar) { *c = cask.Cellar{Heaps: c.Heaps[:1]} }, api.OK},
		{"3 heaps", func(c *cask.Cellar) {
			c.Heaps, c.Casks = append(c.Heaps, to(7, 7)), [][]int{{0, 0, 1}, {1, 2, 3}}
		}, api.OK},
		{"4 heaps", func(c *cask.Cellar) { *c = cask.Cellar{Heaps: make([]cask.Range, 4)} }, api.ErrLimit},
		{"4 heaps, one below 0", func(c *cask.Cellar) { c.Heaps = []cask.Range{to(-1, 0), to(0, 0), to(0, 0), to(0, 0)} }, api.ErrLimit},
		{"a heap from 0", func(c *cask.Cellar) { c.Heaps[1] = to(0, 0) }, api.OK},
		{"a heap below 0", func(c *cask.Cellar) { c.Heaps[1] = to(-1, 0) }, api.ErrArg},
		{"a heap to 100", func(c *cask.Cellar) { c.Heaps[1] = to(100, 100) }, api.OK},
		{"a heap above 100", func(c *cask.Cellar) { c.Heaps[1] = to(100, 101) }, api.ErrArg},
		{"a heap upside down", func(c *cask.Cellar) { c.Heaps[1] = to(2, 1) }, api.ErrArg},
		{"a heap from end to end", func(c *cask.Cellar) { c.Heaps[1] = to(math.MinInt, math.MaxInt) }, api.ErrArg},
		{"1950 truths", func(c *cask.Cellar) { c.Heaps = []cask.Range{to(0, 25), to(3, 77)} }, api.OK},
		{"2000 truths", func(c *cask.Cellar) { c.Heaps = []cask.Range{to(1, 20), to(1, 100)} }, api.OK},
		{"2002 truths", func(c *cask.Cellar) { c.Heaps = []cask.Range{to(1, 22), to(0, 90)} }, api.ErrLimit},
		{"101 truths by 101", func(c *cask.Cellar) { c.Heaps = []cask.Range{to(0, 100), to(0, 100)} }, api.ErrLimit},
		{"too many truths, and a heap below 0", func(c *cask.Cellar) { c.Heaps = []cask.Range{to(0, 100), to(0, 100), to(-1, 0)} }, api.ErrArg},
		{"too many truths, and a trial", func(c *cask.Cellar) {
			c.Heaps, c.Trials = []cask.Range{to(0, 100), to(0, 100)}, []cask.Trial{ofHeap(2, 1, 1)}
		}, api.ErrArg},
	}
}

func caskChanges() []change {
	return []change{
		{"no casks", func(c *cask.Cellar) { c.Casks = nil }, api.OK},
		{"3 casks", func(c *cask.Cellar) { c.Casks = append(c.Casks, list(1, 1)) }, api.OK},
		{"4 casks", func(c *cask.Cellar) { c.Casks = append(c.Casks, list(1, 1), list(1, 1)) }, api.ErrLimit},
		{"4 casks, and no heaps", func(c *cask.Cellar) { *c = cask.Cellar{Casks: make([][]int, 4)} }, api.ErrLimit},
		{"a cask that is nil", func(c *cask.Cellar) { c.Casks[1] = nil }, api.ErrArg},
		{"a cask too short", func(c *cask.Cellar) { c.Casks[1] = list(1) }, api.ErrArg},
		{"a cask too long", func(c *cask.Cellar) { c.Casks[1] = list(1, 1, 0) }, api.ErrArg},
		{"an empty cask", func(c *cask.Cellar) { c.Casks[1] = list(0, 0) }, api.ErrArg},
		{"a cask with a little", func(c *cask.Cellar) { c.Casks[1] = list(0, 1) }, api.OK},
		{"a full cask", func(c *cask.Cellar) { c.Casks[1] = list(30, 30) }, api.OK},
		{"a cask with too much", func(c *cask.Cellar) { c.Casks[1] = list(0, 31) }, api.ErrArg},
		{"a cask with less than nothing", func(c *cask.Cellar) { c.Casks[1] = list(-1, 30) }, api.ErrArg},
		{"a cask with the most there is", func(c *cask.Cellar) { c.Casks[0] = list(math.MaxInt, 1) }, api.ErrArg},
	}
}

func trialChanges() []change {
	trial := func(x cask.Trial) func(c *cask.Cellar) {
		return func(c *cask.Cellar) { c.Trials = []cask.Trial{ofHeap(0, 40, 40), x} }
	}
	return []change{
		{"5 trials", func(c *cask.Cellar) { c.Trials = make([]cask.Trial, 5) }, api.OK},
		{"6 trials", func(c *cask.Cellar) { c.Trials = make([]cask.Trial, 6) }, api.ErrLimit},
		{"6 trials, and no heaps", func(c *cask.Cellar) { *c = cask.Cellar{Trials: make([]cask.Trial, 6)} }, api.ErrLimit},
		{"too many truths, and 6 trials", func(c *cask.Cellar) {
			c.Heaps, c.Trials = []cask.Range{to(0, 100), to(0, 100)}, make([]cask.Trial, 6)
		}, api.ErrLimit},
		{"the last heap", trial(ofHeap(1, 60, 60)), api.OK},
		{"a heap before the first", trial(ofHeap(-1, 60, 60)), api.ErrArg},
		{"a heap after the last", trial(ofHeap(2, 60, 60)), api.ErrArg},
		{"the last cask", trial(ofCask(1, 60, 60)), api.OK},
		{"a cask before the first", trial(ofCask(-1, 60, 60)), api.ErrArg},
		{"a cask after the last", trial(ofCask(2, 60, 60)), api.ErrArg},
		{"a cask of none", func(c *cask.Cellar) { c.Casks, c.Trials = nil, []cask.Trial{ofCask(0, 1, 1)} }, api.ErrArg},
		{"a cask that is no heap", func(c *cask.Cellar) {
			c.Casks, c.Trials = append(c.Casks, list(1, 2)), []cask.Trial{ofCask(2, 1, 1)}
		}, api.OK},
		{"a heap that is no cask", func(c *cask.Cellar) { c.Casks, c.Trials = nil, []cask.Trial{ofHeap(1, 1, 1)} }, api.OK},
		{"a heap that is one of three casks alone", func(c *cask.Cellar) {
			c.Casks, c.Trials = append(c.Casks, list(1, 2)), []cask.Trial{ofHeap(2, 1, 1)}
		}, api.ErrArg},
		{"a cask far off", trial(ofCask(math.MaxInt, 60, 60)), api.ErrArg},
		{"a strength from 0 to 100", trial(ofCask(1, 0, 100)), api.OK},
		{"a strength below 0", trial(ofCask(1, -1, 60)), api.ErrArg},
		{"a strength above 100", trial(ofHeap(1, 60, 101)), api.ErrArg},
		{"a strength upside down", trial(ofHeap(1, 61, 60)), api.ErrArg},
	}
}

// P5.1: the errors of a cellar, in their order.
func TestCheckCellar(t *testing.T) {
	for _, x := range slices.Concat(heapChanges(), caskChanges(), trialChanges()) {
		c := example()
		x.make(&c)
		if e := cask.CheckCellar(c); e != x.want {
			t.Errorf("%s: CheckCellar: %v", x.name, e)
		}
		if x.want == api.OK {
			continue
		}
		// What is asked is not valid either: the error of the cellar comes first.
		errors, zero := calls(c, asked{cask: -1, grade: -1})
		for name, e := range errors {
			if e != x.want {
				t.Errorf("%s: %s: %v", x.name, name, e)
			}
		}
		if !zero {
			t.Errorf("%s: a result together with an error", x.name)
		}
		if proves(c, plain()) || proves(c, asked{}) || proves(c, asked{strengths: list(0), stock: list(1), weight: 1, blend: list(1)}) {
			t.Errorf("%s: something is proved", x.name)
		}
	}
}

// The errors of what calls name, and whether the cellar has a truth, in their
// order.
func TestErrors(t *testing.T) {
	none := example(isTried(), isFalse())
	for _, x := range []struct {
		name                               string
		c                                  cask.Cellar
		make                               func(a *asked)
		play, bounds, graded, decide, best api.Errno
	}{
		{"as it is", example(), func(a *asked) {}, api.OK, api.OK, api.OK, api.OK, api.OK},
		{"no truth", none, func(a *asked) {}, api.OK, api.ErrFalse, api.ErrFalse, api.ErrFalse, api.ErrFalse},
		{"no strengths", example(), func(a *asked) { a.strengths = nil }, api.ErrRange, api.OK, api.OK, api.OK, api.OK},
		{"the last cask", example(), func(a *asked) { a.cask = 1 }, api.OK, api.OK, api.OK, api.OK, api.OK},
		{"a cask before the first", example(), func(a *asked) { a.cask = -1 }, api.OK, api.OK, api.ErrRange, api.OK, api.OK},
		{"a cask after the last", example(), func(a *asked) { a.cask = 2 }, api.OK, api.OK, api.ErrRange, api.OK, api.OK},
		{"no cask, no truth", none, func(a *asked) { a.cask = 2 }, api.OK, api.ErrFalse, api.ErrRange, api.ErrFalse, api.ErrFalse},
		{"the grade 0", example(), func(a *asked) { a.grade = 0 }, api.OK, api.OK, api.OK, api.OK, api.OK},
		{"the grade 100", example(), func(a *asked) { a.grade = 100 }, api.OK, api.OK, api.OK, api.OK, api.ErrShort},
		{"the grade 101", example(), func(a *asked) { a.grade = 101 }, api.OK, api.OK, api.ErrRange, api.ErrRange, api.ErrRange},
		{"a grade below 0", example(), func(a *asked) { a.grade = -1 }, api.OK, api.OK, api.ErrRange, api.ErrRange, api.ErrRange},
		{"a grade below 0, no truth", none, func(a *asked) { a.grade = -1 }, api.OK, api.ErrFalse, api.ErrRange, api.ErrRange, api.ErrRange},
		{"no stock", example(), func(a *asked) { a.stock = nil }, api.OK, api.OK, api.OK, api.OK, api.ErrRange},
		{"no stock, no truth", none, func(a *asked) { a.stock = nil }, api.OK, api.ErrFalse, api.ErrFalse, api.ErrFalse, api.ErrRange},
		{"a short stock", example(), func(a *asked) { a.stock = list(30) }, api.OK, api.OK, api.OK, api.OK, api.ErrRange},
		{"a long stock", example(), func(a *asked) { a.stock = list(30, 30, 0) }, api.OK, api.OK, api.OK, api.OK, api.ErrRange},
		{"a full stock", example(), func(a *asked) { a.stock = list(30, 30) }, api.OK, api.OK, api.OK, api.OK, api.OK},
		{"a stock of too much", example(), func(a *asked) { a.stock = list(10, 31) }, api.OK, api.OK, api.OK, api.OK, api.ErrRange},
		{"a stock below 0", example(), func(a *asked) { a.stock = list(-1, 20) }, api.OK, api.OK, api.OK, api.OK, api.ErrRange},
		{"a stock of nothing", example(), func(a *asked) { a.stock = list(0, 0) }, api.OK, api.OK, api.OK, api.OK, api.ErrShort},
		{"the weight 0", example(), func(a *asked) { a.weight = 0 }, api.OK, api.OK, api.OK, api.OK, api.ErrRange},
		{"the weight 0, no truth", none, func(a *asked) { a.weight = 0 }, api.OK, api.ErrFalse, api.ErrFalse, api.ErrFalse, api.ErrRange},
		{"a weight below 0", example(), func(a *asked) { a.weight = math.MinInt }, api.OK, api.OK, api.OK, api.OK, api.ErrRange},
		{"the weight 1", example(), func(a *asked) { a.weight = 1 }, api.OK, api.OK, api.OK, api.OK, api.OK},
		{"all the stock, too weak", example(), func(a *asked) { a.weight = 20 }, api.OK, api.OK, api.OK, api.OK, api.ErrShort},
		{"all the stock", example(), func(a *asked) { a.weight, a.grade = 20, 50 }, api.OK, api.OK, api.OK, api.OK, api.OK},
		{"more than the stock", example(), func(a *asked) { a.weight, a.grade = 21, 0 }, api.OK, api.OK, api.OK, api.OK, api.ErrShort},
		{"the weight 90", example(), func(a *asked) { a.weight = 90 }, api.OK, api.OK, api.OK, api.OK, api.ErrShort},
		{"the weight 91", example(), func(a *asked) { a.weight = 91 }, api.OK, api.OK, api.OK, api.OK, api.ErrRange},
	} {
		a := plain()
		x.make(&a)
		first := api.OK
		if isRight(x.c) {
			first = api.ErrNone
		}
		errors, zero := calls(x.c, a)
		for name, want := range map[string]api.Errno{"Play": x.play, "Bounds": x.bounds, "Graded": x.graded, "Decide": x.decide, "Blend": x.best, "First": first, "Leave": api.OK} {
			if errors[name] != want {
				t.Errorf("%s: %s: %v", x.name, name, errors[name])
			}
		}
		if !zero {
			t.Errorf("%s: a result together with an error", x.name)
		}
		if x.decide != api.OK && (cask.ProveDecide(x.c, a.grade, nil) || cask.ProveDecide(x.c, a.grade, list(0, 1))) {
			t.Errorf("%s: ProveDecide", x.name)
		}
		for _, l := range [][]int{nil, {}, a.stock, {0, a.weight}, {a.weight}, {0, 0}} {
			if x.best != api.OK && cask.ProveBlend(x.c, a.stock, a.weight, a.grade, l) {
				t.Errorf("%s: ProveBlend of %v", x.name, l)
			}
		}
	}
}

// P5.1: lists that have not one number of each heap.
func TestNoTruths(t *testing.T) {
	for _, l := range [][]int{nil, {}, {40}, {40, 60, 0}, {39, 60}, {43, 60}, {40, 59}, {40, 64}, {60, 40}, {math.MinInt, math.MaxInt}} {
		if got, e := cask.Play(example(), l); got != nil || e != api.ErrRange {
			t.Errorf("Play of %v: %v, %v", l, got, e)
		}
		if cask.ProveTruth(example(), l) {
			t.Errorf("ProveTruth of %v", l)
		}
	}
	for _, l := range [][]int{{40, 60}, {42, 63}, {40, 63}} {
		if !cask.ProveTruth(example(), l) {
			t.Errorf("not ProveTruth of %v", l)
		}
	}
	if cask.ProveTruth(example(isTried()), list(40, 62)) || !cask.ProveTruth(example(isTried()), list(41, 63)) {
		t.Error("ProveTruth with a trial")
	}
	if l, e := cask.Play(example(isTried(), isFalse()), list(40, 60)); e != api.OK || !slices.Equal(l, list(50, 55)) {
		t.Errorf("Play of a truth in which a trial is wrong: %v, %v", l, e)
	}
}

// The examples of the chapter.
func TestExamples(t *testing.T) {
	if l, e := cask.Play(example(), list(41, 62)); e != api.OK || !slices.Equal(l, list(51, 56)) {
		t.Errorf("Play: %v, %v", l, e)
	}
	for _, x := range []struct {
		c            cask.Cellar
		heaps, casks []cask.Range
	}{
		{example(), []cask.Range{to(40, 42), to(60, 63)}, []cask.Range{to(50, 52), to(55, 57)}},
		{example(isTried()), []cask.Range{to(41, 42), to(62, 63)}, []cask.Range{to(52, 52), to(57, 57)}},
	} {
		if heaps, casks, e := cask.Bounds(x.c); e != api.OK || !slices.Equal(heaps, x.heaps) || !slices.Equal(casks, x.casks) {
			t.Errorf("Bounds of %v: %v, %v, %v", x.c, heaps, casks, e)
		}
	}
	for _, x := range []struct{ grade, want int }{{50, cask.Always}, {51, cask.Perhaps}, {53, cask.Never}} {
		if kind, e := cask.Graded(example(), 0, x.grade); e != api.OK || kind != x.want {
			t.Errorf("Graded by %d: %d, %v", x.grade, kind, e)
		}
	}
	for _, x := range []struct {
		grade int
		want  []int
	}{{51, list(2)}, {56, list(3)}, {50, nil}} {
		if l, e := cask.Decide(example(), x.grade); e != api.OK || !slices.Equal(l, x.want) {
			t.Errorf("Decide of %d: %v, %v", x.grade, l, e)
		}
	}
	if l, e := cask.Blend(example(), list(10, 10), 12, 55); e != api.OK || !slices.Equal(l, list(2, 10)) {
		t.Errorf("Blend: %v, %v", l, e)
	}
	if l, e := cask.Blend(example(), list(10, 10), 12, 57); e != api.ErrShort || l != nil {
		t.Errorf("Blend of too much: %v, %v", l, e)
	}
	if n, e := cask.First(example(isTried(), isFalse())); e != api.OK || n != 1 {
		t.Errorf("First: %d, %v", n, e)
	}
	if l, e := cask.Leave(example(isTried(), isFalse())); e != api.OK || !slices.Equal(l, list(0)) {
		t.Errorf("Leave: %v, %v", l, e)
	}
}

// P5.1: what the strengths are at their edges.
func TestEdgesOfStrengths(t *testing.T) {
	for _, x := range []struct {
		name    string
		y       []int
		weights []int
		want    int
	}{
		{"a heap alone", list(7), list(30), 7},
		{"one part of it", list(99), list(1), 99},
		{"rounded down", list(40, 61), list(10, 10), 50},
		{"just not rounded", list(40, 60, 62), list(10, 0, 10), 51},
		{"just below", list(100, 99), list(29, 1), 99},
		{"nothing of a heap", list(1, 100, 9), list(0, 30, 0), 100},
		{"of all heaps", list(10, 20, 40), list(1, 2, 3), 28},
		{"of nothing strong", list(0, 0, 1), list(30, 30, 30), 0},
		{"as much as there can be", list(100, 100, 100), list(30, 30, 30), 100},
	} {
		c := cask.Cellar{Casks: [][]int{x.weights}}
		for _, n := range x.y {
			c.Heaps = append(c.Heaps, to(n, n))
		}
		if l, e := cask.Play(c, x.y); e != api.OK || !slices.Equal(l, list(x.want)) {
			t.Errorf("%s: Play: %v, %v", x.name, l, e)
		}
	}
	c := cask.Cellar{Heaps: []cask.Range{to(3, 5)}}
	if l, e := cask.Play(c, list(4)); e != api.OK || len(l) != 0 {
		t.Errorf("Play without casks: %v, %v", l, e)
	}
	if heaps, casks, e := cask.Bounds(c); e != api.OK || !slices.Equal(heaps, []cask.Range{to(3, 5)}) || len(casks) != 0 {
		t.Errorf("Bounds without casks: %v, %v, %v", heaps, casks, e)
	}
	if l, e := cask.Decide(c, 4); e != api.OK || len(l) != 0 {
		t.Errorf("Decide without casks: %v, %v", l, e)
	}
}

// P5.1: by the oracle.
func TestPlayAndProveTruth(t *testing.T) {
	for _, c := range randomCellars(300, 3) {
		for _, y := range anyTruths(c) {
			if cask.ProveTruth(c, y) != oracle.AllRight(c, y) {
				t.Fatalf("ProveTruth of %v, %v: %v", c, y, !oracle.AllRight(c, y))
			}
			var want []int
			for _, weights := range c.Casks {
				want = append(want, oracle.StrengthOf(weights, y))
			}
			if l, e := cask.Play(c, y); e != api.OK || !slices.Equal(l, want) {
				t.Fatalf("Play of %v, %v: %v, %v; not %v", c, y, l, e, want)
			}
		}
	}
}

// A trial is right at both ends of its range, and not beyond them.
func TestEdgesOfTrials(t *testing.T) {
	y := list(41, 62) // the casks 51, 56
	for _, x := range []struct {
		trial cask.Trial
		want  bool
	}{
		{ofHeap(0, 41, 41), true}, {ofHeap(0, 42, 100), false}, {ofHeap(0, 0, 40), false}, {ofHeap(0, 41, 100), true}, {ofHeap(0, 0, 41), true},
		{ofHeap(1, 62, 62), true}, {ofHeap(1, 63, 63), false}, {ofHeap(1, 41, 41), false},
		{ofCask(0, 51, 51), true}, {ofCask(0, 52, 100), false}, {ofCask(0, 0, 50), false}, {ofCask(0, 51, 60), true}, {ofCask(0, 41, 41), false},
		{ofCask(1, 56, 56), true}, {ofCask(1, 55, 55), false}, {ofCask(1, 57, 57), false}, {ofCask(1, 51, 51), false},
	} {
		c := example(x.trial)
		c.Heaps = []cask.Range{to(41, 41), to(62, 62)}
		_, _, e := cask.Bounds(c)
		if cask.ProveTruth(c, y) != x.want || (e == api.OK) != x.want {
			t.Errorf("%v: %v", x.trial, e)
		}
	}
}

// P5.2: the verdicts by their numbers.
func TestVerdicts(t *testing.T) {
	for _, x := range []struct{ cask, grade, want int }{
		{0, 50, 1}, {0, 0, 1}, {0, 51, 3}, {0, 52, 3}, {0, 53, 2}, {0, 100, 2},
		{1, 55, 1}, {1, 56, 3}, {1, 57, 3}, {1, 58, 2},
	} {
		if kind, e := cask.Graded(example(), x.cask, x.grade); e != api.OK || kind != x.want {
			t.Errorf("Graded of the cask %d by %d: %d, %v", x.cask, x.grade, kind, e)
		}
	}
}

// P5.2: by the oracle.
func TestBoundsAndGraded(t *testing.T) {
	kinds := map[int]int{}
	for r, c := range randomCellars(600, 3) {
		if !isRight(c) {
			continue
		}
		if heaps, casks, e := cask.Bounds(c); e != api.OK || !slices.Equal(slices.Concat(heaps, casks), boundsOf(c)) || len(heaps) != len(c.Heaps) {
			t.Fatalf("Bounds of %v: %v, %v, %v; not %v", c, heaps, casks, e, boundsOf(c))
		}
		grade := randomGrade(r, c)
		for number := range c.Casks {
			want := gradedOf(c, number, grade)
			if kind, e := cask.Graded(c, number, grade); e != api.OK || kind != want {
				t.Fatalf("Graded of %v, %d, %d: %d, %v; not %d", c, number, grade, kind, e, want)
			}
			kinds[want]++
		}
	}
	if kinds[cask.Always] < 30 || kinds[cask.Never] < 30 || kinds[cask.Perhaps] < 30 {
		t.Errorf("how often casks are of a grade: %v", kinds)
	}
}

// P5.3: by the oracle, which tries all lists of things and compares any two
// truths.
func TestDecide(t *testing.T) {
	lengths := map[int]int{}
	for r, c := range randomCellars(700, 2) {
		if r.IntN(3) == 0 { // many things, so that many are needed
			c = randomCellar(r, 3, 3, 100)
		}
		if !isRight(c) {
			continue
		}
		grade := randomGrade(r, c)
		want := fewestOf(c, grade)
		if l, e := cask.Decide(c, grade); e != api.OK || !slices.Equal(l, want) {
			t.Fatalf("Decide of %v, %d: %v, %v; not %v", c, grade, l, e, want)
		}
		lengths[len(want)]++
		for _, things := range oracle.ShortestFirst(len(c.Heaps) + len(c.Casks)) {
			if want := decides(c, grade, things); cask.ProveDecide(c, grade, things) != want {
				t.Fatalf("ProveDecide of %v, %d, %v: not %v", c, grade, things, want)
			}
		}
	}
	if lengths[0] < 30 || lengths[1] < 30 || lengths[2] < 20 || lengths[3] < 3 {
		t.Errorf("how often things are so many: %v", lengths)
	}
}

// P5.3: of several shortest ones the one that is lexicographically first.
func TestDecideOfSeveral(t *testing.T) {
	wide := []cask.Range{to(40, 49), to(40, 49)}
	for _, x := range []struct {
		name  string
		heaps []cask.Range
		casks [][]int
		grade int
		want  []int
	}{
		{"its heap, or the cask", wide, [][]int{{5, 0}}, 45, list(0)},
		{"its heap, or the cask, of the second heap", wide, [][]int{{0, 5}}, 45, list(1)},
		{"the cask alone", wide, [][]int{{5, 5}}, 45, list(2)},
		{"each cask its own heap", wide, [][]int{{5, 0}, {0, 5}}, 45, list(0, 1)},
		{"a heap and a cask", wide, [][]int{{5, 5}, {0, 5}}, 45, list(0, 1)},
		{"casks that are equal", wide, [][]int{{5, 5}, {6, 6}}, 45, list(2)},
		{"one heap is known", []cask.Range{to(44, 44), to(40, 49)}, [][]int{{5, 5}, {0, 5}}, 45, list(1)},
		{"all are of the grade", wide, [][]int{{5, 5}, {0, 5}}, 40, nil},
		{"none is of the grade", wide, [][]int{{5, 5}, {0, 5}}, 50, nil},
		{"three casks", []cask.Range{to(40, 44), to(40, 44), to(40, 44)}, [][]int{{1, 1, 0}, {0, 1, 1}, {1, 0, 1}}, 42, list(0, 1, 2)},
	} {
		c := cask.Cellar{Heaps: x.heaps, Casks: x.casks}
		if l, e := cask.Decide(c, x.grade); e != api.OK || !slices.Equal(l, x.want) || !slices.Equal(fewestOf(c, x.grade), x.want) {
			t.Errorf("%s: Decide: %v, %v; by the oracle %v", x.name, l, e, fewestOf(c, x.grade))
		}
	}
}

// P5.3: lists that are no increasing ones of things.
func TestNoThings(t *testing.T) {
	for _, l := range [][]int{{-1, 2}, {2, 4}, {2, 2}, {3, 2}, {2, 1}, {2, math.MaxInt}, {math.MinInt, 2}, {0, 1, 2, 3, 4}} {
		if cask.ProveDecide(example(), 51, l) {
			t.Errorf("ProveDecide of %v", l)
		}
	}
	for _, l := range [][]int{{2}, {0, 2}, {2, 3}, {0, 1}, {0, 1, 2, 3}} {
		if !cask.ProveDecide(example(), 51, l) {
			t.Errorf("not ProveDecide of %v", l)
		}
	}
	for _, l := range [][]int{nil, {}, {0}, {1}, {3}, {0, 3}, {1, 3}} {
		if cask.ProveDecide(example(), 51, l) != decides(example(), 51, l) {
			t.Errorf("ProveDecide of %v", l)
		}
	}
	if !cask.ProveDecide(example(), 50, nil) || cask.ProveDecide(example(isTried(), isFalse()), 50, nil) {
		t.Error("ProveDecide of nothing")
	}
}

// P5.4: by the oracle, which tries all lists.
func TestBlend(t *testing.T) {
	found := map[bool]int{}
	for r, c := range randomCellars(600, 2) {
		if !isRight(c) {
			continue
		}
		stock := make([]int, len(c.Heaps))
		for heap := range stock {
			stock[heap] = r.IntN(7)
		}
		weight, grade := 1+r.IntN(3*len(stock)), min(100, max(0, c.Heaps[0].Lo+r.IntN(12)-6))
		want, is := blendOf(c, stock, weight, grade)
		l, e := cask.Blend(c, stock, weight, grade)
		if is && (e != api.OK || !slices.Equal(l, want)) || !is && (e != api.ErrShort || l != nil) {
			t.Fatalf("Blend of %v, %v, %d, %d: %v, %v; not %v", c, stock, weight, grade, l, e, want)
		}
		found[is]++
		for _, l := range upTo(stock) {
			if want := isBlend(c, weight, grade, l); cask.ProveBlend(c, stock, weight, grade, l) != want {
				t.Fatalf("ProveBlend of %v, %v, %d, %d, %v: not %v", c, stock, weight, grade, l, want)
			}
		}
	}
	if found[true] < 100 || found[false] < 100 {
		t.Errorf("how often there is a blend: %v", found)
	}
}

// P5.4: blends at their edges.
func TestEdgesOfBlends(t *testing.T) {
	for _, x := range []struct {
		name          string
		stock         []int
		weight, grade int
		want          []int
		e             api.Errno
	}{
		{"as little as it may be of the first heap", list(30, 30), 30, 0, list(0, 30), api.OK},
		{"as much of the second heap as there is", list(30, 20), 30, 0, list(10, 20), api.OK},
		{"just strong enough", list(10, 10), 12, 56, list(2, 10), api.OK},
		{"just not strong enough", list(10, 10), 12, 57, nil, api.ErrShort},
		{"all there is", list(30, 30), 60, 50, list(30, 30), api.OK},
		{"more than there is", list(30, 30), 61, 0, nil, api.ErrShort},
		{"of one heap alone", list(0, 5), 5, 60, list(0, 5), api.OK},
		{"of one heap alone, too strong", list(0, 5), 5, 61, nil, api.ErrShort},
		{"of the other heap", list(5, 0), 5, 40, list(5, 0), api.OK},
		{"one part", list(1, 0), 1, 40, list(1, 0), api.OK},
	} {
		if l, e := cask.Blend(example(), x.stock, x.weight, x.grade); e != x.e || !slices.Equal(l, x.want) {
			t.Errorf("%s: Blend: %v, %v", x.name, l, e)
		}
	}
	full := cask.Cellar{Heaps: []cask.Range{to(1, 1), to(2, 2), to(3, 3)}}
	if l, e := cask.Blend(full, list(30, 30, 30), 90, 2); e != api.OK || !slices.Equal(l, list(30, 30, 30)) {
		t.Errorf("Blend of all: %v, %v", l, e)
	}
	// The stronger heap is the first one here: more of it is needed.
	turned := cask.Cellar{Heaps: []cask.Range{to(60, 63), to(40, 42)}}
	if l, e := cask.Blend(turned, list(10, 10), 12, 55); e != api.OK || !slices.Equal(l, list(9, 3)) {
		t.Errorf("Blend of the stronger heap: %v, %v", l, e)
	}
}

// P5.4: lists that are no blends.
func TestNoBlends(t *testing.T) {
	for _, l := range [][]int{
		nil, {}, {12}, {2, 10, 0}, {2, 9}, {3, 10}, {1, 11}, {11, 1}, {-1, 13}, {13, -1}, {0, 0}, {10, 2}, {6, 6},
		{math.MaxInt, math.MinInt}, {math.MinInt, math.MinInt + 12}, {0, 12}, {12, 0},
	} {
		if cask.ProveBlend(example(), list(10, 10), 12, 55, l) {
			t.Errorf("ProveBlend of %v", l)
		}
	}
	for _, l := range [][]int{{2, 10}, {3, 9}} {
		if !cask.ProveBlend(example(), list(10, 10), 12, 55, l) {
			t.Errorf("not ProveBlend of %v", l)
		}
	}
	if cask.ProveBlend(example(isTried(), isFalse()), list(10, 10), 12, 55, list(2, 10)) {
		t.Error("ProveBlend without a truth")
	}
}

// P5.5: by the oracle, which tries every set of trials.
func TestFirstAndLeave(t *testing.T) {
	wrong := 0
	for _, c := range randomCellars(400, 5) {
		first, e := 0, api.ErrNone
		for n := range c.Trials {
			before := c
			before.Trials = c.Trials[:n+1]
			if !isRight(before) {
				first, e, wrong = n, api.OK, wrong+1
				break
			}
		}
		if n, g := cask.First(c); n != first || g != e {
			t.Fatalf("First of %v: %d, %v; not %d, %v", c, n, g, first, e)
		}
		sets := oracle.ShortestFirst(len(c.Trials))
		smallest := sets[slices.IndexFunc(sets, func(l []int) bool { return isRight(without(c, l)) })]
		if l, g := cask.Leave(c); g != api.OK || !slices.Equal(l, smallest) {
			t.Fatalf("Leave of %v: %v, %v; not %v", c, l, g, smallest)
		}
	}
	if wrong < 50 {
		t.Errorf("only %d of the cellars have a wrong trial", wrong)
	}
}

// P5.5: all trials have to be left out.
func TestLeaveAll(t *testing.T) {
	c := example(ofHeap(0, 43, 100), ofHeap(1, 0, 59), ofCask(0, 53, 53), ofCask(1, 54, 54), ofCask(1, 58, 58))
	if l, e := cask.Leave(c); e != api.OK || !slices.Equal(l, list(0, 1, 2, 3, 4)) {
		t.Errorf("Leave: %v, %v", l, e)
	}
	if n, e := cask.First(c); e != api.OK || n != 0 {
		t.Errorf("First: %d, %v", n, e)
	}
}
