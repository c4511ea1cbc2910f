package mix_test

import (
	"math"
	"slices"
	"testing"

	"isatis/api"
	"isatis/cask"
	"isatis/mix"
	"isatis/oracle"
)

func to(low, high int) mix.Range { return mix.Range{Lo: low, Hi: high} }

func list(l ...int) []int { return l }

func truth(share, bad int, heaps ...int) mix.Truth {
	return mix.Truth{Heaps: heaps, Share: share, Bad: bad}
}

// example is the case of the chapter's examples, with tests.
func example(tests ...mix.Range) mix.Case {
	return mix.Case{
		Cellar: cask.Cellar{Heaps: []cask.Range{{Lo: 40, Hi: 42}, {Lo: 60, Hi: 63}}, Casks: [][]int{{10, 10}, {5, 15}}},
		Most:   4, Bad: to(10, 12), Tests: tests,
	}
}

// noCellar has trials that contradict each other.
func noCellar() []cask.Trial {
	return []cask.Trial{{Cask: true, Strength: cask.Range{Lo: 52, Hi: 52}}, {Strength: cask.Range{Lo: 40, Hi: 40}}}
}

// calls are the errors of all calls with the case, and whether each of them
// returns nothing else together with its error.
func calls(c mix.Case, y mix.Truth) (map[string]api.Errno, bool) {
	play, e1 := mix.Play(c, y)
	mixed, e2 := mix.Mixed(c)
	share, strength, e3 := mix.Bounds(c)
	mixtures, e4 := mix.Mixtures(c)
	innocent, e5 := mix.Innocent(c)
	first, e6 := mix.First(c)
	leave, e7 := mix.Leave(c)
	none := mix.Range{}
	zero := (e1 == 0 || play == 0) && (e2 == 0 || mixed == 0) && (e3 == 0 || share == none && strength == none) &&
		(e4 == 0 || mixtures == nil) && (e5 == 0 || innocent == nil) && (e6 == 0 || first == 0) && (e7 == 0 || leave == nil)
	return map[string]api.Errno{
		"Play": e1, "Mixed": e2, "Bounds": e3, "Mixtures": e4, "Innocent": e5, "First": e6, "Leave": e7,
	}, zero
}

// proves reports whether some call proves what is asked.
func proves(c mix.Case, y mix.Truth) bool {
	return mix.ProveTruth(c, y) || mix.ProveInnocent(c, y.Heaps)
}

type change struct {
	name string
	make func(c *mix.Case)
	want api.Errno
}

func cellarChanges() []change {
	manyTests := make([]mix.Range, 6)
	return []change{
		{"as it is", func(c *mix.Case) {}, api.OK},
		{"nothing", func(c *mix.Case) { *c = mix.Case{} }, api.ErrArg},
		{"no cellar", func(c *mix.Case) { c.Cellar = cask.Cellar{} }, api.ErrArg},
		{"no cellar, and 6 tests", func(c *mix.Case) { c.Cellar, c.Tests = cask.Cellar{}, manyTests }, api.ErrArg},
		{"an empty cask, and 6 tests", func(c *mix.Case) { c.Cellar.Casks[1], c.Tests = list(0, 0), manyTests }, api.ErrArg},
		{"4 heaps", func(c *mix.Case) { c.Cellar = cask.Cellar{Heaps: make([]cask.Range, 4)} }, api.ErrLimit},
		{"4 heaps, and nothing else", func(c *mix.Case) {
			*c = mix.Case{Cellar: cask.Cellar{Heaps: make([]cask.Range, 4)}, Sold: -1, Most: -1, Bad: to(1, 0)}
		}, api.ErrLimit},
		{"6 trials", func(c *mix.Case) { c.Cellar.Trials = make([]cask.Trial, 6) }, api.ErrLimit},
		{"a heap above 100", func(c *mix.Case) { c.Cellar.Heaps[1] = cask.Range{Lo: 100, Hi: 101} }, api.ErrArg},
		{"a heap too wide", func(c *mix.Case) {
			c.Cellar.Heaps = []cask.Range{{Lo: 0, Hi: 100}, {Lo: 0, Hi: 100}}
		}, api.ErrLimit},
		{"a heap too wide, and no cask sold", func(c *mix.Case) {
			c.Cellar.Heaps, c.Sold = []cask.Range{{Lo: 0, Hi: 100}, {Lo: 0, Hi: 100}}, 2
		}, api.ErrLimit},
		{"a trial of no heap", func(c *mix.Case) { c.Cellar.Trials = []cask.Trial{{Number: 2}} }, api.ErrArg},
		{"a trial", func(c *mix.Case) { c.Cellar.Trials = noCellar()[:1] }, api.OK},
		{"no truth of the cellar", func(c *mix.Case) { c.Cellar.Trials = noCellar() }, api.OK},
	}
}

func caseChanges() []change {
	return []change{
		{"the last cask", func(c *mix.Case) { c.Sold = 1 }, api.OK},
		{"a cask after the last", func(c *mix.Case) { c.Sold = 2 }, api.ErrArg},
		{"a cask before the first", func(c *mix.Case) { c.Sold = -1 }, api.ErrArg},
		{"a cask far off", func(c *mix.Case) { c.Sold = math.MaxInt }, api.ErrArg},
		{"no casks", func(c *mix.Case) { c.Cellar.Casks = nil }, api.ErrArg},
		{"no share", func(c *mix.Case) { c.Most = 0 }, api.OK},
		{"less than no share", func(c *mix.Case) { c.Most = -1 }, api.ErrArg},
		{"the whole cask", func(c *mix.Case) { c.Most = 20 }, api.OK},
		{"more than the whole cask", func(c *mix.Case) { c.Most = 21 }, api.ErrArg},
		{"the whole of a smaller cask", func(c *mix.Case) { c.Cellar.Casks[0], c.Most = list(1, 2), 3 }, api.OK},
		{"more than the whole of a smaller cask", func(c *mix.Case) { c.Cellar.Casks[0], c.Most = list(1, 2), 4 }, api.ErrArg},
		{"the most there is", func(c *mix.Case) { c.Most = math.MaxInt }, api.ErrArg},
		{"bad woad of 0", func(c *mix.Case) { c.Bad = to(0, 0) }, api.OK},
		{"bad woad below 0", func(c *mix.Case) { c.Bad = to(-1, 0) }, api.ErrArg},
		{"bad woad of 100", func(c *mix.Case) { c.Bad = to(100, 100) }, api.OK},
		{"bad woad above 100", func(c *mix.Case) { c.Bad = to(100, 101) }, api.ErrArg},
		{"bad woad upside down", func(c *mix.Case) { c.Bad = to(11, 10) }, api.ErrArg},
		{"bad woad from end to end", func(c *mix.Case) { c.Bad = to(math.MinInt, math.MaxInt) }, api.ErrArg},
		{"bad woad the other way round", func(c *mix.Case) { c.Bad = to(math.MaxInt, math.MinInt) }, api.ErrArg},
		{"5 tests", func(c *mix.Case) { c.Tests = make([]mix.Range, 5) }, api.OK},
		{"6 tests", func(c *mix.Case) { c.Tests = make([]mix.Range, 6) }, api.ErrLimit},
		{"6 tests, and no cask sold", func(c *mix.Case) { c.Tests, c.Sold = make([]mix.Range, 6), 2 }, api.ErrLimit},
		{"6 tests, one upside down", func(c *mix.Case) { c.Tests = append(make([]mix.Range, 5), to(1, 0)) }, api.ErrLimit},
		{"any test", func(c *mix.Case) { c.Tests = []mix.Range{to(0, 100), to(0, 0), to(100, 100)} }, api.OK},
		{"a test below 0", func(c *mix.Case) { c.Tests = []mix.Range{to(0, 0), to(-1, 0)} }, api.ErrArg},
		{"a test above 100", func(c *mix.Case) { c.Tests = []mix.Range{to(0, 0), to(100, 101)} }, api.ErrArg},
		{"a test upside down", func(c *mix.Case) { c.Tests = []mix.Range{to(0, 0), to(51, 50)} }, api.ErrArg},
		{"a test from end to end", func(c *mix.Case) { c.Tests = []mix.Range{to(math.MinInt, math.MaxInt)} }, api.ErrArg},
	}
}

// sizeChanges are about 2000 truths of the case: the example has 12 fills.
func sizeChanges() []change {
	return []change{
		{"1992 truths", func(c *mix.Case) { c.Bad, c.Most = to(0, 82), 1 }, api.OK},
		{"2000 truths", func(c *mix.Case) { c.Cellar.Heaps[1].Hi, c.Cellar.Heaps[0].Hi, c.Bad, c.Most = 69, 43, to(1, 25), 1 }, api.OK},
		{"2016 truths", func(c *mix.Case) { c.Bad, c.Most = to(0, 83), 1 }, api.ErrLimit},
		{"2040 truths, by the share", func(c *mix.Case) { c.Bad, c.Most = to(1, 17), 9 }, api.ErrLimit},
		{"1920 truths, by the share", func(c *mix.Case) { c.Bad, c.Most = to(1, 16), 9 }, api.OK},
		{"1919 truths of one heap", func(c *mix.Case) {
			c.Cellar.Heaps, c.Cellar.Casks, c.Most, c.Bad = []cask.Range{{Lo: 0, Hi: 100}}, [][]int{{30}}, 18, to(7, 7)
		}, api.OK},
		{"2020 truths of one heap", func(c *mix.Case) {
			c.Cellar.Heaps, c.Cellar.Casks, c.Most, c.Bad = []cask.Range{{Lo: 0, Hi: 100}}, [][]int{{30}}, 19, to(7, 7)
		}, api.ErrLimit},
		{"2000 fills", func(c *mix.Case) {
			c.Cellar.Heaps, c.Most, c.Bad = []cask.Range{{Lo: 1, Hi: 20}, {Lo: 1, Hi: 100}}, 0, to(7, 7)
		}, api.OK},
		{"2000 fills, by two shares", func(c *mix.Case) {
			c.Cellar.Heaps, c.Most, c.Bad = []cask.Range{{Lo: 1, Hi: 20}, {Lo: 1, Hi: 100}}, 1, to(7, 7)
		}, api.ErrLimit},
		{"2000 fills, by two strengths", func(c *mix.Case) {
			c.Cellar.Heaps, c.Most, c.Bad = []cask.Range{{Lo: 1, Hi: 20}, {Lo: 1, Hi: 100}}, 0, to(7, 8)
		}, api.ErrLimit},
		{"all truths that do not fit, whatever the trials", func(c *mix.Case) {
			c.Bad, c.Most, c.Cellar.Trials = to(0, 83), 1, noCellar()
		}, api.ErrLimit},
		{"too many truths, and no cask sold", func(c *mix.Case) { c.Bad, c.Most, c.Sold = to(0, 100), 4, 2 }, api.ErrArg},
		{"too many truths, and a test above 100", func(c *mix.Case) {
			c.Bad, c.Most, c.Tests = to(0, 100), 4, []mix.Range{to(0, 101)}
		}, api.ErrArg},
	}
}

// P8.1: the errors of a case, in their order.
func TestCheckCase(t *testing.T) {
	for _, x := range slices.Concat(cellarChanges(), caseChanges(), sizeChanges()) {
		c := example()
		x.make(&c)
		if e := mix.CheckCase(c); e != x.want {
			t.Errorf("%s: CheckCase: %v", x.name, e)
		}
		if x.want == api.OK {
			continue
		}
		// The truth is not valid either: the error of the case comes first.
		errors, zero := calls(c, truth(-1, -1))
		for name, e := range errors {
			if e != x.want {
				t.Errorf("%s: %s: %v", x.name, name, e)
			}
		}
		if !zero {
			t.Errorf("%s: a result together with an error", x.name)
		}
		if proves(c, truth(0, 10, 40, 60)) || proves(c, mix.Truth{}) {
			t.Errorf("%s: something is proved", x.name)
		}
	}
}

// P8.1 to P8.5: what a case has no truth for, and what there is not.
func TestErrors(t *testing.T) {
	const ok, no, none = api.OK, api.ErrFail, api.ErrNone
	wrong := example(to(60, 70))
	empty := example()
	empty.Cellar.Trials = noCellar()
	both := wrong
	both.Cellar.Trials = noCellar()
	for _, x := range []struct {
		name                            string
		c                               mix.Case
		mixed, innocent, first, leaving api.Errno
	}{
		{"no tests", example(), ok, ok, none, ok},
		{"a test that is mixed only", example(to(45, 46)), ok, none, none, ok},
		{"a test that is right", example(to(50, 50)), ok, ok, none, ok},
		{"a test that is wrong", wrong, no, no, ok, ok},
		{"tests that contradict each other", example(to(45, 46), to(50, 50)), no, no, ok, ok},
		{"a cellar without a truth", empty, api.ErrFalse, api.ErrFalse, api.ErrFalse, api.ErrFalse},
		{"a cellar without a truth, and a wrong test", both, api.ErrFalse, api.ErrFalse, api.ErrFalse, api.ErrFalse},
	} {
		// Play asks neither about trials nor about tests.
		errors, zero := calls(x.c, truth(1, 11, 40, 60))
		want := map[string]api.Errno{
			"Play": ok, "Mixed": x.mixed, "Bounds": x.mixed, "Mixtures": x.mixed,
			"Innocent": x.innocent, "First": x.first, "Leave": x.leaving,
		}
		for name, e := range errors {
			if e != want[name] {
				t.Errorf("%s: %s: %v", x.name, name, e)
			}
		}
		if !zero {
			t.Errorf("%s: a result together with an error", x.name)
		}
	}
}

// P8.1: truths that Play does not take, and those that are none of the case.
func TestTruths(t *testing.T) {
	const bad = api.ErrRange
	for _, x := range []struct {
		name string
		y    mix.Truth
		want int
		e    api.Errno
	}{
		{"the lowest", truth(4, 10, 40, 60), 42, api.OK},
		{"the highest", truth(0, 12, 42, 63), 52, api.OK},
		{"no heaps", truth(0, 10), 0, bad},
		{"a heap too few", truth(0, 10, 40), 0, bad},
		{"a heap too many", truth(0, 10, 40, 60, 0), 0, bad},
		{"a heap too weak", truth(0, 10, 39, 60), 0, bad},
		{"a heap too strong", truth(0, 10, 40, 64), 0, bad},
		{"heaps the other way round", truth(0, 10, 60, 40), 0, bad},
		{"a share below 0", truth(-1, 10, 40, 60), 0, bad},
		{"a share above the most", truth(5, 10, 40, 60), 0, bad},
		{"a share far off", truth(math.MaxInt, 10, 40, 60), 0, bad},
		{"bad woad too weak", truth(1, 9, 40, 60), 0, bad},
		{"bad woad too strong", truth(1, 13, 40, 60), 0, bad},
		{"bad woad too weak, without a share", truth(0, 9, 40, 60), 0, bad},
		{"bad woad too strong, without a share", truth(0, 13, 40, 60), 0, bad},
		{"bad woad far off", truth(1, math.MinInt, 40, 60), 0, bad},
	} {
		if n, e := mix.Play(example(), x.y); e != x.e || n != x.want {
			t.Errorf("%s: Play: %d, %v", x.name, n, e)
		}
		if mix.ProveTruth(example(), x.y) != (x.e == api.OK) {
			t.Errorf("%s: ProveTruth", x.name)
		}
	}
	trial := example()
	trial.Cellar.Trials = noCellar()[:1]
	if mix.ProveTruth(trial, truth(0, 10, 41, 62)) || !mix.ProveTruth(trial, truth(0, 10, 42, 62)) ||
		mix.ProveInnocent(trial, list(41, 62)) || !mix.ProveInnocent(trial, list(42, 62)) {
		t.Error("a trial that is not right, or one that is")
	}
	if mix.ProveTruth(example(to(0, 100), to(45, 45)), truth(2, 10, 40, 60)) || !mix.ProveTruth(example(to(0, 100), to(46, 46)), truth(2, 10, 40, 60)) {
		t.Error("a test that is not right, or one that is")
	}
}

// The examples of the chapter.
func TestExamples(t *testing.T) {
	if n, e := mix.Play(example(), truth(2, 10, 40, 60)); e != api.OK || n != 46 {
		t.Errorf("Play: %d, %v", n, e)
	}
	for _, x := range []struct {
		name            string
		tests           []mix.Range
		kind            int
		share, strength mix.Range
	}{
		{"no tests", nil, mix.Perhaps, to(0, 4), to(42, 52)},
		{"45..46", []mix.Range{to(45, 46)}, mix.Always, to(2, 3), to(45, 46)},
		{"48..50", []mix.Range{to(48, 50)}, mix.Perhaps, to(0, 2), to(48, 50)},
	} {
		c := example(x.tests...)
		if kind, e := mix.Mixed(c); e != api.OK || kind != x.kind {
			t.Errorf("%s: Mixed: %d, %v", x.name, kind, e)
		}
		if share, strength, e := mix.Bounds(c); e != api.OK || share != x.share || strength != x.strength {
			t.Errorf("%s: Bounds: %v, %v, %v", x.name, share, strength, e)
		}
	}
	want := []mix.Mixture{{Share: 2, Bad: 10}, {Share: 2, Bad: 11}, {Share: 2, Bad: 12}, {Share: 3, Bad: 10}, {Share: 3, Bad: 11}, {Share: 3, Bad: 12}}
	if l, e := mix.Mixtures(example(to(45, 46))); e != api.OK || !slices.Equal(l, want) {
		t.Errorf("Mixtures: %v, %v", l, e)
	}
	if l, e := mix.Innocent(example(to(45, 46))); e != api.ErrNone || l != nil {
		t.Errorf("Innocent: %v, %v", l, e)
	}
	if l, e := mix.Innocent(example(to(48, 50))); e != api.OK || !slices.Equal(l, list(40, 60)) {
		t.Errorf("Innocent: %v, %v", l, e)
	}
	c := example(to(45, 46), to(51, 52))
	if n, e := mix.First(c); e != api.OK || n != 1 {
		t.Errorf("First: %d, %v", n, e)
	}
	if l, e := mix.Leave(c); e != api.OK || !slices.Equal(l, list(0)) {
		t.Errorf("Leave: %v, %v", l, e)
	}
}

// P8.1, P8.2: how the strength is rounded: the cask's first, and then that of the
// mixture.
func TestRounding(t *testing.T) {
	c := mix.Case{
		Cellar: cask.Cellar{Heaps: []cask.Range{{Lo: 7, Hi: 7}, {Lo: 9, Hi: 9}}, Casks: [][]int{{1, 2}, {3, 0}}},
		Most:   3, Bad: to(0, 100),
	}
	for _, x := range []struct{ sold, share, bad, want int }{
		{0, 0, 0, 8}, // 25 of 3 parts
		{0, 1, 0, 5}, // twice 8 of 3 parts: not 17 of them
		{0, 1, 1, 5},
		{0, 1, 2, 6},
		{0, 2, 0, 2},
		{0, 3, 0, 0},
		{0, 3, 100, 100}, // nothing but bad woad
		{0, 1, 100, 38},
		{1, 0, 0, 7},
		{1, 3, 6, 6},
		{1, 1, 9, 7},
		{1, 1, 10, 8},
	} {
		c.Sold = x.sold
		if n, e := mix.Play(c, truth(x.share, x.bad, 7, 9)); e != api.OK || n != x.want {
			t.Errorf("Play of %v: %d, %v", x, n, e)
		}
	}
}

// P8.1 to P8.5: by the oracle.
func TestByOracle(t *testing.T) {
	kinds, errors, innocents := map[int]int{}, map[api.Errno]int{}, map[api.Errno]int{}
	check := func(c mix.Case) {
		want := errorOf(c)
		kind, e1 := mix.Mixed(c)
		share, strength, e2 := mix.Bounds(c)
		mixtures, e3 := mix.Mixtures(c)
		fill, e4 := mix.Innocent(c)
		if errors[want]++; want != api.OK {
			if e1 != want || e2 != want || e3 != want || e4 != want {
				t.Fatalf("%v: %v, %v, %v, %v", c, e1, e2, e3, e4)
			}
			return
		}
		s, n := boundsOf(c)
		if e1 != api.OK || kind != mixedOf(c) || e2 != api.OK || share != s || strength != n {
			t.Fatalf("Mixed, Bounds of %v: %d, %v; %v, %v, %v", c, kind, e1, share, strength, e2)
		}
		if e3 != api.OK || !slices.Equal(mixtures, mixturesOf(c)) {
			t.Fatalf("Mixtures of %v: %v, %v", c, mixtures, e3)
		}
		if l, e := innocentOf(c); e4 != e || !slices.Equal(fill, l) {
			t.Fatalf("Innocent of %v: %v, %v; not %v, %v", c, fill, e4, l, e)
		}
		kinds[kind]++
		innocents[e4]++
	}
	for _, c := range randomCases(1500, 3) {
		check(c)
	}
	for _, c := range bigCases() {
		check(c)
	}
	if kinds[mix.Always] < 50 || kinds[mix.Never] < 50 || kinds[mix.Perhaps] < 50 || errors[api.ErrFalse] < 50 || errors[api.ErrFail] < 50 || innocents[api.ErrNone] < 50 {
		t.Errorf("how often: %v, %v, %v", kinds, errors, innocents)
	}
}

// P8.1, P8.4: by the oracle, of each list and each truth that Play takes, and of
// some that it does not take.
func TestProofs(t *testing.T) {
	truths, innocents := map[bool]int{}, map[bool]int{}
	for r, c := range randomCases(300, 2) {
		for _, heaps := range fills(c) {
			share, bad := r.IntN(c.Most+1), c.Bad.Lo+r.IntN(c.Bad.Hi-c.Bad.Lo+1)
			y := truth(share, bad, heaps...)
			if n, e := mix.Play(c, y); e != api.OK || n != strengthOf(c, y) {
				t.Fatalf("Play of %v, %v: %d, %v", c, y, n, e)
			}
			want := oracle.AllRight(c.Cellar, heaps) && isTruth(c, y)
			if mix.ProveTruth(c, y) != want {
				t.Fatalf("ProveTruth of %v, %v: not %v", c, y, want)
			}
			truths[want]++
			alone := oracle.AllRight(c.Cellar, heaps) && isTruth(c, truth(0, c.Bad.Lo, heaps...))
			if mix.ProveInnocent(c, heaps) != alone {
				t.Fatalf("ProveInnocent of %v, %v: not %v", c, heaps, alone)
			}
			innocents[alone]++
			heaps[r.IntN(len(heaps))] += 101
			if mix.ProveInnocent(c, heaps) || mix.ProveTruth(c, truth(share, bad, heaps...)) {
				t.Fatalf("%v of %v is proved", heaps, c)
			}
		}
	}
	if truths[true] < 200 || truths[false] < 200 || innocents[true] < 200 || innocents[false] < 200 {
		t.Errorf("how often: %v, %v", truths, innocents)
	}
}

// P8.4: fills that explain the tests alone, and others.
func TestInnocents(t *testing.T) {
	c := example(to(51, 51))
	for _, x := range []struct {
		name  string
		heaps []int
		want  bool
	}{
		{"the first one", list(40, 62), true},
		{"a later one", list(42, 60), true},
		{"too weak", list(40, 61), false},
		{"too strong", list(42, 62), false},
		{"nothing", nil, false},
		{"a heap too few", list(40), false},
		{"a heap too many", list(40, 62, 0), false},
		{"not of the heaps", list(39, 63), false},
		{"far off", list(math.MaxInt, math.MinInt), false},
	} {
		if mix.ProveInnocent(c, x.heaps) != x.want {
			t.Errorf("%s: ProveInnocent", x.name)
		}
	}
	if l, e := mix.Innocent(c); e != api.OK || !slices.Equal(l, list(40, 62)) {
		t.Errorf("Innocent: %v, %v", l, e)
	}
}

// P8.3: a share of nothing goes with each kind of bad woad.
func TestNoShare(t *testing.T) {
	want := []mix.Mixture{{Share: 0, Bad: 10}, {Share: 0, Bad: 11}, {Share: 0, Bad: 12}}
	if l, e := mix.Mixtures(example(to(51, 100))); e != api.OK || !slices.Equal(l, want) {
		t.Errorf("Mixtures: %v, %v", l, e)
	}
	c := example()
	c.Most = 0
	if l, e := mix.Mixtures(c); e != api.OK || !slices.Equal(l, want) {
		t.Errorf("Mixtures: %v, %v", l, e)
	}
}

// P8.5: by the oracle, which tries every set of tests.
func TestFirstAndLeave(t *testing.T) {
	wrong, many := 0, 0
	for _, c := range randomCases(800, 5) {
		if len(anyTruths(c)) == 0 {
			continue
		}
		first, e := firstOf(c)
		if n, g := mix.First(c); n != first || g != e {
			t.Fatalf("First of %v: %d, %v; not %d, %v", c, n, g, first, e)
		}
		smallest := leaveOf(c)
		if l, g := mix.Leave(c); g != api.OK || !slices.Equal(l, smallest) {
			t.Fatalf("Leave of %v: %v, %v; not %v", c, l, g, smallest)
		}
		if len(smallest) > 0 {
			wrong++
		}
		if len(smallest) > 1 {
			many++
		}
	}
	if wrong < 100 || many < 30 {
		t.Errorf("%d of the cases have a wrong test, %d have two", wrong, many)
	}
}

// P8.5: all tests have to be left out, or all but one.
func TestLeaveAll(t *testing.T) {
	c := example(to(0, 41), to(53, 100), to(60, 60), to(0, 0), to(100, 100))
	if l, e := mix.Leave(c); e != api.OK || !slices.Equal(l, list(0, 1, 2, 3, 4)) {
		t.Errorf("Leave: %v, %v", l, e)
	}
	if n, e := mix.First(c); e != api.OK || n != 0 {
		t.Errorf("First: %d, %v", n, e)
	}
	c = example(to(42, 42), to(44, 44), to(46, 46), to(48, 48), to(50, 50))
	if l, e := mix.Leave(c); e != api.OK || !slices.Equal(l, list(0, 1, 2, 3)) {
		t.Errorf("Leave: %v, %v", l, e)
	}
	if n, e := mix.First(c); e != api.OK || n != 1 {
		t.Errorf("First: %d, %v", n, e)
	}
}
