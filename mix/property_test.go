package mix_test

import (
	"math"
	"math/rand/v2"
	"slices"
	"testing"

	"isatis/api"
	"isatis/cask"
	"isatis/mix"
	"isatis/oracle"
)

func play(t *testing.T, c mix.Case, y mix.Truth) int {
	t.Helper()
	n, e := mix.Play(c, y)
	if e != api.OK {
		t.Fatalf("Play of %v, %v: %v", c, y, e)
	}
	return n
}

func mixed(t *testing.T, c mix.Case) int {
	t.Helper()
	kind, e := mix.Mixed(c)
	if e != api.OK {
		t.Fatalf("Mixed of %v: %v", c, e)
	}
	return kind
}

func bounds(t *testing.T, c mix.Case) (share, strength mix.Range) {
	t.Helper()
	share, strength, e := mix.Bounds(c)
	if e != api.OK {
		t.Fatalf("Bounds of %v: %v", c, e)
	}
	return share, strength
}

func mixtures(t *testing.T, c mix.Case) []mix.Mixture {
	t.Helper()
	l, e := mix.Mixtures(c)
	if e != api.OK {
		t.Fatalf("Mixtures of %v: %v", c, e)
	}
	return l
}

// innocent returns no list if no fill explains the tests alone.
func innocent(t *testing.T, c mix.Case) []int {
	t.Helper()
	l, e := mix.Innocent(c)
	if e != api.OK && e != api.ErrNone || (e == api.OK) != (len(l) > 0) {
		t.Fatalf("Innocent of %v: %v, %v", c, l, e)
	}
	return l
}

func leave(t *testing.T, c mix.Case) []int {
	t.Helper()
	l, e := mix.Leave(c)
	if e != api.OK {
		t.Fatalf("Leave of %v: %v", c, e)
	}
	return l
}

// inside reports whether no bounds are wider in the narrow case than in the wide
// one, and each of its mixtures is one of the other's.
func inside(t *testing.T, narrow, wide mix.Case) bool {
	t.Helper()
	a, b := bounds(t, narrow)
	share, strength := bounds(t, wide)
	more := mixtures(t, wide)
	return share.Lo <= a.Lo && a.Hi <= share.Hi && strength.Lo <= b.Lo && b.Hi <= strength.Hi &&
		!slices.ContainsFunc(mixtures(t, narrow), func(m mix.Mixture) bool { return !slices.Contains(more, m) })
}

// cases are small and big ones; those with an error are left out.
func cases(many, tests int) []mix.Case {
	list := append(bigCases(), example(), example(to(45, 46)))
	for _, c := range randomCases(many, tests) {
		if errorOf(c) == api.OK {
			list = append(list, c)
		}
	}
	return list
}

// P8.6
func TestInEachTruth(t *testing.T) {
	kinds := map[int]int{}
	for _, c := range cases(400, 3) {
		share, strength := bounds(t, c)
		kind, all := mixed(t, c), mixtures(t, c)
		kinds[kind]++
		reached := map[string]bool{}
		for _, y := range truthsOf(c) {
			n := play(t, c, y)
			if !mix.ProveTruth(c, y) || !isIn(y.Share, share) || !isIn(n, strength) {
				t.Fatalf("Bounds of %v: %v, %v; but %v has %d", c, share, strength, y, n)
			}
			if kind == mix.Always && y.Share == 0 || kind == mix.Never && y.Share > 0 {
				t.Fatalf("Mixed of %v: %d, but %v", c, kind, y)
			}
			if !slices.Contains(all, mix.Mixture{Share: y.Share, Bad: y.Bad}) {
				t.Fatalf("Mixtures of %v: %v, but %v", c, all, y)
			}
			for name, is := range map[string]bool{
				"least share": y.Share == share.Lo, "most share": y.Share == share.Hi, "weakest": n == strength.Lo, "strongest": n == strength.Hi,
			} {
				reached[name] = reached[name] || is
			}
		}
		if !reached["least share"] || !reached["most share"] || !reached["weakest"] || !reached["strongest"] {
			t.Fatalf("Bounds of %v: %v, %v; %v", c, share, strength, reached)
		}
		if len(leave(t, c)) > 0 {
			t.Fatalf("Leave of %v, which has a truth", c)
		}
	}
	if kinds[mix.Always] < 20 || kinds[mix.Never] < 20 || kinds[mix.Perhaps] < 20 {
		t.Errorf("how often: %v", kinds)
	}
}

// P8.7
func TestToldAsMixed(t *testing.T) {
	kinds := map[int]int{}
	for _, c := range cases(800, 3) {
		share, _ := bounds(t, c)
		kind := mixed(t, c)
		kinds[kind]++
		fill := innocent(t, c)
		if (kind == mix.Always) != (fill == nil) || (kind == mix.Always) != (share.Lo > 0) || (kind == mix.Never) != (share.Hi == 0) {
			t.Fatalf("%v: Mixed %d, Innocent %v, the share %v", c, kind, fill, share)
		}
		proved := false
		for _, heaps := range fills(c) {
			if mix.ProveInnocent(c, heaps) {
				if proved = true; !slices.Equal(heaps, fill) {
					t.Fatalf("Innocent of %v: %v, not %v", c, fill, heaps)
				}
				break
			}
		}
		if proved != (fill != nil) {
			t.Fatalf("Innocent of %v: %v, which is not proved", c, fill)
		}
	}
	if kinds[mix.Always] < 50 || kinds[mix.Never] < 50 || kinds[mix.Perhaps] < 50 {
		t.Errorf("how often: %v", kinds)
	}
}

// P8.8
func TestShares(t *testing.T) {
	less, more := 0, 0
	for r, c := range randomCases(600, 0) {
		all := fills(c)
		heaps, bad := all[r.IntN(len(all))], c.Bad.Lo+r.IntN(c.Bad.Hi-c.Bad.Lo+1)
		casks, e := cask.Play(c.Cellar, heaps)
		own := play(t, c, truth(0, bad, heaps...))
		if e != api.OK || own != casks[c.Sold] {
			t.Fatalf("Play of %v, %v: %d without a share; of the cellar: %v, %v", c, heaps, own, casks, e)
		}
		last := own
		for share := range c.Most + 1 {
			n := play(t, c, truth(share, bad, heaps...))
			if n < min(own, bad) || n > max(own, bad) || bad <= own && n > last || bad > own && n < last {
				t.Fatalf("Play of %v, %v: %d with the share %d of %d; %d before", c, heaps, n, share, bad, last)
			}
			if n < last {
				less++
			}
			if n > last {
				more++
			}
			last = n
		}
	}
	if less < 100 || more < 100 {
		t.Errorf("%d are less, %d are more", less, more)
	}
}

// P8.9
func TestWithoutMost(t *testing.T) {
	seen := 0
	for _, c := range randomCases(600, 2) {
		c.Most = 0
		kind, e := mix.Mixed(c)
		if want := errorOf(c); e != want {
			t.Fatalf("Mixed of %v: %v, not %v", c, e, want)
		}
		if e == api.OK {
			if seen++; kind != mix.Never || innocent(t, c) == nil {
				t.Fatalf("Mixed of %v: %d", c, kind)
			}
		}
	}
	if seen < 200 {
		t.Errorf("only %d have a truth", seen)
	}
}

// told counts how many cases were compared with those of which more is known, and
// how many of these are narrower, or are told more surely.
type told struct{ compared, narrower, surer int }

// compare is for two cases, of which the second one has one more test or trial.
func (x *told) compare(t *testing.T, c, g mix.Case) {
	t.Helper()
	if !hasTruth(g) {
		return
	}
	x.compared++
	if !inside(t, g, c) {
		t.Fatalf("%v is wider than %v", g, c)
	}
	if !inside(t, c, g) {
		x.narrower++
	}
	before, after := mixed(t, c), mixed(t, g)
	if before != mix.Perhaps && before != after {
		t.Fatalf("Mixed of %v: %d; of %v: %d", c, before, g, after)
	}
	if before != after {
		x.surer++
	}
}

// P8.10
func TestOneMoreTest(t *testing.T) {
	var x told
	longer := 0
	for r, c := range randomCases(1200, 3) {
		truths := anyTruths(c)
		if len(truths) == 0 {
			continue
		}
		g := with(c, randomTest(r, c, truths[r.IntN(len(truths))]))
		d := len(leave(t, g)) - len(leave(t, c))
		if d < 0 || d > 1 {
			t.Fatalf("Leave of %v and of %v: %d more", c, g, d)
		}
		longer += d
		x.compare(t, c, g)
	}
	if x.compared < 200 || x.narrower < 50 || x.surer < 30 || longer < 50 {
		t.Errorf("how often: %v; in %d more is left out", x, longer)
	}
}

// P8.11
func TestOneMoreTrial(t *testing.T) {
	var x told
	for r, c := range randomCases(4000, 3) {
		truths := anyTruths(c)
		if len(truths) > 0 {
			x.compare(t, c, tried(c, randomTrial(r, c, truths[r.IntN(len(truths))].Heaps)))
		}
	}
	if x.compared < 200 || x.narrower < 50 || x.surer < 10 {
		t.Errorf("how often: %v", x)
	}
}

func widen(r *rand.Rand, x mix.Range) mix.Range {
	return to(max(0, x.Lo-r.IntN(3)), min(100, x.Hi+r.IntN(3)))
}

// P8.12
func TestWider(t *testing.T) {
	compared, wider, shorter := 0, 0, 0
	for r, c := range randomCases(900, 5) {
		if len(anyTruths(c)) == 0 {
			continue
		}
		g := c
		g.Tests = slices.Clone(c.Tests)
		switch r.IntN(3) {
		case 0:
			g.Bad = widen(r, c.Bad)
		case 1:
			g.Most = min(oracle.Sum(c.Cellar.Casks[c.Sold]), c.Most+r.IntN(3))
		default:
			for n := range g.Tests {
				g.Tests[n] = widen(r, g.Tests[n])
			}
		}
		a, b := len(leave(t, c)), len(leave(t, g))
		if b > a {
			t.Fatalf("Leave of %v: more than of %v", g, c)
		}
		if b < a {
			shorter++
		}
		if !hasTruth(c) {
			continue
		}
		compared++
		if !inside(t, c, g) {
			t.Fatalf("%v is narrower than %v", g, c)
		}
		if !inside(t, g, c) {
			wider++
		}
	}
	if compared < 200 || wider < 50 || shorter < 20 {
		t.Errorf("%d compared, %d are wider; in %d less is left out", compared, wider, shorter)
	}
}

// P8.13
func TestFirst(t *testing.T) {
	for _, c := range randomCases(600, 5) {
		n, e := mix.First(c)
		switch e {
		case api.ErrFalse:
			continue
		case api.ErrNone:
			bounds(t, c)
			continue
		}
		if e != api.OK || n < 0 || n >= len(c.Tests) {
			t.Fatalf("First of %v: %d, %v", c, n, e)
		}
		bounds(t, only(c, n))
		if _, e := mix.Mixed(only(c, n+1)); e != api.ErrFail {
			t.Fatalf("First of %v: %d, but Mixed: %v", c, n, e)
		}
	}
}

// P8.14
func TestLeftOut(t *testing.T) {
	for _, c := range randomCases(600, 5) {
		if len(anyTruths(c)) == 0 {
			continue
		}
		smallest := leave(t, c)
		bounds(t, without(c, smallest))
		for _, l := range oracle.ShortestFirst(len(c.Tests)) {
			if slices.Equal(l, smallest) {
				break
			}
			if _, e := mix.Mixed(without(c, l)); e != api.ErrFail {
				t.Fatalf("Leave of %v: %v, not %v", c, smallest, l)
			}
		}
	}
}

// P8.15
func TestByTheCellar(t *testing.T) {
	never, wrong := 0, 0
	for _, c := range cases(800, 2) {
		_, casks, e := cask.Bounds(c.Cellar)
		if e != api.OK {
			t.Fatalf("Bounds of the cellar of %v: %v", c, e)
		}
		r := mix.Range(casks[c.Sold])
		if mixed(t, c) == mix.Never {
			never++
			if _, strength := bounds(t, c); strength.Lo < r.Lo || strength.Hi > r.Hi {
				t.Fatalf("Bounds of %v: %v, not within %v", c, strength, r)
			}
		}
		above := max(r.Hi, c.Bad.Hi) + 1
		if above > 100 {
			continue
		}
		wrong++
		if l := leave(t, with(c, to(above, 100))); !slices.Equal(l, list(len(c.Tests))) {
			t.Fatalf("Leave of %v with the test %d..100: %v", c, above, l)
		}
	}
	if never < 50 || wrong < 200 {
		t.Errorf("%d are mixed never, %d get a test that is too strong", never, wrong)
	}
}

// P7: tests and trials in another order.
func TestAnyOrder(t *testing.T) {
	for r, c := range randomCases(400, 5) {
		g := c
		g.Tests, g.Cellar.Trials = slices.Clone(c.Tests), slices.Clone(c.Cellar.Trials)
		r.Shuffle(len(g.Tests), func(i, j int) { g.Tests[i], g.Tests[j] = g.Tests[j], g.Tests[i] })
		slices.Reverse(g.Cellar.Trials)
		want := errorOf(c)
		if _, e := mix.Mixed(g); e != want {
			t.Fatalf("Mixed of %v: %v, not %v", g, e, want)
		}
		if want != api.ErrFalse && len(leave(t, c)) != len(leave(t, g)) {
			t.Fatalf("Leave of %v and of %v", c, g)
		}
		if want == api.OK && (!inside(t, c, g) || !inside(t, g, c) || mixed(t, c) != mixed(t, g) || !slices.Equal(innocent(t, c), innocent(t, g))) {
			t.Fatalf("%v and %v", c, g)
		}
	}
}

// Rules: a call with equal arguments returns equal results.
func TestAgain(t *testing.T) {
	for _, c := range append(bigCases(), example(to(45, 46))) {
		all := mixtures(t, c)
		for range 5 {
			if !slices.Equal(all, mixtures(t, c)) || !inside(t, c, c) {
				t.Fatalf("Mixtures of %v", c)
			}
		}
	}
}

// P1: whatever the arguments are, each call returns.
func TestNoPanic(t *testing.T) {
	odd := []int{math.MinInt, -2, -1, 0, 0, 1, 1, 2, 3, 10, 12, 20, 40, 60, 100, 101, math.MaxInt}
	r := rand.New(rand.NewPCG(1, 8))
	pick := func() int { return odd[r.IntN(len(odd))] }
	some := func() []int {
		l := make([]int, r.IntN(5))
		for i := range l {
			l[i] = pick()
		}
		return l
	}
	for range 20000 {
		c := example()
		if r.IntN(4) == 0 {
			c.Cellar = cask.Cellar{}
			for range r.IntN(5) {
				c.Cellar.Heaps = append(c.Cellar.Heaps, cask.Range{Lo: pick(), Hi: pick()})
			}
			for range r.IntN(5) {
				c.Cellar.Casks = append(c.Cellar.Casks, some())
			}
		}
		if r.IntN(2) == 0 {
			c.Sold, c.Most, c.Bad = pick(), pick(), to(pick(), pick())
		}
		for range r.IntN(7) * r.IntN(2) {
			c.Tests = append(c.Tests, to(pick(), pick()))
		}
		for range r.IntN(3) {
			c.Cellar.Trials = append(c.Cellar.Trials, cask.Trial{Cask: r.IntN(2) == 0, Number: pick(), Strength: cask.Range{Lo: pick(), Hi: pick()}})
		}
		y := truth(pick(), pick(), some()...)
		if _, zero := calls(c, y); !zero {
			t.Fatalf("%v, %v: a result together with an error", c, y)
		}
		proves(c, y)
	}
}

// R3, R4: arguments stay as they are, and results are new.
func TestMemory(t *testing.T) {
	c, y := example(to(46, 50)), truth(2, 10, 40, 60)
	c.Cellar.Trials = noCellar()[:1]
	for range 2 {
		all := mixtures(t, example(to(45, 46)))
		fill := innocent(t, example(to(51, 51)))
		left := leave(t, example(to(45, 46), to(51, 52)))
		if len(all) != 6 || all[0] != (mix.Mixture{Share: 2, Bad: 10}) || !slices.Equal(fill, list(40, 62)) || !slices.Equal(left, list(0)) {
			t.Fatalf("%v, %v, %v", all, fill, left)
		}
		all[0], fill[0], left[0] = mix.Mixture{}, 9, 9
		if n := play(t, c, y); n != 46 || mixed(t, c) != mix.Always || !mix.ProveTruth(example(), y) || !mix.ProveInnocent(example(), y.Heaps) {
			t.Fatal("what was proved is not proved again")
		}
	}
	g := example()
	if !slices.Equal(c.Cellar.Heaps, g.Cellar.Heaps) || !slices.EqualFunc(c.Cellar.Casks, g.Cellar.Casks, slices.Equal) ||
		!slices.Equal(c.Cellar.Trials, noCellar()[:1]) || !slices.Equal(c.Tests, []mix.Range{to(46, 50)}) {
		t.Error("the case was changed")
	}
	if !slices.Equal(y.Heaps, list(40, 60)) {
		t.Error("a truth was changed")
	}
	e := example([]mix.Range{}...)
	e.Tests, e.Cellar.Trials = []mix.Range{}, []cask.Trial{}
	if !inside(t, e, g) || !inside(t, g, e) || len(leave(t, e)) > 0 || mix.ProveInnocent(e, list()) {
		t.Error("nothing, and an empty list")
	}
}
