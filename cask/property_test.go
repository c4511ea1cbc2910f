package cask_test

import (
	"math"
	"math/rand/v2"
	"slices"
	"testing"

	"isatis/api"
	"isatis/cask"
	"isatis/oracle"
)

func play(t *testing.T, c cask.Cellar, y []int) []int {
	t.Helper()
	l, e := cask.Play(c, y)
	if e != api.OK {
		t.Fatalf("Play of %v, %v: %v", c, y, e)
	}
	return l
}

// bounds are those of all things.
func bounds(t *testing.T, c cask.Cellar) []cask.Range {
	t.Helper()
	heaps, casks, e := cask.Bounds(c)
	if e != api.OK || len(heaps) != len(c.Heaps) || len(casks) != len(c.Casks) {
		t.Fatalf("Bounds of %v: %v, %v, %v", c, heaps, casks, e)
	}
	return slices.Concat(heaps, casks)
}

func graded(t *testing.T, c cask.Cellar, number, grade int) int {
	t.Helper()
	kind, e := cask.Graded(c, number, grade)
	if e != api.OK {
		t.Fatalf("Graded of %v, %d, %d: %v", c, number, grade, e)
	}
	return kind
}

func decide(t *testing.T, c cask.Cellar, grade int) []int {
	t.Helper()
	l, e := cask.Decide(c, grade)
	if e != api.OK {
		t.Fatalf("Decide of %v, %d: %v", c, grade, e)
	}
	return l
}

// blend returns no list if there is no blend.
func blend(t *testing.T, c cask.Cellar, stock []int, weight, grade int) []int {
	t.Helper()
	l, e := cask.Blend(c, stock, weight, grade)
	if e != api.OK && e != api.ErrShort || (e == api.OK) != (len(l) == len(c.Heaps)) {
		t.Fatalf("Blend of %v, %v, %d, %d: %v, %v", c, stock, weight, grade, l, e)
	}
	return l
}

func leave(t *testing.T, c cask.Cellar) []int {
	t.Helper()
	l, e := cask.Leave(c)
	if e != api.OK {
		t.Fatalf("Leave of %v: %v", c, e)
	}
	return l
}

// inside reports whether no thing is bounded more widely in the narrow cellar
// than in the wide one.
func inside(t *testing.T, narrow, wide cask.Cellar) bool {
	t.Helper()
	b := bounds(t, wide)
	for thing, a := range bounds(t, narrow) {
		if a.Lo < b[thing].Lo || a.Hi > b[thing].Hi {
			return false
		}
	}
	return true
}

// allCellars are small and big ones that have a truth.
func allCellars(many, trials int) []cask.Cellar {
	cellars := append(bigCellars(), example(), example(isTried()))
	for _, c := range randomCellars(many, trials) {
		if isRight(c) {
			cellars = append(cellars, c)
		}
	}
	return cellars
}

// randomStock is one with a weight and a grade of which there can be a blend.
func randomStock(r *rand.Rand, c cask.Cellar) (stock []int, weight, grade int) {
	for range c.Heaps {
		stock = append(stock, r.IntN(8))
	}
	grade = c.Heaps[r.IntN(len(c.Heaps))].Lo + r.IntN(5) - 2
	return stock, 1 + r.IntN(8), min(100, max(0, grade))
}

// P5.6
func TestInEachTruth(t *testing.T) {
	r := rand.New(rand.NewPCG(6, 6))
	for _, c := range allCellars(300, 3) {
		b := bounds(t, c)
		low, high := make([]bool, len(b)), make([]bool, len(b))
		grade := randomGrade(r, c)
		var kinds []int
		for number := range c.Casks {
			kinds = append(kinds, graded(t, c, number, grade))
		}
		for _, y := range oracle.TruthsOf(c) {
			casks := play(t, c, y)
			for thing, n := range slices.Concat(y, casks) {
				if n < b[thing].Lo || n > b[thing].Hi {
					t.Fatalf("Bounds of %v: %v, but %v in %v", c, b, casks, y)
				}
				low[thing], high[thing] = low[thing] || n == b[thing].Lo, high[thing] || n == b[thing].Hi
			}
			for number, kind := range kinds {
				if kind == cask.Always && casks[number] < grade || kind == cask.Never && casks[number] >= grade {
					t.Fatalf("Graded of %v, %d, %d: %d, but %v in %v", c, number, grade, kind, casks, y)
				}
			}
		}
		if slices.Contains(low, false) || slices.Contains(high, false) {
			t.Fatalf("Bounds of %v: %v, which are not reached", c, b)
		}
		if len(leave(t, c)) > 0 {
			t.Fatalf("Leave of %v, which has a truth", c)
		}
	}
}

// P5.7
func TestMean(t *testing.T) {
	doubled := 0
	for r, c := range randomCellars(500, 0) {
		truths := anyTruths(c)
		y := truths[r.IntN(len(truths))]
		for number, n := range play(t, c, y) {
			var in, twice []int
			for heap, weight := range c.Casks[number] {
				twice = append(twice, 2*weight)
				if weight > 0 {
					in = append(in, y[heap])
				}
			}
			if n < slices.Min(in) || n > slices.Max(in) || len(in) == 1 && n != in[0] {
				t.Fatalf("Play of %v, %v: %d in the cask %d", c, y, n, number)
			}
			if slices.Max(twice) > 30 {
				continue
			}
			doubled++
			if got := play(t, cask.Cellar{Heaps: c.Heaps, Casks: [][]int{twice}}, y); got[0] != n {
				t.Fatalf("Play of %v, %v: %d in the cask %d, but %v of twice as much", c, y, n, number, got)
			}
		}
	}
	if doubled < 100 {
		t.Errorf("only %d casks are doubled", doubled)
	}
}

// P5.8
func TestMoreOfIt(t *testing.T) {
	for r, c := range randomCellars(500, 0) {
		truths := anyTruths(c)
		y := truths[r.IntN(len(truths))]
		for number, n := range play(t, c, y) {
			for heap := range c.Heaps {
				more := slices.Clone(c.Casks[number])
				more[heap] += 1 + r.IntN(3)
				if more[heap] > 30 {
					continue
				}
				got := play(t, cask.Cellar{Heaps: c.Heaps, Casks: [][]int{more}}, y)[0]
				if y[heap] >= n && got < n || y[heap] <= n && got > n {
					t.Fatalf("Play of %v, %v: %d in the cask %d, but %d with %v", c, y, n, number, got, more)
				}
			}
		}
	}
}

// P5.9
func TestOneMoreTrial(t *testing.T) {
	compared, changed, blended := 0, 0, 0
	for r, c := range randomCellars(600, 4) {
		truths := anyTruths(c)
		g := with(c, randomTrial(r, c, truths[r.IntN(len(truths))]))
		if d := len(leave(t, g)) - len(leave(t, c)); d < 0 || d > 1 {
			t.Fatalf("Leave of %v and of %v: %d more", c, g, d)
		}
		if !isRight(g) {
			continue
		}
		compared++
		if !inside(t, g, c) {
			t.Fatalf("%v is wider than %v", g, c)
		}
		grade := randomGrade(r, c)
		for number := range c.Casks {
			if kind := graded(t, c, number, grade); kind != cask.Perhaps && graded(t, g, number, grade) != kind {
				t.Fatalf("Graded of %v, %d, %d: %d; not of %v", c, number, grade, kind, g)
			}
		}
		if len(decide(t, g, grade)) > len(decide(t, c, grade)) {
			t.Fatalf("%v needs more things than %v", g, c)
		}
		stock, weight, grade := randomStock(r, c)
		if l := blend(t, c, stock, weight, grade); l != nil {
			blended++
			if !cask.ProveBlend(g, stock, weight, grade, l) {
				t.Fatalf("%v is no blend of %v", l, g)
			}
		}
		if !inside(t, c, g) {
			changed++
		}
	}
	if compared < 200 || changed < 50 || blended < 50 {
		t.Errorf("%d cellars compared, %d are not the same, %d with a blend", compared, changed, blended)
	}
}

func widen(r *rand.Rand, x cask.Range) cask.Range {
	return to(max(0, x.Lo-r.IntN(2)), min(100, x.Hi+r.IntN(2)))
}

// P5.10
func TestWider(t *testing.T) {
	compared, changed := 0, 0
	for r, c := range randomCellars(500, 5) {
		g := c
		g.Heaps, g.Trials = slices.Clone(c.Heaps), slices.Clone(c.Trials)
		for i := range g.Trials {
			g.Trials[i].Strength = widen(r, g.Trials[i].Strength)
		}
		for heap := range g.Heaps {
			g.Heaps[heap] = widen(r, g.Heaps[heap])
		}
		if len(leave(t, g)) > len(leave(t, c)) {
			t.Fatalf("Leave of %v: more than of %v", g, c)
		}
		if !isRight(c) {
			continue
		}
		compared++
		if !inside(t, c, g) {
			t.Fatalf("%v is narrower than %v", g, c)
		}
		if !inside(t, g, c) {
			changed++
		}
	}
	if compared < 100 || changed < 50 {
		t.Errorf("%d cellars compared, %d are not the same", compared, changed)
	}
}

// P5.11
func TestGrades(t *testing.T) {
	for _, c := range randomCellars(100, 2) {
		if !isRight(c) {
			continue
		}
		for number := range c.Casks {
			kinds := make([]int, 101)
			for grade := range kinds {
				kinds[grade] = graded(t, c, number, grade)
			}
			never := slices.Index(kinds, cask.Never)
			if never < 0 {
				never = len(kinds)
			}
			always := never
			for always > 0 && kinds[always-1] != cask.Always {
				always--
			}
			if slices.ContainsFunc(kinds[:always], func(kind int) bool { return kind != cask.Always }) ||
				slices.ContainsFunc(kinds[never:], func(kind int) bool { return kind != cask.Never }) {
				t.Fatalf("Graded of %v, %d: %v", c, number, kinds)
			}
			if kinds[0] != cask.Always {
				t.Fatalf("Graded of %v, %d: %v by 0", c, number, kinds[0])
			}
		}
	}
}

// exact is the cellar of one truth's trials of these things.
func exact(c cask.Cellar, things, y []int) cask.Cellar {
	for _, thing := range things {
		n := thingOf(c, thing, y)
		c = with(c, trialOf(c, thing, to(n, n)))
	}
	return c
}

// P5.12
func TestDecided(t *testing.T) {
	tried := 0
	r := rand.New(rand.NewPCG(12, 12))
	for _, c := range allCellars(300, 2) {
		grade := randomGrade(r, c)
		fewest := decide(t, c, grade)
		if !cask.ProveDecide(c, grade, fewest) {
			t.Fatalf("Decide of %v, %d: %v, which do not decide it", c, grade, fewest)
		}
		for _, things := range oracle.ShortestFirst(len(c.Heaps) + len(c.Casks)) {
			if slices.Equal(things, fewest) {
				break
			}
			if cask.ProveDecide(c, grade, things) {
				t.Fatalf("Decide of %v, %d: %v, not %v", c, grade, fewest, things)
			}
		}
		truths := oracle.TruthsOf(c)
		for range 5 {
			g := exact(c, fewest, truths[r.IntN(len(truths))])
			for number := range c.Casks {
				tried++
				if kind := graded(t, g, number, grade); kind == cask.Perhaps {
					t.Fatalf("Decide of %v, %d: %v, but the cask %d of %v is so perhaps", c, grade, fewest, number, g)
				}
			}
		}
	}
	if tried < 500 {
		t.Errorf("only %d casks tried", tried)
	}
}

// P5.13
func TestBlended(t *testing.T) {
	r := rand.New(rand.NewPCG(13, 13))
	found, fewer := 0, 0
	for _, c := range allCellars(300, 2) {
		stock, weight, grade := randomStock(r, c)
		best := blend(t, c, stock, weight, grade)
		for _, l := range upTo(stock) {
			if best != nil && slices.Equal(l, best) {
				break
			}
			if cask.ProveBlend(c, stock, weight, grade, l) {
				t.Fatalf("Blend of %v, %v, %d, %d: %v, not %v", c, stock, weight, grade, best, l)
			}
		}
		if best == nil {
			continue
		}
		found++
		if !cask.ProveBlend(c, stock, weight, grade, best) {
			t.Fatalf("Blend of %v, %v, %d, %d: %v, which is none", c, stock, weight, grade, best)
		}
		if len(c.Casks) < 3 {
			g := c
			g.Casks = append(slices.Clone(c.Casks), best)
			if graded(t, g, len(c.Casks), grade) != cask.Always {
				t.Fatalf("Blend of %v, %v, %d, %d: %v, which is not of the grade always", c, stock, weight, grade, best)
			}
		}
		more := slices.Clone(stock)
		more[r.IntN(len(more))] += 1 + r.IntN(3)
		for _, l := range [][]int{blend(t, c, more, weight, grade), blend(t, c, stock, weight, max(0, grade-r.IntN(3)))} {
			if l == nil || slices.Compare(l, best) > 0 {
				t.Fatalf("Blend of %v, %v, %d, %d: %v, but later %v of more", c, stock, weight, grade, best, l)
			}
			if !slices.Equal(l, best) {
				fewer++
			}
		}
	}
	if found < 50 || fewer < 20 {
		t.Errorf("%d blends found, %d of them are before the others", found, fewer)
	}
}

// P5.14
func TestFirst(t *testing.T) {
	for _, c := range randomCellars(500, 5) {
		n, e := cask.First(c)
		if e == api.ErrNone {
			bounds(t, c)
			continue
		}
		if e != api.OK || n < 0 || n >= len(c.Trials) {
			t.Fatalf("First of %v: %d, %v", c, n, e)
		}
		g := c
		g.Trials = c.Trials[:n]
		bounds(t, g)
		g.Trials = c.Trials[:n+1]
		if _, _, e := cask.Bounds(g); e != api.ErrFalse {
			t.Fatalf("First of %v: %d, but Bounds: %v", c, n, e)
		}
	}
}

// P5.15
func TestLeftOut(t *testing.T) {
	for _, c := range randomCellars(500, 5) {
		smallest := leave(t, c)
		bounds(t, without(c, smallest))
		for _, l := range oracle.ShortestFirst(len(c.Trials)) {
			if slices.Equal(l, smallest) {
				break
			}
			if _, _, e := cask.Bounds(without(c, l)); e != api.ErrFalse {
				t.Fatalf("Leave of %v: %v, not %v", c, smallest, l)
			}
		}
	}
}

// P7: trials in another order.
func TestAnyOrder(t *testing.T) {
	for r, c := range randomCellars(300, 5) {
		g := c
		g.Trials = slices.Clone(c.Trials)
		r.Shuffle(len(g.Trials), func(i, j int) { g.Trials[i], g.Trials[j] = g.Trials[j], g.Trials[i] })
		if len(leave(t, c)) != len(leave(t, g)) {
			t.Fatalf("Leave of %v and of %v", c, g)
		}
		if !isRight(c) {
			continue
		}
		grade := randomGrade(r, c)
		stock, weight, least := randomStock(r, c)
		if !slices.Equal(bounds(t, c), bounds(t, g)) || !slices.Equal(decide(t, c, grade), decide(t, g, grade)) ||
			!slices.Equal(blend(t, c, stock, weight, least), blend(t, g, stock, weight, least)) {
			t.Fatalf("%v and %v", c, g)
		}
	}
}

// P1: whatever the arguments are, each call returns.
func TestNoPanic(t *testing.T) {
	odd := []int{math.MinInt, -2, -1, 0, 0, 1, 1, 2, 3, 10, 30, 31, 100, 101, math.MaxInt}
	r := rand.New(rand.NewPCG(1, 1))
	pick := func() int { return odd[r.IntN(len(odd))] }
	some := func() []int {
		l := make([]int, r.IntN(5))
		for i := range l {
			l[i] = pick()
		}
		return l
	}
	for range 20000 {
		var c cask.Cellar
		for range r.IntN(5) {
			c.Heaps = append(c.Heaps, to(pick(), pick()))
		}
		for range r.IntN(5) {
			c.Casks = append(c.Casks, some())
		}
		if r.IntN(2) == 0 { // a valid cellar, with whatever else
			c = example()
		}
		for range r.IntN(3) {
			c.Trials = append(c.Trials, cask.Trial{Cask: r.IntN(2) == 0, Number: pick(), Strength: to(pick(), pick())})
		}
		a := asked{strengths: some(), cask: pick(), grade: pick(), stock: some(), weight: pick(), things: some(), blend: some()}
		if _, zero := calls(c, a); !zero {
			t.Fatalf("%v, %v: a result together with an error", c, a)
		}
		proves(c, a)
	}
}

// R3, R4: arguments stay as they are, and results are new.
func TestMemory(t *testing.T) {
	c, stock, y := example(isTried()), list(10, 10), list(41, 63)
	for range 2 {
		casks := play(t, c, y)
		heaps, around, _ := cask.Bounds(c)
		things := decide(t, example(), 51)
		best := blend(t, c, stock, 12, 55)
		left := leave(t, example(isTried(), isFalse()))
		if !slices.Equal(casks, list(52, 57)) || heaps[0] != to(41, 42) || around[0] != to(52, 52) ||
			!slices.Equal(things, list(2)) || !slices.Equal(best, list(2, 10)) || !slices.Equal(left, list(0)) {
			t.Fatalf("%v, %v, %v, %v, %v, %v", casks, heaps, around, things, best, left)
		}
		_ = append(heaps, to(9, 9))
		if around[0] != to(52, 52) {
			t.Fatal("two results share their memory")
		}
		casks[0], heaps[0], around[0], things[0], best[0], left[0] = 9, cask.Range{}, cask.Range{}, 9, 9, 9
		if !cask.ProveTruth(c, y) || !cask.ProveDecide(example(), 51, list(2)) || !cask.ProveBlend(c, stock, 12, 55, list(2, 10)) {
			t.Fatal("what was proved is not proved again")
		}
	}
	g := example(isTried())
	if !slices.Equal(c.Heaps, g.Heaps) || !slices.EqualFunc(c.Casks, g.Casks, slices.Equal) || !slices.Equal(c.Trials, g.Trials) {
		t.Error("the cellar was changed")
	}
	if !slices.Equal(stock, list(10, 10)) || !slices.Equal(y, list(41, 63)) {
		t.Error("a stock or a truth was changed")
	}
	e := example()
	e.Trials = []cask.Trial{}
	if !slices.Equal(bounds(t, e), bounds(t, example())) || len(leave(t, e)) > 0 || !cask.ProveDecide(e, 50, list()) {
		t.Error("nothing, and an empty list")
	}
}
