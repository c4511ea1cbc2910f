package crop_test

import (
	"math"
	"math/rand/v2"
	"slices"
	"testing"

	"isatis/api"
	"isatis/crop"
	"isatis/oracle"
)

func bounds(t *testing.T, f crop.Field, plan []int) []crop.Bound {
	t.Helper()
	l, e := crop.Bounds(f, plan)
	if e != api.OK {
		t.Fatalf("Bounds of %v, %v: %v", f, plan, e)
	}
	return l
}

func worth(t *testing.T, f crop.Field, plan []int) crop.Range {
	t.Helper()
	r, e := crop.Worth(f, plan)
	if e != api.OK {
		t.Fatalf("Worth of %v, %v: %v", f, plan, e)
	}
	return r
}

func standing(t *testing.T, f crop.Field, week int) crop.Range {
	t.Helper()
	r, e := crop.Standing(f, week)
	if e != api.OK {
		t.Fatalf("Standing of %v, %d: %v", f, week, e)
	}
	return r
}

func play(t *testing.T, f crop.Field, y crop.Truth, plan []int) []crop.Crop {
	t.Helper()
	l, e := crop.Play(f, y, plan)
	if e != api.OK {
		t.Fatalf("Play of %v, %v, %v: %v", f, y, plan, e)
	}
	return l
}

func best(t *testing.T, f crop.Field) ([]int, int) {
	t.Helper()
	plan, sure, e := crop.Best(f)
	if e != api.OK {
		t.Fatalf("Best of %v: %v", f, e)
	}
	return plan, sure
}

func leave(t *testing.T, f crop.Field) []int {
	t.Helper()
	l, e := crop.Leave(f)
	if e != api.OK {
		t.Fatalf("Leave of %v: %v", f, e)
	}
	return l
}

// together is the worth of crops.
func together(crops []crop.Crop) int {
	sum := 0
	for _, c := range crops {
		sum += c.Worth
	}
	return sum
}

func rangeInside(narrow, wide crop.Range) bool { return narrow.Lo >= wide.Lo && narrow.Hi <= wide.Hi }

// inside reports whether nothing of the plan, nor of the field, is bounded more
// widely in the narrow field than in the wide one.
func inside(t *testing.T, narrow, wide crop.Field, plan []int) bool {
	t.Helper()
	b := bounds(t, wide, plan)
	for i, a := range bounds(t, narrow, plan) {
		if !rangeInside(a.Weight, b[i].Weight) || !rangeInside(a.Worth, b[i].Worth) {
			return false
		}
	}
	for week := range narrow.Last + 1 {
		if !rangeInside(standing(t, narrow, week), standing(t, wide, week)) {
			return false
		}
	}
	return rangeInside(worth(t, narrow, plan), worth(t, wide, plan))
}

func copied(y crop.Truth) crop.Truth {
	return crop.Truth{Growth: slices.Clone(y.Growth), Wet: slices.Clone(y.Wet)}
}

// reached finds out whether both ends of a range are reached.
type reached struct{ low, high bool }

func (a *reached) see(n int, r crop.Range) bool {
	a.low, a.high = a.low || n == r.Lo, a.high || n == r.Hi
	return within(n, r)
}

// P2.6
func TestInEachTruth(t *testing.T) {
	r := rand.New(rand.NewPCG(6, 6))
	for _, f := range append(bigFields(), example(), example(isLook())) {
		plan := randomPlan(r, f)
		b, w := bounds(t, f, plan), worth(t, f, plan)
		ends := make([]reached, 2*len(plan)+1)
		fields := make([]reached, f.Last+1)
		var weights []crop.Range
		for week := range f.Last + 1 {
			weights = append(weights, standing(t, f, week))
		}
		for _, y := range truthsOf(f) {
			crops := play(t, f, y, plan)
			good := ends[2*len(plan)].see(together(crops), w) && crop.ProveTruth(f, y)
			for i, c := range crops {
				good = ends[2*i].see(c.Weight, b[i].Weight) && ends[2*i+1].see(c.Worth, b[i].Worth) && good && c.Strength == b[i].Strength
			}
			for week := range fields {
				good = fields[week].see(onField(y, f.Crops, week), weights[week]) && good
			}
			if !good {
				t.Fatalf("%v by %v: %v and %v, but %v in %v", f, plan, b, w, crops, y)
			}
		}
		if i := slices.IndexFunc(append(ends, fields...), func(a reached) bool { return !a.low || !a.high }); i >= 0 {
			t.Fatalf("%v by %v: %v and %v: an end is not reached (%d)", f, plan, b, w, i)
		}
		if l := leave(t, f); len(l) > 0 {
			t.Fatalf("Leave of %v: %v", f, l)
		}
	}
}

// P2.7
func TestNothingIsMade(t *testing.T) {
	for r, f := range randomFields(300, 0) {
		plan := randomPlan(r, f)
		for _, y := range anyTruths(f) {
			weight, grown := 0, 0
			for _, c := range play(t, f, y, plan) {
				weight += c.Weight
			}
			if len(plan) > 0 {
				for _, n := range y.Growth[:plan[len(plan)-1]+1] {
					grown += n
				}
			}
			if weight > grown || !slices.Contains(y.Wet, 1) && weight != grown {
				t.Fatalf("%v, %v by %v: %d of %d", f, y, plan, weight, grown)
			}
		}
	}
}

// P2.8
func TestWeaker(t *testing.T) {
	for r, f := range randomFields(300, 2) {
		plan := randomPlan(r, f)
		if !isRight(f) {
			continue
		}
		for i, b := range bounds(t, f, plan) {
			if b.Strength > f.Base[0] || b.Strength > f.Base[i] || b.Strength < 0 {
				t.Fatalf("Bounds of %v, %v: %v in %d", f, plan, b, i)
			}
		}
		if len(plan) == 0 {
			continue
		}
		less := plan[:len(plan)-1]
		a, b := worth(t, f, less), worth(t, f, plan)
		if b.Lo < a.Lo || b.Hi < a.Hi {
			t.Fatalf("Worth of %v: %v of %v, %v of %v", f, a, less, b, plan)
		}
		for _, y := range truthsOf(f) {
			if together(play(t, f, y, less)) > together(play(t, f, y, plan)) {
				t.Fatalf("Play of %v, %v: %v is worth more than %v", f, y, less, plan)
			}
		}
	}
}

// P2.9
func TestNoneIsBetter(t *testing.T) {
	for _, f := range append(bigFields(), example(), example(isLook())) {
		plan, sure := best(t, f)
		if !crop.ProveWorth(f, plan, sure) || worth(t, f, plan).Lo != sure {
			t.Fatalf("Best of %v: %v, %d", f, plan, sure)
		}
		for _, y := range truthsOf(f) {
			if together(play(t, f, y, plan)) < sure {
				t.Fatalf("Best of %v: %v, %d, but %v", f, plan, sure, y)
			}
		}
		for _, other := range plansOf(f) {
			before := slices.Compare(other, plan) < 0
			if crop.ProveWorth(f, other, sure+1) || before && crop.ProveWorth(f, other, sure) {
				t.Fatalf("Best of %v: %v, %d, not %v", f, plan, sure, other)
			}
		}
	}
}

// P2.10
func TestMore(t *testing.T) {
	for r, f := range randomFields(400, 0) {
		truths := anyTruths(f)
		y, plan, week := truths[r.IntN(len(truths))], randomPlan(r, f), r.IntN(f.Last+1)
		more := f
		more.Growth, more.Wet = slices.Clone(f.Growth), slices.Clone(f.Wet)
		more.Growth[week].Hi++
		if crop.CheckField(more) != api.OK {
			continue
		}
		z := copied(y)
		z.Growth[week]++
		before, after := play(t, f, y, plan), play(t, more, z, plan)
		for i := range before {
			if after[i].Weight < before[i].Weight {
				t.Fatalf("%v by %v: %v, but %v in %v with more in the week %d", f, plan, before, after, y, week)
			}
		}
		if together(after) < together(before) {
			t.Fatalf("%v by %v: worth less with more in the week %d", f, plan, week)
		}
		more = f
		more.Growth = slices.Clone(f.Growth)
		more.Growth[week] = to(f.Growth[week].Lo+1, f.Growth[week].Hi+1)
		if a, b := worth(t, f, plan), worth(t, more, plan); b.Lo < a.Lo || b.Hi < a.Hi {
			t.Fatalf("%v by %v: %v, but %v with more in the week %d", f, plan, a, b, week)
		}
	}
}

// P2.10
func TestDry(t *testing.T) {
	for r, f := range randomFields(300, 0) {
		plan, week := randomPlan(r, f), r.IntN(f.Last+1)
		damp, dry := f, f
		damp.Wet, dry.Wet = slices.Clone(f.Wet), slices.Clone(f.Wet)
		damp.Wet[week], dry.Wet[week] = 1, 0
		for _, y := range anyTruths(damp) {
			z := copied(y)
			z.Wet[week] = 0
			before, after := play(t, damp, y, plan), play(t, dry, z, plan)
			for i := range before {
				if after[i].Weight < before[i].Weight {
					t.Fatalf("%v by %v: %v, but %v if the week %d is dry", damp, plan, before, after, week)
				}
			}
		}
	}
}

// P2.11
func TestOneMoreLook(t *testing.T) {
	for r, f := range randomFields(400, 4) {
		truths := anyTruths(f)
		g := with(f, randomLook(r, f, truths[r.IntN(len(truths))]))
		if d := len(leave(t, g)) - len(leave(t, f)); d < 0 || d > 1 {
			t.Fatalf("Leave of %v and of %v: %d more", f, g, d)
		}
		if !isRight(g) {
			continue
		}
		if plan := randomPlan(r, f); !inside(t, g, f, plan) {
			t.Fatalf("%v by %v is wider than %v", g, plan, f)
		}
		for _, plan := range plansOf(f) {
			if worth(t, g, plan).Lo < worth(t, f, plan).Lo {
				t.Fatalf("%v by %v is worth less than %v", g, plan, f)
			}
		}
	}
}

func widen(r *rand.Rand, x crop.Range, limit int) crop.Range {
	return to(max(0, x.Lo-r.IntN(2)), min(limit, x.Hi+r.IntN(2)))
}

// P2.12
func TestWider(t *testing.T) {
	compared := 0
	for r, f := range randomFields(400, 5) {
		g := f
		g.Growth, g.Wet, g.Looks = slices.Clone(f.Growth), slices.Clone(f.Wet), slices.Clone(f.Looks)
		for i := range g.Looks {
			g.Looks[i].Weight = widen(r, g.Looks[i].Weight, api.MaxCropWeight)
		}
		week := r.IntN(f.Last + 1)
		g.Growth[week] = widen(r, g.Growth[week], api.MaxCropGrowth)
		if r.IntN(2) == 0 {
			g.Wet[r.IntN(f.Last+1)] = 2
		}
		if len(leave(t, g)) > len(leave(t, f)) {
			t.Fatalf("Leave of %v: more than of %v", g, f)
		}
		if !isRight(f) {
			continue
		}
		compared++
		for _, plan := range plansOf(f) {
			if !inside(t, f, g, plan) {
				t.Fatalf("%v by %v is narrower than %v", g, plan, f)
			}
		}
		_, before := best(t, f)
		if _, after := best(t, g); after > before {
			t.Fatalf("Best of %v: %d, but %d of %v", f, before, after, g)
		}
	}
	if compared < 100 {
		t.Errorf("only %d of the fields have a truth", compared)
	}
}

// P2.13
func TestFirst(t *testing.T) {
	for _, f := range randomFields(500, 5) {
		n, e := crop.First(f)
		if e == api.ErrNone {
			best(t, f)
			continue
		}
		if e != api.OK || n < 0 || n >= len(f.Looks) {
			t.Fatalf("First of %v: %d, %v", f, n, e)
		}
		g := f
		g.Looks = f.Looks[:n]
		best(t, g)
		g.Looks = f.Looks[:n+1]
		if _, e := crop.Worth(g, nil); e != api.ErrFalse {
			t.Fatalf("First of %v: %d, but Worth: %v", f, n, e)
		}
	}
}

// P2.14
func TestLeftOut(t *testing.T) {
	for _, f := range randomFields(500, 5) {
		smallest := leave(t, f)
		worth(t, without(f, smallest), nil)
		for _, l := range oracle.ShortestFirst(len(f.Looks)) {
			if slices.Equal(l, smallest) {
				break
			}
			if _, e := crop.Worth(without(f, l), nil); e != api.ErrFalse {
				t.Fatalf("Leave of %v: %v, not %v", f, smallest, l)
			}
		}
	}
}

// P2.15: all is changed but what is after the crop before, up to the crop.
func TestApart(t *testing.T) {
	for r, f := range randomFields(400, 0) {
		plan := randomPlan(r, f)
		if len(plan) == 0 {
			continue
		}
		f.Growth, f.Wet = slices.Repeat([]crop.Range{to(3, 4)}, f.Last+1), slices.Repeat(list(2), f.Last+1)
		y := crop.Truth{Growth: make([]int, f.Last+1), Wet: make([]int, f.Last+1)}
		for week := range y.Growth {
			y.Growth[week], y.Wet[week] = 3+r.IntN(2), r.IntN(2)
		}
		if crop.CheckField(f) != api.OK {
			continue
		}
		i := r.IntN(len(plan))
		before := -1
		if i > 0 {
			before = plan[i-1]
		}
		z := copied(y)
		for week := range z.Growth {
			if week <= before || week > plan[i] {
				z.Growth[week], z.Wet[week] = 3+r.IntN(2), r.IntN(2)
			}
		}
		crops := play(t, f, y, plan)
		if other := play(t, f, z, plan); other[i] != crops[i] {
			t.Fatalf("%v by %v: the crop %d is %v in %v, but %v in %v", f, plan, i, crops[i], y, other[i], z)
		}
		// The crops after it are not made, and those before the one before come at once.
		earlier := slices.Clone(plan[:i+1])
		for k := range max(0, i-1) {
			earlier[k] = k
		}
		if other := play(t, f, z, earlier); other[i] != crops[i] {
			t.Fatalf("%v: the crop %d is %v by %v, but %v by %v", f, i, crops[i], plan, other[i], earlier)
		}
	}
}

// P7: looks in another order.
func TestAnyOrder(t *testing.T) {
	for r, f := range randomFields(300, 5) {
		g := f
		g.Looks = slices.Clone(f.Looks)
		r.Shuffle(len(g.Looks), func(i, j int) { g.Looks[i], g.Looks[j] = g.Looks[j], g.Looks[i] })
		if len(leave(t, f)) != len(leave(t, g)) {
			t.Fatalf("Leave of %v and of %v", f, g)
		}
		if !isRight(f) {
			continue
		}
		plan, sure := best(t, f)
		if again, as := best(t, g); !slices.Equal(plan, again) || sure != as || !inside(t, f, g, plan) || !inside(t, g, f, plan) {
			t.Fatalf("%v and %v", f, g)
		}
	}
}

// Looks were made with the field's own Crops, whatever plan is asked about.
func TestLooksByOwnCrops(t *testing.T) {
	f := weeks(to(1, 9), to(1, 9))
	f.Crops, f.Looks = list(0), []crop.Look{look(1, 4, 4)}
	if r := worth(t, f, list(1)); r != to(5, 13) {
		t.Errorf("Worth of one crop at the end: %v", r)
	}
	f.Crops = nil
	if r := worth(t, f, list(1)); r != to(4, 4) {
		t.Errorf("Worth of what was looked at: %v", r)
	}
	f.Base, f.Ripe = list(1, 1), 2
	if l := bounds(t, f, list(0, 1)); l[0].Weight != to(1, 3) || l[1].Weight != to(1, 3) {
		t.Errorf("Bounds of two crops: %v", l)
	}
	if r := standing(t, f, 0); r != to(1, 3) {
		t.Errorf("Standing: %v", r)
	}
}

// P1: whatever the arguments are, each call returns.
func TestNoPanic(t *testing.T) {
	odd := []int{math.MinInt, -2, -1, 0, 0, 1, 1, 2, 3, 10, 50, 201, math.MaxInt}
	r := rand.New(rand.NewPCG(1, 1))
	pick := func() int { return odd[r.IntN(len(odd))] }
	some := func() []int {
		l := make([]int, r.IntN(4))
		for i := range l {
			l[i] = pick()
		}
		return l
	}
	for range 20000 {
		f := crop.Field{Last: pick(), Wet: some(), Base: some(), Crops: some(), Ripe: pick(), Late: pick(), Trod: pick()}
		for range r.IntN(4) {
			f.Growth = append(f.Growth, to(pick(), pick()))
		}
		for range r.IntN(3) {
			f.Looks = append(f.Looks, look(pick(), pick(), pick()))
		}
		if r.IntN(2) == 0 { // a valid field, with whatever else
			f = example(f.Looks...)
		}
		y, plan := crop.Truth{Growth: some(), Wet: some()}, some()
		if _, zero := calls(f, y, plan, pick()); !zero {
			t.Fatalf("%v, %v, %v: a result together with an error", f, y, plan)
		}
		crop.ProveTruth(f, y)
		crop.ProveWorth(f, plan, pick())
	}
}

// R3, R4: arguments stay as they are, and results are new.
func TestMemory(t *testing.T) {
	f, y, plan := example(isLook(), look(2, 24, 26)), truth(0), list(2, 4)
	for range 2 {
		crops, around := play(t, f, y, plan), bounds(t, f, plan)
		worst, _ := crop.Worst(f, plan)
		sure, _ := best(t, f)
		left := leave(t, example(isLook(), isFalse()))
		if crops[0].Weight != 24 || around[0].Weight != to(25, 25) || worst.Growth[0] != 11 || worst.Wet[3] != 1 || !slices.Equal(sure, plan) || !slices.Equal(left, list(0)) {
			t.Fatalf("%v, %v, %v, %v, %v", crops, around, worst, sure, left)
		}
		worst.Growth = append(worst.Growth, 99)
		if worst.Wet[0] != 0 {
			t.Fatal("Growth and Wet share memory")
		}
		crops[0], around[0], worst.Growth[0], worst.Wet[3], sure[0], left[0] = crop.Crop{}, crop.Bound{}, 9, 9, 9, 9
		if !crop.ProveTruth(example(), y) || !crop.ProveWorth(f, plan, 490) {
			t.Fatal("what was proved is not proved again")
		}
	}
	if g := example(isLook(), look(2, 24, 26)); !slices.Equal(f.Growth, g.Growth) || !slices.Equal(f.Wet, g.Wet) || !slices.Equal(f.Base, g.Base) || !slices.Equal(f.Looks, g.Looks) {
		t.Error("the field was changed")
	}
	if !slices.Equal(y.Growth, truth(0).Growth) || !slices.Equal(y.Wet, truth(0).Wet) || !slices.Equal(plan, list(2, 4)) {
		t.Error("a truth or a plan was changed")
	}
	g := example()
	g.Looks, g.Crops = []crop.Look{}, list()
	if worth(t, g, list()) != worth(t, example(), nil) || len(leave(t, g)) > 0 || len(bounds(t, g, list())) > 0 {
		t.Error("nothing, and an empty list")
	}
}
