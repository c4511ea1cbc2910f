package piece_test

import (
	"math"
	"math/rand/v2"
	"slices"
	"testing"

	"isatis/api"
	"isatis/oracle"
	"isatis/piece"
	"isatis/vat"
)

func play(t *testing.T, j piece.Job, steps []piece.Step, y vat.Truth) []int {
	t.Helper()
	l, e := piece.Play(j, steps, y)
	if e != api.OK || len(l) != len(j.Pieces) {
		t.Fatalf("Play of %v, %v, %v: %v, %v", j, steps, y, l, e)
	}
	return l
}

func right(t *testing.T, j piece.Job, steps []piece.Step, one int) int {
	t.Helper()
	kind, e := piece.Right(j, steps, one)
	if e != api.OK {
		t.Fatalf("Right of %v, %v, %d: %v", j, steps, one, e)
	}
	return kind
}

func match(t *testing.T, j piece.Job, steps []piece.Step, one, other int) int {
	t.Helper()
	kind, e := piece.Match(j, steps, one, other)
	if e != api.OK {
		t.Fatalf("Match of %v, %v, %d, %d: %v", j, steps, one, other, e)
	}
	return kind
}

func old(t *testing.T, j piece.Job, steps []piece.Step, one int) int {
	t.Helper()
	kind, e := piece.Old(j, steps, one)
	if e != api.OK {
		t.Fatalf("Old of %v, %v, %d: %v", j, steps, one, e)
	}
	return kind
}

// verdicts are all those of the plan.
func verdicts(t *testing.T, j piece.Job, steps []piece.Step) (kinds []int) {
	t.Helper()
	for one := range j.Pieces {
		kinds = append(kinds, right(t, j, steps, one), old(t, j, steps, one))
		for other := range j.Pieces {
			kinds = append(kinds, match(t, j, steps, one, other))
		}
	}
	return kinds
}

// best is the fewest dips; more than there may be, if no plan has them.
func best(t *testing.T, j piece.Job) ([]piece.Step, int) {
	t.Helper()
	l, dips, e := piece.Best(j)
	if e == api.ErrShort {
		return nil, 21
	}
	if e != api.OK || dipsOf(l) != dips || !piece.ProvePlan(j, l, dips) {
		t.Fatalf("Best of %v: %v, %d, %v", j, l, dips, e)
	}
	return l, dips
}

func most(t *testing.T, j piece.Job, dips int) int {
	t.Helper()
	l, many, e := piece.Most(j, dips)
	if e != api.OK || !piece.ProveMost(j, l, dips, many) {
		t.Fatalf("Most of %v with %d: %v, %d, %v", j, dips, l, many, e)
	}
	return many
}

func hopeless(t *testing.T, j piece.Job) []int {
	t.Helper()
	l, e := piece.Hopeless(j)
	if e != api.OK || !slices.IsSorted(l) {
		t.Fatalf("Hopeless of %v: %v, %v", j, l, e)
	}
	return l
}

// follows reports whether something is so in a truth as the verdict says.
func follows(kind int, is bool) bool {
	return kind == piece.Always && is || kind == piece.Never && !is || kind == piece.Perhaps
}

// P7.7
func TestInEachTruth(t *testing.T) {
	planned := 0
	for _, j := range append(jobs(300, 4), bigJobs()...) {
		r := rand.New(rand.NewPCG(7, uint64(j.Eye)))
		steps, other := randomPlan(r, j), 0
		sure, dips := best(t, j)
		if dips < 21 {
			planned++
		}
		var rights, matches, olds []int
		for one := range j.Pieces {
			rights, matches, olds = append(rights, right(t, j, steps, one)), append(matches, match(t, j, steps, one, other)), append(olds, old(t, j, steps, one))
		}
		for _, y := range truthsOf(j.Vat) {
			shades, planned := play(t, j, steps, y), play(t, j, sure, y)
			for one, n := range shades {
				if !follows(rights[one], isIn(n, j.Pieces[one])) || !follows(matches[one], isNear(n, shades[other], j.Eye)) ||
					!follows(olds[one], isNear(n, j.Old.Lo, j.Eye)) || !follows(olds[one], isNear(n, j.Old.Hi, j.Eye)) {
					t.Fatalf("Right, Match, Old of %v, %v: %v, %v, %v, but %v", j, steps, rights, matches, olds, shades)
				}
				if dips < 21 && !isIn(planned[one], j.Pieces[one]) {
					t.Fatalf("Best of %v: %v, but %v in %v", j, sure, planned, y)
				}
			}
		}
	}
	if planned < 50 {
		t.Errorf("only %d jobs have a plan", planned)
	}
}

// P7.8: any plan is tried by the calls themselves.
func TestNoFewer(t *testing.T) {
	for _, j := range jobs(40, 2) {
		_, fewest := best(t, j)
		var many [21]int
		for dips := range 21 {
			many[dips] = most(t, j, dips)
		}
		for steps := range anyPlans(len(j.Pieces), 20) {
			dips := dipsOf(steps)
			if dips < fewest && piece.ProvePlan(j, steps, dips) {
				t.Fatalf("Best of %v: %d, but %v", j, fewest, steps)
			}
			if piece.ProveMost(j, steps, dips, many[dips]+1) {
				t.Fatalf("Most of %v with %d: %d, but %v", j, dips, many[dips], steps)
			}
		}
	}
}

// P7.8: Best and Most tell the same.
func TestBestByMost(t *testing.T) {
	planned, short := 0, 0
	for _, j := range append(jobs(400, 4), bigJobs()...) {
		_, fewest := best(t, j)
		if all := most(t, j, 20) == len(j.Pieces); all != (fewest < 21) {
			t.Fatalf("Best of %v: %d; Most with 20: all is %v", j, fewest, all)
		}
		if fewest == 21 {
			short++
			continue
		}
		if most(t, j, fewest) != len(j.Pieces) || fewest > 0 && most(t, j, fewest-1) == len(j.Pieces) {
			t.Fatalf("Best of %v: %d, but not by Most", j, fewest)
		}
		if fewest > 0 {
			planned++
		}
	}
	if planned < 50 || short < 50 {
		t.Errorf("%d jobs have a plan, %d have none", planned, short)
	}
}

// P7.9
func TestAllTogether(t *testing.T) {
	for r, j := range randomJobs(400, 4) {
		steps := randomPlan(r, j)
		all, e := vat.Shade(j.Vat, j.Day, dipsOf(steps))
		if e != api.OK {
			t.Fatalf("Shade of %v: %v", j, e)
		}
		for _, y := range truthsOf(j.Vat) {
			n := oracle.Sum(play(t, j, steps, y))
			if n != oracle.Sum(shadesOf(j, y, dipsOf(steps))) || n < all.Lo || n > all.Hi {
				t.Fatalf("Play of %v, %v, %v: %d together; %v", j, steps, y, n, all)
			}
		}
	}
}

// P7.10
func TestLater(t *testing.T) {
	less, more := 0, 0
	for r, j := range randomJobs(400, 0) {
		j.Pieces = make([]piece.Range, 2)
		before, dips := r.IntN(10), r.IntN(10)
		for _, y := range anyTruths(j.Vat) {
			n := play(t, j, plan(0, before, 1, dips), y)[1]
			later := play(t, j, plan(0, before+1, 1, dips), y)[1]
			longer := play(t, j, plan(0, before, 1, dips+1), y)[1]
			if later > n || longer < n {
				t.Fatalf("Play of %v, %v, %d, %d: %d; later %d, longer %d", j, y, before, dips, n, later, longer)
			}
			if later < n {
				less++
			}
			if longer > n {
				more++
			}
		}
	}
	if less < 100 || more < 100 {
		t.Errorf("%d are less later, %d more if longer", less, more)
	}
}

// P7.11
func TestMatching(t *testing.T) {
	differ := 0
	for r, j := range randomJobs(300, 4) {
		steps := randomPlan(r, j)
		wide := j
		wide.Eye = min(9999, j.Eye+1+r.IntN(6))
		for one := range j.Pieces {
			if match(t, j, steps, one, one) != piece.Always {
				t.Fatalf("Match of %v, %v: %d does not match itself", j, steps, one)
			}
			for other := range j.Pieces {
				if match(t, j, steps, one, other) != match(t, j, steps, other, one) {
					t.Fatalf("Match of %v, %v, %d, %d, and the other way round", j, steps, one, other)
				}
			}
		}
		after := verdicts(t, wide, steps)
		for i, kind := range verdicts(t, j, steps) {
			if kind == piece.Always && after[i] != piece.Always || kind != piece.Never && after[i] == piece.Never {
				t.Fatalf("Match or Old of %v, %v: %d; %d with the eye %d", j, steps, kind, after[i], wide.Eye)
			}
			if kind != after[i] {
				differ++
			}
		}
	}
	if differ < 50 {
		t.Errorf("only %d differ", differ)
	}
}

// P7.12: a wider range of a piece.
func TestWider(t *testing.T) {
	fewer, saved, sure := 0, 0, 0
	for r, j := range randomJobs(500, 4) {
		if len(j.Pieces) == 0 {
			continue
		}
		wide, at, steps := j, r.IntN(len(j.Pieces)), randomPlan(r, j)
		wide.Pieces = slices.Clone(j.Pieces)
		wide.Pieces[at] = to(max(0, j.Pieces[at].Lo-r.IntN(12)), min(9999, j.Pieces[at].Hi+r.IntN(12)))
		_, a := best(t, j)
		_, b := best(t, wide)
		if b > a {
			t.Fatalf("Best of %v: %d; %d with %v", j, a, b, wide.Pieces)
		}
		if b < a {
			fewer++
		}
		before, after := hopeless(t, j), hopeless(t, wide)
		if slices.ContainsFunc(after, func(one int) bool { return !slices.Contains(before, one) }) {
			t.Fatalf("Hopeless of %v: %v; %v with %v", j, before, after, wide.Pieces)
		}
		saved += len(before) - len(after)
		if right(t, j, steps, at) == piece.Always {
			sure++
			if right(t, wide, steps, at) != piece.Always {
				t.Fatalf("Right of %v, %v, %d: always, but not with %v", j, steps, at, wide.Pieces)
			}
		}
	}
	if fewer < 20 || saved < 5 || sure < 50 {
		t.Errorf("%d jobs need fewer dips, %d pieces are not hopeless any more, %d are right always", fewer, saved, sure)
	}
}

// P7.12: one more look of the vat.
func TestOneMoreLook(t *testing.T) {
	fewer, surer := 0, 0
	for r, j := range randomJobs(500, 4) {
		truths, steps := truthsOf(j.Vat), randomPlan(r, j)
		y := truths[r.IntN(len(truths))]
		for one := range j.Pieces { // pieces that can be right in the truth
			before, dips := r.IntN(4), 1+r.IntN(4)
			n := oracle.Sum(shadesOf(j, y, before+dips)[before:])
			j.Pieces[one] = to(n, n+r.IntN(3))
		}
		g := with(j, randomLook(r, j.Vat, y))
		_, a := best(t, j)
		_, b := best(t, g)
		if b > a {
			t.Fatalf("Best of %v: %d; %d with the looks %v", j, a, b, g.Vat.Looks)
		}
		if b < a {
			fewer++
		}
		after := verdicts(t, g, steps)
		for i, kind := range verdicts(t, j, steps) {
			if kind != piece.Perhaps && after[i] != kind {
				t.Fatalf("verdicts of %v, %v: %d; %d with the looks %v", j, steps, kind, after[i], g.Vat.Looks)
			}
			if kind != after[i] {
				surer++
			}
		}
	}
	if fewer < 10 || surer < 50 {
		t.Errorf("%d jobs need fewer dips, %d verdicts are surer", fewer, surer)
	}
}

// P7.13
func TestHopeless(t *testing.T) {
	many := 0
	for _, j := range jobs(300, 4) {
		none := hopeless(t, j)
		if _, dips := best(t, j); len(none) > 0 && dips < 21 {
			t.Fatalf("Hopeless of %v: %v, but Best: %d", j, none, dips)
		}
		many += len(none)
		for one := range j.Pieces {
			for before := range 21 {
				if n, e := piece.Dips(j, one, before); e == api.OK && slices.Contains(none, one) {
					t.Fatalf("Hopeless of %v: %v, but Dips of %d after %d: %d", j, none, one, before, n)
				}
			}
		}
	}
	if many < 30 {
		t.Errorf("only %d pieces are hopeless", many)
	}
}

// P7.14
func TestMoreDips(t *testing.T) {
	for _, j := range append(jobs(200, 4), bigJobs()...) {
		last := 0
		for dips := range 21 {
			many := most(t, j, dips)
			if many < last {
				t.Fatalf("Most of %v with %d: %d, after %d", j, dips, many, last)
			}
			last = many
		}
	}
}

// P7: looks in another order.
func TestAnyOrder(t *testing.T) {
	for r, j := range randomJobs(200, 4) {
		steps, truths := randomPlan(r, j), truthsOf(j.Vat)
		for range r.IntN(3) {
			j = with(j, randomLook(r, j.Vat, truths[0]))
		}
		if len(truthsOf(j.Vat)) == 0 {
			continue
		}
		g := j
		g.Vat.Looks = slices.Clone(j.Vat.Looks)
		slices.Reverse(g.Vat.Looks)
		a, m := best(t, j)
		b, n := best(t, g)
		if !slices.Equal(a, b) || m != n || most(t, j, 5) != most(t, g, 5) || !slices.Equal(hopeless(t, j), hopeless(t, g)) ||
			!slices.Equal(verdicts(t, j, steps), verdicts(t, g, steps)) {
			t.Fatalf("%v and %v", j, g)
		}
	}
}

// Rules: a call with equal arguments returns equal results, also where a choice
// is left to it.
func TestAgain(t *testing.T) {
	for _, j := range append(bigJobs(), example(), of(to(0, 9999), to(0, 50), to(10, 20))) {
		a, n := best(t, j)
		b, many, _ := piece.Most(j, 7)
		for range 5 {
			c, m := best(t, j)
			d, others, _ := piece.Most(j, 7)
			if !slices.Equal(a, c) || n != m || !slices.Equal(b, d) || many != others {
				t.Fatalf("Best or Most of %v", j)
			}
		}
	}
}

// P1: whatever the arguments are, each call returns.
func TestNoPanic(t *testing.T) {
	odd := []int{math.MinInt, -10, -1, 0, 0, 0, 1, 1, 2, 2, 3, 4, 5, 9, 18, 20, 21, 100, 9999, 10000, math.MaxInt}
	r := rand.New(rand.NewPCG(1, 7))
	pick := func() int { return odd[r.IntN(len(odd))] }
	some := func() []int {
		l := make([]int, r.IntN(6))
		for i := range l {
			l[i] = pick()
		}
		return l
	}
	ranges := func(l []piece.Range) []piece.Range {
		for range r.IntN(4) {
			l = append(l, to(pick(), pick()))
		}
		return l
	}
	for range 5000 {
		j := piece.Job{Day: pick(), Pieces: ranges(nil), Eye: pick(), Old: to(pick(), pick())}
		j.Vat = vat.Vat{Last: pick(), Band: pick(), Gain: pick(), Take: pick(), Dips: some(), Drift: make([]vat.Range, r.IntN(5)), Feeds: make([]vat.Feed, r.IntN(5))}
		if r.IntN(4) > 0 {
			j.Vat = exampleVat()
		}
		if r.IntN(2) == 0 { // a valid job, with whatever else
			j = example()
		}
		a := asked{truth: vat.Truth{Start: pick(), Blue: pick(), Drift: some()}, one: pick(), other: pick(), before: pick(), dips: pick(), many: pick()}
		for range r.IntN(5) {
			a.plan = append(a.plan, piece.Step{Piece: pick(), Dips: pick()})
		}
		if r.IntN(2) == 0 {
			a.plan, a.truth = examplePlan(), lowest()
		}
		if _, zero := calls(j, a); !zero {
			t.Fatalf("%v, %v: a result together with an error", j, a)
		}
		proves(j, a)
	}
}

// R3, R4: arguments stay as they are, and results are new.
func TestMemory(t *testing.T) {
	j, steps, y := of(append(example().Pieces, to(91, 99))...), examplePlan(), lowest()
	for range 2 {
		l, none := play(t, j, steps, y), hopeless(t, j)
		all, _ := best(t, example())
		some, many, _ := piece.Most(j, 6)
		if !slices.Equal(l, list(18, 31, 16, 0)) || !slices.Equal(none, list(3)) || !piece.ProvePlan(example(), all, 9) || !piece.ProveMost(j, some, 6, many) || many != 2 {
			t.Fatalf("%v, %v, %v, %v, %d", l, none, all, some, many)
		}
		l[0], none[0], all[0], some[0] = 99, 99, piece.Step{}, piece.Step{}
		if !piece.ProvePlan(example(), steps, 9) {
			t.Fatal("what was proved is not proved again")
		}
	}
	g := example()
	if !slices.Equal(j.Pieces[:3], g.Pieces) || !slices.Equal(j.Vat.Drift, g.Vat.Drift) || !slices.Equal(j.Vat.Dips, g.Vat.Dips) {
		t.Error("the job was changed")
	}
	if !slices.Equal(steps, examplePlan()) || !slices.Equal(y.Drift, lowest().Drift) {
		t.Error("a plan or a truth was changed")
	}
	e, none := of([]piece.Range{}...), []piece.Step{}
	if l, dips := best(t, e); len(l) != 0 || dips != 0 || len(hopeless(t, e)) != 0 || len(play(t, e, none, y)) != 0 || !piece.ProvePlan(e, none, 0) {
		t.Error("nothing, and an empty list")
	}
}
