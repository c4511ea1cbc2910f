package piece_test

import (
	"math"
	"slices"
	"testing"

	"isatis/api"
	"isatis/piece"
	"isatis/vat"
)

func to(low, high int) piece.Range { return piece.Range{Lo: low, Hi: high} }

func list(l ...int) []int { return l }

func truth(start, blue int, drift ...int) vat.Truth {
	return vat.Truth{Start: start, Blue: blue, Drift: drift}
}

// plan has pieces and dips.
func plan(l ...int) (steps []piece.Step) {
	for i := 0; i < len(l); i += 2 {
		steps = append(steps, piece.Step{Piece: l[i], Dips: l[i+1]})
	}
	return steps
}

// exampleVat is that of the examples of layer 6, with looks.
func exampleVat(looks ...vat.Look) vat.Vat {
	return vat.Vat{
		Last: 3, Band: 4, Start: vat.Range{Lo: 0, Hi: 2}, Blue: vat.Range{Lo: 100, Hi: 100}, Gain: 10, Take: 5,
		Drift: []vat.Range{{Lo: 1, Hi: 2}, {Lo: 1, Hi: 1}, {Lo: 2, Hi: 3}, {}},
		Feeds: []vat.Feed{{}, {Bran: 2}, {Madder: 1}, {}}, Dips: list(1, 1, 1, 1), Looks: looks,
	}
}

func lowest() vat.Truth  { return truth(0, 100, 1, 1, 2, 0) }
func highest() vat.Truth { return truth(2, 100, 2, 1, 3, 0) }

// isHigh and isLow are looks that contradict each other.
func isHigh() vat.Look {
	return vat.Look{Day: 0, Balance: true, Number: vat.Range{Lo: 4, Hi: 9}}
}

func isLow() vat.Look {
	return vat.Look{Day: 3, Balance: true, Number: vat.Range{Lo: 2, Hi: 3}}
}

// example is the job of the chapter's examples.
func example() piece.Job {
	return piece.Job{Vat: exampleVat(), Pieces: []piece.Range{to(18, 18), to(30, 34), to(16, 17)}, Eye: 2, Old: to(20, 21)}
}

// of is the job of the examples with these pieces instead of its own.
func of(pieces ...piece.Range) piece.Job {
	j := example()
	j.Pieces = pieces
	return j
}

// onDay is the job of the examples on a day with these pieces: on the day 2 the
// vat is in order perhaps, and the shades are 9, 9, 8, 8, or 4, 4, 4, 4.
func onDay(day int, pieces ...piece.Range) piece.Job {
	j := of(pieces...)
	j.Day = day
	return j
}

// steady is a job of whose vat nothing is taken: each shade is 10.
func steady(pieces ...piece.Range) piece.Job {
	j := of(pieces...)
	j.Vat.Take = 0
	return j
}

// examplePlan is that of the chapter's examples.
func examplePlan() []piece.Step { return plan(0, 2, 2, 2, 1, 5) }

// asked is what calls ask about besides the job.
type asked struct {
	plan               []piece.Step
	truth              vat.Truth
	one, other, before int
	dips, many         int
}

// plain is asked of the example.
func plain() asked {
	return asked{plan: examplePlan(), truth: lowest(), one: 1, other: 2, before: 2, dips: 9, many: 3}
}

// calls are the errors of all calls with the job, and whether each of them
// returns nothing else together with its error.
func calls(j piece.Job, a asked) (map[string]api.Errno, bool) {
	play, e1 := piece.Play(j, a.plan, a.truth)
	dips, e2 := piece.Dips(j, a.one, a.before)
	right, e3 := piece.Right(j, a.plan, a.one)
	match, e4 := piece.Match(j, a.plan, a.one, a.other)
	old, e5 := piece.Old(j, a.plan, a.one)
	best, fewest, e6 := piece.Best(j)
	most, many, e7 := piece.Most(j, a.dips)
	hopeless, e8 := piece.Hopeless(j)
	zero := (e1 == 0 || play == nil) && (e2 == 0 || dips == 0) && (e3 == 0 || right == 0) && (e4 == 0 || match == 0) && (e5 == 0 || old == 0) &&
		(e6 == 0 || best == nil && fewest == 0) && (e7 == 0 || most == nil && many == 0) && (e8 == 0 || hopeless == nil)
	return map[string]api.Errno{
		"Play": e1, "Dips": e2, "Right": e3, "Match": e4, "Old": e5, "Best": e6, "Most": e7, "Hopeless": e8,
	}, zero
}

// proves reports whether some call proves what is asked.
func proves(j piece.Job, a asked) bool {
	return piece.ProvePlan(j, a.plan, a.dips) || piece.ProveMost(j, a.plan, a.dips, a.many)
}

type change struct {
	name string
	make func(j *piece.Job)
	want api.Errno
}

func vatChanges() []change {
	return []change{
		{"as it is", func(j *piece.Job) {}, api.OK},
		{"nothing", func(j *piece.Job) { *j = piece.Job{} }, api.ErrArg},
		{"no vat", func(j *piece.Job) { j.Vat = vat.Vat{} }, api.ErrArg},
		{"too many days", func(j *piece.Job) { j.Vat.Last = 8 }, api.ErrLimit},
		{"too many looks", func(j *piece.Job) { j.Vat.Looks = make([]vat.Look, 6) }, api.ErrLimit},
		{"too many truths", func(j *piece.Job) { j.Vat.Start, j.Vat.Blue = vat.Range{Hi: 50}, vat.Range{Hi: 999} }, api.ErrLimit},
		{"a look", func(j *piece.Job) { j.Vat.Looks = []vat.Look{isHigh()} }, api.OK},
		{"no truth", func(j *piece.Job) { j.Vat.Looks = []vat.Look{isHigh(), isLow()} }, api.ErrFalse},
		{"no truth, and no day", func(j *piece.Job) { j.Vat.Looks, j.Day = []vat.Look{isHigh(), isLow()}, 4 }, api.ErrFalse},
		{"no truth, and 5 pieces", func(j *piece.Job) {
			j.Vat.Looks, j.Pieces = []vat.Look{isHigh(), isLow()}, make([]piece.Range, 5)
		}, api.ErrLimit},
		{"no vat, and 5 pieces", func(j *piece.Job) { j.Vat, j.Pieces = vat.Vat{}, make([]piece.Range, 5) }, api.ErrLimit},
		{"too many days, and no eye", func(j *piece.Job) { j.Vat.Last, j.Eye = 8, -1 }, api.ErrLimit},
	}
}

func jobChanges() []change {
	return []change{
		{"the last day", func(j *piece.Job) { j.Day = 3 }, api.OK},
		{"a day after the last", func(j *piece.Job) { j.Day = 4 }, api.ErrArg},
		{"a day before the first", func(j *piece.Job) { j.Day = -1 }, api.ErrArg},
		{"a day far off", func(j *piece.Job) { j.Day = math.MaxInt }, api.ErrArg},
		{"no pieces", func(j *piece.Job) { j.Pieces = nil }, api.OK},
		{"4 pieces", func(j *piece.Job) { j.Pieces = make([]piece.Range, 4) }, api.OK},
		{"5 pieces", func(j *piece.Job) { j.Pieces = make([]piece.Range, 5) }, api.ErrLimit},
		{"5 pieces, and no day", func(j *piece.Job) { j.Pieces, j.Day = make([]piece.Range, 5), 4 }, api.ErrLimit},
		{"a piece of any shade", func(j *piece.Job) { j.Pieces[2] = to(0, 9999) }, api.OK},
		{"a piece above 9999", func(j *piece.Job) { j.Pieces[2] = to(9999, 10000) }, api.ErrArg},
		{"a piece below 0", func(j *piece.Job) { j.Pieces[2] = to(-1, 0) }, api.ErrArg},
		{"a piece upside down", func(j *piece.Job) { j.Pieces[2] = to(17, 16) }, api.ErrArg},
		{"a piece from end to end", func(j *piece.Job) { j.Pieces[2] = to(math.MinInt, math.MaxInt) }, api.ErrArg},
		{"the eye 0", func(j *piece.Job) { j.Eye = 0 }, api.OK},
		{"the eye 9999", func(j *piece.Job) { j.Eye = 9999 }, api.OK},
		{"the eye 10000", func(j *piece.Job) { j.Eye = 10000 }, api.ErrArg},
		{"an eye below 0", func(j *piece.Job) { j.Eye = -1 }, api.ErrArg},
		{"the least eye there is", func(j *piece.Job) { j.Eye = math.MinInt }, api.ErrArg},
		{"any old shade", func(j *piece.Job) { j.Old = to(0, 9999) }, api.OK},
		{"an old shade above 9999", func(j *piece.Job) { j.Old = to(9999, 10000) }, api.ErrArg},
		{"an old shade below 0", func(j *piece.Job) { j.Old = to(-1, 0) }, api.ErrArg},
		{"an old shade upside down", func(j *piece.Job) { j.Old = to(21, 20) }, api.ErrArg},
	}
}

// P7.1: the errors of a job, in their order.
func TestCheckJob(t *testing.T) {
	for _, x := range slices.Concat(vatChanges(), jobChanges()) {
		j := example()
		x.make(&j)
		if e := piece.CheckJob(j); e != x.want {
			t.Errorf("%s: CheckJob: %v", x.name, e)
		}
		if x.want == api.OK {
			continue
		}
		// What is asked is not valid either: the error of the job comes first.
		errors, zero := calls(j, asked{plan: plan(9, 1), one: -1, other: -1, before: -1, dips: -1})
		for name, e := range errors {
			if e != x.want {
				t.Errorf("%s: %s: %v", x.name, name, e)
			}
		}
		if !zero {
			t.Errorf("%s: a result together with an error", x.name)
		}
		if proves(j, plain()) || proves(j, asked{dips: 20}) {
			t.Errorf("%s: something is proved", x.name)
		}
	}
}

// P7.1 to P7.5: lists that are no plan, and what calls name that there is not.
func TestErrors(t *testing.T) {
	const bad, ok = api.ErrRange, api.OK
	for _, x := range []struct {
		name                                string
		make                                func(a *asked)
		play, dips, right, match, old, most api.Errno
	}{
		{"as it is", func(a *asked) {}, ok, ok, ok, ok, ok, ok},
		{"no steps", func(a *asked) { a.plan = nil }, ok, ok, ok, ok, ok, ok},
		{"20 dips together", func(a *asked) { a.plan = plan(0, 10, 1, 0, 2, 10) }, ok, ok, ok, ok, ok, ok},
		{"21 dips together", func(a *asked) { a.plan = plan(0, 10, 1, 1, 2, 10) }, bad, ok, bad, bad, bad, ok},
		{"20 dips", func(a *asked) { a.plan = plan(0, 20) }, ok, ok, ok, ok, ok, ok},
		{"21 dips", func(a *asked) { a.plan = plan(0, 21) }, bad, ok, bad, bad, bad, ok},
		{"dips below 0", func(a *asked) { a.plan = plan(0, -1) }, bad, ok, bad, bad, bad, ok},
		{"dips that others make up for", func(a *asked) { a.plan = plan(0, 20, 1, -1, 2, 1) }, bad, ok, bad, bad, bad, ok},
		{"more dips than an int has", func(a *asked) { a.plan = plan(0, math.MaxInt, 1, math.MaxInt, 2, 2) }, bad, ok, bad, bad, bad, ok},
		{"a piece twice", func(a *asked) { a.plan = plan(0, 1, 1, 1, 0, 1) }, bad, ok, bad, bad, bad, ok},
		{"a piece twice, without dips", func(a *asked) { a.plan = plan(0, 0, 0, 0) }, bad, ok, bad, bad, bad, ok},
		{"a step too many", func(a *asked) { a.plan = plan(0, 1, 1, 1, 2, 1, 0, 1) }, bad, ok, bad, bad, bad, ok},
		{"a step with no piece", func(a *asked) { a.plan = plan(0, 1, 3, 1) }, bad, ok, bad, bad, bad, ok},
		{"a step with a piece below 0", func(a *asked) { a.plan = plan(-1, 1) }, bad, ok, bad, bad, bad, ok},
		{"no truth", func(a *asked) { a.truth = vat.Truth{} }, bad, ok, ok, ok, ok, ok},
		{"a truth with another start", func(a *asked) { a.truth.Start = 3 }, bad, ok, ok, ok, ok, ok},
		{"a truth with another blue", func(a *asked) { a.truth.Blue = 99 }, bad, ok, ok, ok, ok, ok},
		{"a truth with another drift", func(a *asked) { a.truth.Drift[3] = 1 }, bad, ok, ok, ok, ok, ok},
		{"a truth with a drift too few", func(a *asked) { a.truth.Drift = a.truth.Drift[:3] }, bad, ok, ok, ok, ok, ok},
		{"a truth with a drift too many", func(a *asked) { a.truth.Drift = append(a.truth.Drift, 0) }, bad, ok, ok, ok, ok, ok},
		{"no truth, no dips", func(a *asked) { a.truth, a.plan = vat.Truth{}, nil }, bad, ok, ok, ok, ok, ok},
		{"the last piece", func(a *asked) { a.one = 2 }, ok, ok, ok, ok, ok, ok},
		{"no such piece", func(a *asked) { a.one = 3 }, ok, bad, bad, bad, bad, ok},
		{"a piece below 0", func(a *asked) { a.one = -1 }, ok, bad, bad, bad, bad, ok},
		{"a piece far off", func(a *asked) { a.one = math.MaxInt }, ok, bad, bad, bad, bad, ok},
		{"no such other piece", func(a *asked) { a.other = 3 }, ok, ok, ok, bad, ok, ok},
		{"an other piece below 0", func(a *asked) { a.other = -1 }, ok, ok, ok, bad, ok, ok},
		{"the same piece", func(a *asked) { a.other = 1 }, ok, ok, ok, ok, ok, ok},
		{"after no dips", func(a *asked) { a.before = 0 }, ok, ok, ok, ok, ok, ok},
		{"after dips below 0", func(a *asked) { a.before = -1 }, ok, bad, ok, ok, ok, ok},
		{"after 20 dips", func(a *asked) { a.before = 20 }, ok, api.ErrShort, ok, ok, ok, ok},
		{"after 21 dips", func(a *asked) { a.before = 21 }, ok, bad, ok, ok, ok, ok},
		{"after more dips than there are", func(a *asked) { a.before = math.MaxInt }, ok, bad, ok, ok, ok, ok},
		{"with no dips", func(a *asked) { a.dips = 0 }, ok, ok, ok, ok, ok, ok},
		{"with dips below 0", func(a *asked) { a.dips = -1 }, ok, ok, ok, ok, ok, bad},
		{"with 20 dips", func(a *asked) { a.dips = 20 }, ok, ok, ok, ok, ok, ok},
		{"with 21 dips", func(a *asked) { a.dips = 21 }, ok, ok, ok, ok, ok, bad},
	} {
		a := plain()
		x.make(&a)
		errors, zero := calls(example(), a)
		for name, want := range map[string]api.Errno{
			"Play": x.play, "Dips": x.dips, "Right": x.right, "Match": x.match, "Old": x.old, "Best": ok, "Most": x.most, "Hopeless": ok,
		} {
			if errors[name] != want {
				t.Errorf("%s: %s: %v", x.name, name, errors[name])
			}
		}
		if !zero {
			t.Errorf("%s: a result together with an error", x.name)
		}
		noPlan, free := x.right == bad && x.dips == ok, of(to(0, 9999), to(0, 9999), to(0, 9999))
		if noPlan && (piece.ProvePlan(free, a.plan, math.MaxInt) || piece.ProveMost(free, a.plan, math.MaxInt, 0)) {
			t.Errorf("%s: something is proved of no plan", x.name)
		}
	}
}

// The examples of the chapter.
func TestExamples(t *testing.T) {
	j := example()
	for _, y := range []vat.Truth{lowest(), highest()} {
		if l, e := piece.Play(j, examplePlan(), y); e != api.OK || !slices.Equal(l, list(18, 31, 16)) {
			t.Errorf("Play: %v, %v", l, e)
		}
	}
	for _, x := range []struct {
		one, before, want int
		e                 api.Errno
	}{
		{0, 0, 2, api.OK}, {0, 2, 0, api.ErrShort}, {0, 8, 4, api.OK}, {1, 0, 4, api.OK}, {1, 2, 4, api.OK},
		{2, 0, 0, api.ErrShort}, {2, 2, 2, api.OK}, {2, 6, 3, api.OK},
	} {
		if n, e := piece.Dips(j, x.one, x.before); n != x.want || e != x.e {
			t.Errorf("Dips of %d after %d: %d, %v", x.one, x.before, n, e)
		}
	}
	l, n, e := piece.Best(j)
	if e != api.OK || n != 9 || !piece.ProvePlan(j, l, 9) || !piece.ProvePlan(j, examplePlan(), 9) || piece.ProvePlan(j, examplePlan(), 8) {
		t.Errorf("Best: %v, %d, %v", l, n, e)
	}
	for _, x := range []struct{ dips, want int }{{6, 2}, {1, 0}, {9, 3}} {
		if l, n, e := piece.Most(j, x.dips); e != api.OK || n != x.want || !piece.ProveMost(j, l, x.dips, n) {
			t.Errorf("Most with %d: %v, %d, %v", x.dips, l, n, e)
		}
	}
	for one, old := range list(piece.Perhaps, piece.Never, piece.Never) {
		if kind, e := piece.Right(j, examplePlan(), one); e != api.OK || kind != piece.Always {
			t.Errorf("Right of %d: %d, %v", one, kind, e)
		}
		if kind, e := piece.Old(j, examplePlan(), one); e != api.OK || kind != old {
			t.Errorf("Old of %d: %d, %v", one, kind, e)
		}
	}
	for _, x := range []struct{ other, want int }{{2, piece.Always}, {1, piece.Never}} {
		if kind, e := piece.Match(j, examplePlan(), 0, x.other); e != api.OK || kind != x.want {
			t.Errorf("Match of 0 and %d: %d, %v", x.other, kind, e)
		}
	}
	if kind, e := piece.Right(onDay(2, to(8, 9)), plan(0, 1), 0); e != api.OK || kind != piece.Perhaps {
		t.Errorf("Right on the day 2: %d, %v", kind, e)
	}
	for _, x := range []struct {
		j    piece.Job
		want []int
	}{{j, nil}, {of(append(j.Pieces, to(91, 99))...), list(3)}} {
		if l, e := piece.Hopeless(x.j); e != api.OK || !slices.Equal(l, x.want) {
			t.Errorf("Hopeless of %v: %v, %v", x.j, l, e)
		}
	}
}

// P7.1: the shades by the steps of a plan.
func TestEdgesOfPlay(t *testing.T) {
	own := example()
	own.Vat.Dips = list(3, 1, 1, 1)
	hidden := example()
	hidden.Vat.Looks = []vat.Look{isHigh()}
	for _, x := range []struct {
		name  string
		j     piece.Job
		steps []piece.Step
		truth vat.Truth
		want  []int
	}{
		{"no steps", example(), nil, lowest(), list(0, 0, 0)},
		{"steps without dips", example(), plan(2, 0, 1, 0), lowest(), list(0, 0, 0)},
		{"one piece", example(), plan(1, 3), lowest(), list(0, 26, 0)},
		{"the last piece first", example(), plan(2, 1, 1, 1, 0, 1), lowest(), list(8, 9, 9)},
		{"nothing between others", example(), plan(2, 3, 1, 0, 0, 1), lowest(), list(8, 0, 26)},
		{"20 dips", example(), plan(0, 20), lowest(), list(90, 0, 0)},
		{"20 dips of two pieces", example(), plan(2, 10, 0, 10), lowest(), list(20, 0, 70)},
		{"no pieces", of(), nil, lowest(), nil},
		{"in order", onDay(2, to(0, 9), to(0, 9)), plan(1, 2, 0, 1), lowest(), list(8, 18)},
		{"not in order", onDay(2, to(0, 9), to(0, 9)), plan(1, 2, 0, 1), highest(), list(4, 8)},
		{"after the vat's own dips", own, plan(1, 1, 0, 2), lowest(), list(15, 8, 0)},
		{"a truth in which a look is wrong", hidden, examplePlan(), lowest(), list(18, 31, 16)},
	} {
		if l, e := piece.Play(x.j, x.steps, x.truth); e != api.OK || !slices.Equal(l, x.want) {
			t.Errorf("%s: Play: %v, %v", x.name, l, e)
		}
	}
}

// P7.2: both ends of a range, and of the dips.
func TestEdgesOfDips(t *testing.T) {
	for _, x := range []struct {
		name   string
		j      piece.Job
		before int
		want   int
		e      api.Errno
	}{
		{"its upper end", of(to(10, 18), to(0, 0)), 0, 2, api.OK},
		{"just too little", of(to(10, 17), to(0, 0)), 0, 0, api.ErrShort},
		{"its lower end", of(to(9, 17), to(0, 0)), 0, 1, api.OK},
		{"just too much", of(to(19, 25), to(0, 0)), 0, 0, api.ErrShort},
		{"no dips", of(to(0, 9), to(0, 0)), 0, 0, api.OK},
		{"no dips, after all of them", of(to(0, 9), to(0, 0)), 20, 0, api.OK},
		{"one dip, after all of them", of(to(1, 9), to(0, 0)), 20, 0, api.ErrShort},
		{"all dips there may be", steady(to(191, 200), to(0, 0)), 0, 20, api.OK},
		{"all dips there may be, after another one", steady(to(190, 199), to(0, 0)), 1, 19, api.OK},
		{"one dip too many", steady(to(191, 200), to(0, 0)), 1, 0, api.ErrShort},
		{"no more dips than there may be", steady(to(201, 210), to(0, 0)), 0, 0, api.ErrShort},
		{"more than all dips", of(to(91, 99), to(0, 0)), 0, 0, api.ErrShort},
		{"right in order alone", onDay(2, to(8, 9), to(0, 0)), 0, 0, api.ErrShort},
		{"right in any case", onDay(2, to(4, 9), to(0, 0)), 0, 1, api.OK},
		{"right in any case, with more dips", onDay(2, to(8, 18), to(0, 0)), 0, 2, api.OK},
		{"later, in a job of one piece", of(to(16, 17)), 2, 2, api.OK},
	} {
		if n, e := piece.Dips(x.j, 0, x.before); n != x.want || e != x.e {
			t.Errorf("%s: Dips: %d, %v", x.name, n, e)
		}
	}
}

// P7.3: both ends of ranges, and of what an eye sees.
func TestEdgesOfVerdicts(t *testing.T) {
	const always, never, perhaps = piece.Always, piece.Never, piece.Perhaps
	eye := func(eye int, old piece.Range, j piece.Job) piece.Job {
		j.Eye, j.Old = eye, old
		return j
	}
	// The shades of the pieces are 18, 8 and 0; on the day 2 also 8, 4 and 0.
	pieces := []piece.Range{to(0, 0), to(0, 0), to(0, 0)}
	steps := plan(0, 2, 1, 1)
	for _, x := range []struct {
		name              string
		j                 piece.Job
		one, other        int
		right, match, old int
	}{
		{"all near", eye(10, to(8, 28), of(to(18, 18), to(8, 8), to(0, 0))), 0, 1, always, always, always},
		{"just not all", eye(9, to(8, 8), of(to(17, 17), to(8, 8), to(0, 0))), 0, 1, never, never, never},
		{"some old numbers below", eye(9, to(8, 9), of(to(19, 19), to(8, 8), to(0, 0))), 1, 0, always, never, always},
		{"the lowest old number", eye(9, to(8, 18), of(to(18, 20), to(8, 8), to(0, 0))), 0, 0, always, always, perhaps},
		{"the highest old number", eye(10, to(28, 29), of(to(16, 18), to(8, 8), to(0, 0))), 0, 0, always, always, perhaps},
		{"old numbers on both sides", eye(1, to(0, 9999), of(to(0, 17), to(8, 8), to(0, 0))), 0, 0, never, always, perhaps},
		{"old numbers above", eye(10, to(29, 99), of(to(19, 99), to(8, 8), to(0, 0))), 0, 2, never, never, never},
		{"old numbers below", eye(7, to(0, 10), of(to(18, 99), to(8, 8), to(0, 0))), 0, 2, always, never, never},
		{"not dipped", eye(8, to(0, 8), of(to(18, 99), to(8, 8), to(0, 0))), 2, 1, always, always, always},
		{"not dipped, not right", eye(7, to(8, 9), of(to(18, 99), to(8, 8), to(1, 9999))), 2, 1, never, never, never},
		{"perhaps", eye(4, to(18, 18), onDay(2, pieces[0], to(5, 8), pieces[2])), 0, 1, never, perhaps, perhaps},
		{"right perhaps", eye(3, to(5, 5), onDay(2, pieces[0], to(5, 8), pieces[2])), 1, 0, perhaps, never, always},
		{"right perhaps, at the other end", eye(4, to(9, 9), onDay(2, pieces[0], to(0, 4), pieces[2])), 1, 2, perhaps, perhaps, perhaps},
		{"right in any case", eye(10, to(4, 8), onDay(2, pieces[0], to(4, 8), pieces[2])), 1, 0, always, always, always},
		{"never right between", eye(0, to(6, 6), onDay(2, pieces[0], to(5, 7), pieces[2])), 1, 0, never, never, never},
	} {
		if kind, e := piece.Right(x.j, steps, x.one); e != api.OK || kind != x.right {
			t.Errorf("%s: Right: %d, %v", x.name, kind, e)
		}
		if kind, e := piece.Match(x.j, steps, x.one, x.other); e != api.OK || kind != x.match {
			t.Errorf("%s: Match: %d, %v", x.name, kind, e)
		}
		if kind, e := piece.Old(x.j, steps, x.one); e != api.OK || kind != x.old {
			t.Errorf("%s: Old: %d, %v", x.name, kind, e)
		}
	}
}

// P7.3: a look makes sure what was not.
func TestVerdictsByLooks(t *testing.T) {
	sharp := func(balance, high int) piece.Job {
		j := onDay(2, to(8, 9))
		j.Vat.Looks = []vat.Look{{Day: 2, Balance: true, Number: vat.Range{Lo: balance, Hi: high}}}
		return j
	}
	for _, x := range []struct{ low, high, want int }{{2, 4, piece.Always}, {5, 9, piece.Never}, {4, 5, piece.Perhaps}} {
		if kind, e := piece.Right(sharp(x.low, x.high), plan(0, 1), 0); e != api.OK || kind != x.want {
			t.Errorf("Right with the balances %d to %d: %d, %v", x.low, x.high, kind, e)
		}
	}
}

// P7.4, P7.5, P7.6: jobs for which it matters which piece is dipped first, and
// that others are dipped more often than they need, or without being right.
func TestEdgesOfPlans(t *testing.T) {
	for _, x := range []struct {
		name     string
		j        piece.Job
		best     int
		e        api.Errno
		most     map[int]int
		hopeless []int
	}{
		{"no pieces", of(), 0, api.OK, map[int]int{0: 0, 20: 0}, nil},
		{"no dips", of(to(0, 9), to(0, 0), to(0, 9999)), 0, api.OK, map[int]int{0: 3, 20: 3}, nil},
		{"a piece that has to be later", of(to(16, 17)), 0, api.ErrShort, map[int]int{0: 0, 20: 0}, nil},
		{"one that needs no dip is dipped first", of(to(0, 9999), to(16, 17)), 3, api.OK, map[int]int{0: 1, 2: 1, 3: 2}, nil},
		{"one that is hopeless is dipped first", of(to(91, 99), to(16, 17)), 0, api.ErrShort, map[int]int{2: 0, 3: 1, 20: 1}, list(0)},
		{"one that is dipped more often than it needs", of(to(9, 18), to(16, 16)), 4, api.OK, map[int]int{0: 0, 1: 1, 3: 1, 4: 2}, nil},
		{"the last one first", of(to(16, 17), to(9, 9)), 3, api.OK, map[int]int{0: 0, 1: 1, 2: 1, 3: 2}, nil},
		{"all of the dips", steady(to(100, 100), to(100, 100)), 20, api.OK, map[int]int{9: 0, 10: 1, 19: 1, 20: 2}, nil},
		{"too many dips", steady(to(100, 100), to(110, 110)), 0, api.ErrShort, map[int]int{10: 1, 11: 1, 20: 1}, nil},
		{"all hopeless", of(to(91, 99), to(100, 9999), to(91, 91)), 0, api.ErrShort, map[int]int{0: 0, 20: 0}, list(0, 1, 2)},
		{"perhaps in order", onDay(2, to(8, 9), to(4, 9)), 0, api.ErrShort, map[int]int{0: 0, 1: 1, 20: 1}, list(0)},
	} {
		l, n, e := piece.Best(x.j)
		if n != x.best || e != x.e || piece.ProvePlan(x.j, l, n) != (e == api.OK) {
			t.Errorf("%s: Best: %v, %d, %v", x.name, l, n, e)
		}
		for dips, want := range x.most {
			l, n, e := piece.Most(x.j, dips)
			if n != want || e != api.OK || !piece.ProveMost(x.j, l, dips, n) || piece.ProveMost(x.j, l, dips, n+1) {
				t.Errorf("%s: Most with %d: %v, %d, %v", x.name, dips, l, n, e)
			}
		}
		if l, e := piece.Hopeless(x.j); e != api.OK || !slices.Equal(l, x.hopeless) {
			t.Errorf("%s: Hopeless: %v, %v", x.name, l, e)
		}
	}
}

// P7.4, P7.5: what is proved, and what is not.
func TestEdgesOfProofs(t *testing.T) {
	j := example()
	for _, x := range []struct {
		name       string
		j          piece.Job
		steps      []piece.Step
		dips, many int
		all, most  bool
	}{
		{"the example", j, examplePlan(), 9, 3, true, true},
		{"more dips than it has", j, examplePlan(), math.MaxInt, 3, true, true},
		{"fewer dips than it has", j, examplePlan(), 8, 3, false, false},
		{"dips below 0", j, nil, -1, 0, false, false},
		{"more pieces than there are", j, examplePlan(), 9, 4, true, false},
		{"fewer pieces than are right", j, examplePlan(), 9, 2, true, true},
		{"pieces below 0", j, examplePlan(), 9, math.MinInt, true, true},
		{"another order", j, plan(2, 2, 0, 2, 1, 5), 9, 3, false, false},
		{"another order, one piece", j, plan(2, 2, 0, 2, 1, 5), 9, 1, false, true},
		{"another order, two pieces", j, plan(2, 2, 0, 2, 1, 5), 9, 2, false, false},
		{"a piece in no step", j, plan(0, 2, 2, 2), 9, 2, false, true},
		{"a piece in no step that is right", of(to(18, 18), to(0, 3)), plan(0, 2), 2, 2, true, true},
		{"nothing is done", j, nil, 0, 0, false, true},
		{"nothing is done, one piece", j, nil, 0, 1, false, false},
		{"no pieces", of(), nil, 0, 0, true, true},
		{"right perhaps", onDay(2, to(8, 9)), plan(0, 1), 1, 1, false, false},
		{"a piece twice", of(to(0, 9999), to(0, 9999)), plan(0, 1, 0, 1), 9, 0, false, false},
		{"no such piece", of(to(0, 9999), to(0, 9999)), plan(2, 1), 9, 0, false, false},
		{"21 dips", of(to(0, 9999), to(0, 9999)), plan(0, 20, 1, 1), 99, 0, false, false},
		{"20 dips", of(to(0, 9999), to(0, 9999)), plan(0, 19, 1, 1), 20, 2, true, true},
		{"dips of a step below 0", of(to(0, 9999), to(0, 9999)), plan(0, 3, 1, -1), 99, 0, false, false},
		{"more dips than an int has", of(to(0, 9999), to(0, 9999)), plan(0, math.MaxInt, 1, math.MaxInt), 99, 0, false, false},
	} {
		if piece.ProvePlan(x.j, x.steps, x.dips) != x.all {
			t.Errorf("%s: ProvePlan: %v", x.name, !x.all)
		}
		if piece.ProveMost(x.j, x.steps, x.dips, x.many) != x.most {
			t.Errorf("%s: ProveMost: %v", x.name, !x.most)
		}
	}
}

// P7.1, P7.3: by the oracle.
func TestPlayAndVerdicts(t *testing.T) {
	kinds := map[string]map[int]int{"Right": {}, "Match": {}, "Old": {}}
	for r, j := range randomJobs(400, 4) {
		if e := piece.CheckJob(j); e != api.OK {
			t.Fatalf("CheckJob of %v: %v", j, e)
		}
		steps := randomPlan(r, j)
		for _, y := range anyTruths(j.Vat) {
			if l, e := piece.Play(j, steps, y); e != api.OK || !slices.Equal(l, playOf(j, steps, y)) {
				t.Fatalf("Play of %v, %v, %v: %v, %v; not %v", j, steps, y, l, e, playOf(j, steps, y))
			}
		}
		for one := range j.Pieces {
			other := r.IntN(len(j.Pieces))
			if truths := truthsOf(j.Vat); r.IntN(2) == 0 { // an eye that just sees a difference
				pieces := playOf(j, steps, truths[r.IntN(len(truths))])
				j.Eye = max(pieces[one]-pieces[other], pieces[other]-pieces[one])
			}
			right, e1 := piece.Right(j, steps, one)
			match, e2 := piece.Match(j, steps, one, other)
			old, e3 := piece.Old(j, steps, one)
			if e1 != api.OK || e2 != api.OK || e3 != api.OK {
				t.Fatalf("Right, Match, Old of %v, %v, %d, %d: %v, %v, %v", j, steps, one, other, e1, e2, e3)
			}
			a, b, c := rightOf(j, steps, one), matchOf(j, steps, one, other), oldOf(j, steps, one)
			if right != a || match != b || old != c {
				t.Fatalf("Right, Match, Old of %v, %v, %d, %d: %d, %d, %d; not %d, %d, %d", j, steps, one, other, right, match, old, a, b, c)
			}
			kinds["Right"][a]++
			kinds["Match"][b]++
			kinds["Old"][c]++
		}
	}
	for name, many := range kinds {
		if many[piece.Always] < 20 || many[piece.Never] < 20 || many[piece.Perhaps] < 20 {
			t.Errorf("%s: how often each kind comes: %v", name, many)
		}
	}
}

// P7.2, P7.6: by the oracle.
func TestDipsAndHopeless(t *testing.T) {
	found, short, hopeless, hopeful := 0, 0, 0, 0
	for r, j := range randomJobs(300, 4) {
		all, want := rightsOf(j), hopelessOf(j)
		for one := range j.Pieces {
			for _, before := range []int{0, r.IntN(21), r.IntN(21)} {
				n, e := dipsAfter(all, one, before)
				if m, f := piece.Dips(j, one, before); m != n || f != e {
					t.Fatalf("Dips of %v, %d, %d: %d, %v; not %d, %v", j, one, before, m, f, n, e)
				}
				if e == api.OK && n > 0 {
					found++
				}
				if e == api.ErrShort {
					short++
				}
			}
		}
		if l, e := piece.Hopeless(j); e != api.OK || !slices.Equal(l, want) {
			t.Fatalf("Hopeless of %v: %v, %v; not %v", j, l, e, want)
		}
		hopeless += len(want)
		hopeful += len(j.Pieces) - len(want)
	}
	if found < 100 || short < 100 || hopeless < 30 || hopeful < 100 {
		t.Errorf("dips for %d pieces, none for %d; %d hopeless, %d not", found, short, hopeless, hopeful)
	}
}

// P7.4, P7.5: by the oracle, which tries all plans.
func TestBestAndMost(t *testing.T) {
	some, none, rises := 0, 0, 0
	for _, j := range slices.Concat(jobs(300, 3), jobs(60, 4)) {
		most := mostOf(j)
		best, e := bestOf(j, most)
		if l, dips, f := piece.Best(j); dips != best || f != e || e == api.OK && (dipsOf(l) != best || !piece.ProvePlan(j, l, best)) {
			t.Fatalf("Best of %v: %v, %d, %v; not %d, %v", j, l, dips, f, best, e)
		}
		for dips, want := range most {
			if l, got, f := piece.Most(j, dips); f != api.OK || got != want || !piece.ProveMost(j, l, dips, want) {
				t.Fatalf("Most of %v with %d: %v, %d, %v; not %d", j, dips, l, got, f, want)
			}
			if dips > 0 && want > most[dips-1] {
				rises++
			}
		}
		if e == api.OK && best > 0 {
			some++
		}
		if e == api.ErrShort {
			none++
		}
	}
	if some < 50 || none < 50 || rises < 200 {
		t.Errorf("%d jobs have a plan, %d have none; %d times more dips make more pieces", some, none, rises)
	}
}

// P7.4, P7.5: whatever plan is tried, by the oracle.
func TestProofs(t *testing.T) {
	shown := map[bool]int{}
	for r, j := range randomJobs(200, 4) {
		all := rightsOf(j)
		for range 20 {
			steps := randomPlan(r, j)
			right, used := all.many(j, steps), dipsOf(steps)
			dips, many := used-1+r.IntN(3), right-1+r.IntN(3)
			want := used <= dips && right >= many
			if piece.ProveMost(j, steps, dips, many) != want {
				t.Fatalf("ProveMost of %v, %v, %d, %d: not %v", j, steps, dips, many, want)
			}
			shown[want]++
			want = used <= dips && right == len(j.Pieces)
			if piece.ProvePlan(j, steps, dips) != want {
				t.Fatalf("ProvePlan of %v, %v, %d: not %v", j, steps, dips, want)
			}
			shown[want]++
		}
	}
	if shown[true] < 100 || shown[false] < 100 {
		t.Errorf("how often something is proved: %v", shown)
	}
}
