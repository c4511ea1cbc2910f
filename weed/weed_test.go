package weed_test

import (
	"math"
	"slices"
	"testing"

	"isatis/api"
	"isatis/oracle"
	"isatis/weed"
)

func to(low, high int) weed.Range { return weed.Range{Lo: low, Hi: high} }

func tally(weeder, from, till, low, high int) weed.Tally {
	return weed.Tally{Weeder: weeder, From: from, To: till, Count: to(low, high)}
}

// example is the field of the chapter's examples, with further tallies.
func example(more ...weed.Tally) weed.Field {
	tallies := []weed.Tally{tally(0, 0, 2, 2, 3), tally(1, 2, 3, 1, 2)}
	return weed.Field{Rows: 4, Weeders: 2, Left: to(0, 0), Tallies: append(tallies, more...)}
}

// false2 is a tally that contradicts those of the example.
func false2() weed.Tally { return tally(1, 0, 1, 2, 2) }

// calls are the errors of all calls with the field, and whether each of them
// returns nothing else together with its error.
func calls(f weed.Field, row, weeder int) (map[string]api.Errno, bool) {
	done, e1 := weed.Done(f)
	who, e2 := weed.Who(f, row)
	ask, e3 := weed.Ask(f, weeder)
	next, many, e4 := weed.Next(f, weeder)
	first, e5 := weed.First(f)
	leave, e6 := weed.Leave(f)
	zero := (e1 == 0 || done == nil) && (e2 == 0 || who == nil) && (e3 == 0 || ask == nil) && (e4 == 0 || next == 0 && many == 0) && (e5 == 0 || first == 0) && (e6 == 0 || leave == nil)
	return map[string]api.Errno{"Done": e1, "Who": e2, "Ask": e3, "Next": e4, "First": e5, "Leave": e6}, zero
}

// P1.1: the errors of a field, in their order.
func TestCheckField(t *testing.T) {
	for _, x := range []struct {
		name   string
		change func(f *weed.Field)
		want   api.Errno
	}{
		{"as it is", func(f *weed.Field) {}, api.OK},
		{"no tallies", func(f *weed.Field) { f.Tallies = nil }, api.OK},
		{"7 rows", func(f *weed.Field) { f.Rows = 7 }, api.OK},
		{"8 rows", func(f *weed.Field) { f.Rows = 8 }, api.ErrLimit},
		{"8 rows of 1 weeder", func(f *weed.Field) { f.Rows, f.Weeders, f.Tallies = 8, 1, nil }, api.ErrLimit},
		{"1 row", func(f *weed.Field) { f.Rows, f.Tallies = 1, nil }, api.OK},
		{"0 rows", func(f *weed.Field) { f.Rows, f.Tallies = 0, nil }, api.ErrArg},
		{"fewest rows", func(f *weed.Field) { f.Rows = math.MinInt }, api.ErrArg},
		{"most rows", func(f *weed.Field) { f.Rows = math.MaxInt }, api.ErrLimit},
		{"3 weeders", func(f *weed.Field) { f.Weeders = 3 }, api.OK},
		{"4 weeders", func(f *weed.Field) { f.Weeders = 4 }, api.ErrLimit},
		{"4 weeders of 1 row", func(f *weed.Field) { f.Rows, f.Weeders, f.Tallies = 1, 4, nil }, api.ErrLimit},
		{"1 weeder", func(f *weed.Field) { f.Weeders, f.Tallies = 1, nil }, api.OK},
		{"0 weeders", func(f *weed.Field) { f.Weeders, f.Tallies = 0, nil }, api.ErrArg},
		{"fewest weeders", func(f *weed.Field) { f.Weeders = math.MinInt }, api.ErrArg},
		{"most weeders", func(f *weed.Field) { f.Weeders = math.MaxInt }, api.ErrLimit},
		{"no weeder of a tally", func(f *weed.Field) { f.Weeders = 1 }, api.ErrArg},
		{"no row of a tally", func(f *weed.Field) { f.Rows = 3 }, api.ErrArg},
		{"5 tallies", func(f *weed.Field) { f.Tallies = make([]weed.Tally, 5) }, api.OK},
		{"6 tallies", func(f *weed.Field) { f.Tallies = make([]weed.Tally, 6) }, api.ErrLimit},
		{"6 tallies, no rows", func(f *weed.Field) { f.Rows, f.Tallies = 0, make([]weed.Tally, 6) }, api.ErrLimit},
		{"no rows, 4 weeders", func(f *weed.Field) { f.Rows, f.Weeders = 0, 4 }, api.ErrLimit},
		{"Left below 0", func(f *weed.Field) { f.Left = to(-1, 0) }, api.ErrArg},
		{"Left to Rows", func(f *weed.Field) { f.Left = to(0, 4) }, api.OK},
		{"Left above Rows", func(f *weed.Field) { f.Left = to(0, 5) }, api.ErrArg},
		{"Left upside down", func(f *weed.Field) { f.Left = to(2, 1) }, api.ErrArg},
		{"a tally of the weeder 2", func(f *weed.Field) { f.Tallies[1].Weeder = 2 }, api.ErrArg},
		{"a tally of what was left", func(f *weed.Field) { f.Tallies[1].Weeder = -1 }, api.ErrArg},
		{"From below 0", func(f *weed.Field) { f.Tallies[1].From = -1 }, api.ErrArg},
		{"From above To", func(f *weed.Field) { f.Tallies[1].From, f.Tallies[1].To = 3, 2 }, api.ErrArg},
		{"From is To", func(f *weed.Field) { f.Tallies[1].From, f.Tallies[1].To = 3, 3 }, api.OK},
		{"To is Rows", func(f *weed.Field) { f.Tallies[1].To = 4 }, api.ErrArg},
		{"the greatest To", func(f *weed.Field) { f.Tallies[1].To = math.MaxInt }, api.ErrArg},
		{"Count to Rows", func(f *weed.Field) { f.Tallies[1].Count = to(4, 4) }, api.OK},
		{"Count above Rows", func(f *weed.Field) { f.Tallies[1].Count = to(4, 5) }, api.ErrArg},
		{"Count below 0", func(f *weed.Field) { f.Tallies[1].Count = to(-1, 0) }, api.ErrArg},
		{"Count upside down", func(f *weed.Field) { f.Tallies[1].Count = to(1, 0) }, api.ErrArg},
		{"the power is 1024", func(f *weed.Field) { f.Rows, f.Weeders = 5, 3 }, api.OK},
		{"the power is 4096", func(f *weed.Field) { f.Rows, f.Weeders = 6, 3 }, api.ErrLimit},
		{"the power, and Left", func(f *weed.Field) { f.Rows, f.Weeders, f.Left = 6, 3, to(0, 7) }, api.ErrArg},
	} {
		f := example()
		x.change(&f)
		if e := weed.CheckField(f); e != x.want {
			t.Errorf("%s: CheckField: %v", x.name, e)
		}
		if x.want == api.OK {
			continue
		}
		// A row and a weeder that there are not: the error of the field comes first.
		errors, zero := calls(f, -1, -1)
		for name, e := range errors {
			if e != x.want {
				t.Errorf("%s: %s: %v", x.name, name, e)
			}
		}
		if !zero {
			t.Errorf("%s: a result together with an error", x.name)
		}
		if weed.ProveTruth(f, []int{0, 0, 1, 0}) || weed.ProveTruth(f, nil) || weed.ProveAsk(f, 0, []int{0, 1, 2, 3}) || weed.ProveAsk(f, 0, nil) {
			t.Errorf("%s: something is proved of a field that is not valid", x.name)
		}
	}
}

// P1.2, P1.3, P1.4, P1.5: the errors of calls with a valid field.
func TestErrors(t *testing.T) {
	for _, x := range []struct {
		name           string
		f              weed.Field
		row, weeder    int
		who, ask, done api.Errno
	}{
		{"all is there", example(), 3, 1, api.OK, api.OK, api.OK},
		{"below", example(), -1, -1, api.ErrRange, api.ErrRange, api.OK},
		{"above", example(), 4, 2, api.ErrRange, api.ErrRange, api.OK},
		{"far off", example(), math.MaxInt, math.MinInt, api.ErrRange, api.ErrRange, api.OK},
		{"no truth", example(false2()), 0, 0, api.ErrFalse, api.ErrFalse, api.ErrFalse},
		{"no truth, below", example(false2()), -1, -1, api.ErrRange, api.ErrRange, api.ErrFalse},
		{"no truth, above", example(false2()), 4, 2, api.ErrRange, api.ErrRange, api.ErrFalse},
	} {
		first := api.OK
		if isRight(x.f) {
			first = api.ErrNone
		}
		errors, zero := calls(x.f, x.row, x.weeder)
		for name, want := range map[string]api.Errno{"Done": x.done, "Who": x.who, "Ask": x.ask, "Next": x.ask, "First": first, "Leave": api.OK} {
			if errors[name] != want {
				t.Errorf("%s: %s: %v", x.name, name, errors[name])
			}
		}
		if !zero {
			t.Errorf("%s: a result together with an error", x.name)
		}
	}
}

// The examples of the chapter.
func TestExamples(t *testing.T) {
	if l, e := weed.Done(example()); e != api.OK || !slices.Equal(l, []weed.Range{to(2, 3), to(1, 2)}) {
		t.Errorf("Done: %v, %v", l, e)
	}
	if l, e := weed.Who(example(), 3); e != api.OK || !slices.Equal(l, []int{0, 1}) {
		t.Errorf("Who: %v, %v", l, e)
	}
	loose := example()
	loose.Left = to(0, 1)
	if l, e := weed.Who(loose, 3); e != api.OK || !slices.Equal(l, []int{-1, 0, 1}) {
		t.Errorf("Who with Left 0..1: %v, %v", l, e)
	}
	for _, x := range []struct {
		f         weed.Field
		ask       []int
		row, many int
	}{{example(), []int{0, 1, 2, 3}, 0, 3}, {example(tally(0, 0, 1, 2, 2)), []int{2, 3}, 2, 2}} {
		if l, e := weed.Ask(x.f, 0); e != api.OK || !slices.Equal(l, x.ask) {
			t.Errorf("Ask of %v: %v, %v", x.f, l, e)
		}
		if row, many, e := weed.Next(x.f, 0); e != api.OK || row != x.row || many != x.many {
			t.Errorf("Next of %v: %d, %d, %v", x.f, row, many, e)
		}
	}
	if n, e := weed.First(example(false2())); e != api.OK || n != 2 {
		t.Errorf("First: %d, %v", n, e)
	}
	if l, e := weed.Leave(example(false2())); e != api.OK || !slices.Equal(l, []int{0}) {
		t.Errorf("Leave: %v, %v", l, e)
	}
}

// P1.1: every list of the right length is tried, also with numbers that a
// truth cannot say.
func TestProveTruth(t *testing.T) {
	for _, f := range randomFields(150, 3) {
		truths := truthsOf(f)
		for _, l := range sheets(f.Rows, -2, f.Weeders) {
			want := slices.ContainsFunc(truths, func(truth []int) bool { return slices.Equal(truth, l) })
			if weed.ProveTruth(f, l) != want {
				t.Fatalf("ProveTruth of %v, %v: %v", f, l, !want)
			}
		}
	}
	f := weed.Field{Rows: 2, Weeders: 1, Left: to(0, 2)}
	for _, l := range [][]int{nil, {}, {0}, {0, 0, 0}, make([]int, 7), make([]int, 8), make([]int, 1000), {0, math.MaxInt}, {math.MinInt, 0}} {
		if weed.ProveTruth(f, l) {
			t.Errorf("ProveTruth of %v", l)
		}
	}
	if !weed.ProveTruth(f, []int{-1, 0}) {
		t.Error("ProveTruth of a row that was left, and one that was not")
	}
}

// P1.2: by the oracle.
func TestDoneAndWho(t *testing.T) {
	for _, f := range randomFields(400, 4) {
		truths := truthsOf(f)
		if len(truths) == 0 {
			continue
		}
		l, e := weed.Done(f)
		if e != api.OK || len(l) != f.Weeders {
			t.Fatalf("Done of %v: %v, %v", f, l, e)
		}
		for weeder, r := range l {
			if r != boundsOf(f, weeder) {
				t.Fatalf("Done of %v: %v", f, l)
			}
		}
		for row := range f.Rows {
			if l, e := weed.Who(f, row); e != api.OK || !slices.Equal(l, saidOf(truths, row)) {
				t.Fatalf("Who of %v, %d: %v, %v", f, row, l, e)
			}
		}
	}
}

// P1.3: by the oracle, which tries every list of rows.
func TestAsk(t *testing.T) {
	for r, f := range randomFields(250, 4) {
		truths := truthsOf(f)
		if len(truths) == 0 {
			continue
		}
		weeder := r.IntN(f.Weeders)
		var fewest []int
		found := false
		for _, rows := range oracle.ShortestFirst(f.Rows) {
			settles := settled(truths, weeder, rows)
			if weed.ProveAsk(f, weeder, rows) != settles {
				t.Fatalf("ProveAsk of %v, %d, %v: %v", f, weeder, rows, !settles)
			}
			if settles && !found {
				fewest, found = rows, true
			}
		}
		if l, e := weed.Ask(f, weeder); e != api.OK || !slices.Equal(l, fewest) {
			t.Fatalf("Ask of %v, %d: %v, %v", f, weeder, l, e)
		}
	}
}

// P1.3: lists and weeders that are not valid.
func TestProveAskOfInvalid(t *testing.T) {
	known := weed.Field{Rows: 3, Weeders: 1, Left: to(0, 0)}
	if !weed.ProveAsk(known, 0, nil) || !weed.ProveAsk(known, 0, []int{0, 2}) {
		t.Error("the number is known: any increasing list of rows settles it")
	}
	for _, rows := range [][]int{{-1}, {3}, {0, 0}, {1, 0}, {0, 2, 2}, {0, 1, 2, 3}, {math.MinInt, 0}, {0, math.MaxInt}, make([]int, 1000)} {
		if weed.ProveAsk(known, 0, rows) {
			t.Errorf("ProveAsk of %v", rows)
		}
	}
	for _, weeder := range []int{-1, 1, math.MaxInt, math.MinInt} {
		if weed.ProveAsk(known, weeder, nil) {
			t.Errorf("ProveAsk of the weeder %d", weeder)
		}
	}
	if weed.ProveAsk(example(false2()), 0, []int{0, 1, 2, 3}) {
		t.Error("ProveAsk of a field without a truth")
	}
}

// P1.4: by the oracle, which asks in every order.
func TestNext(t *testing.T) {
	for r, f := range randomFields(250, 4) {
		truths := truthsOf(f)
		if len(truths) == 0 {
			continue
		}
		weeder := r.IntN(f.Weeders)
		row, many := questionsOf(truths, weeder)
		if n, m, e := weed.Next(f, weeder); e != api.OK || n != row || m != many {
			t.Fatalf("Next of %v, %d: %d, %d, %v; not %d, %d", f, weeder, n, m, e, row, many)
		}
	}
	// The row 0 says the same in all truths, so it is not asked about.
	f := weed.Field{Rows: 2, Weeders: 1, Left: to(0, 1), Tallies: []weed.Tally{tally(0, 0, 0, 1, 1)}}
	if row, many, e := weed.Next(f, 0); row != 1 || many != 1 || e != api.OK {
		t.Errorf("Next: %d, %d, %v", row, many, e)
	}
	f.Left = to(0, 0)
	if row, many, e := weed.Next(f, 0); row != -1 || many != 0 || e != api.OK {
		t.Errorf("Next of what is known: %d, %d, %v", row, many, e)
	}
}

// P1.5: by the oracle, which tries every set of tallies.
func TestFirstAndLeave(t *testing.T) {
	wrong := 0
	for _, f := range randomFields(500, 5) {
		first, e := 0, api.ErrNone
		for n := range f.Tallies {
			before := f
			before.Tallies = f.Tallies[:n+1]
			if !isRight(before) {
				first, e, wrong = n, api.OK, wrong+1
				break
			}
		}
		if n, g := weed.First(f); n != first || g != e {
			t.Fatalf("First of %v: %d, %v; not %d, %v", f, n, g, first, e)
		}
		sets := oracle.ShortestFirst(len(f.Tallies))
		smallest := sets[slices.IndexFunc(sets, func(l []int) bool { return isRight(without(f, l)) })]
		if l, g := weed.Leave(f); g != api.OK || !slices.Equal(l, smallest) {
			t.Fatalf("Leave of %v: %v, %v; not %v", f, l, g, smallest)
		}
	}
	if wrong < 50 {
		t.Errorf("only %d of the fields have a wrong tally", wrong)
	}
}

// P1.5: all tallies have to be left out.
func TestLeaveAll(t *testing.T) {
	none := tally(0, 0, 0, 1, 1)
	f := weed.Field{Rows: 1, Weeders: 1, Left: to(1, 1), Tallies: []weed.Tally{none, none, none, none, none}}
	if l, e := weed.Leave(f); e != api.OK || !slices.Equal(l, []int{0, 1, 2, 3, 4}) {
		t.Errorf("Leave: %v, %v", l, e)
	}
	if n, e := weed.First(f); e != api.OK || n != 0 {
		t.Errorf("First: %d, %v", n, e)
	}
}
