package wage_test

import (
	"math"
	"slices"
	"testing"

	"isatis/api"
	"isatis/oracle"
	"isatis/wage"
	"isatis/weed"
)

func to(low, high int) wage.Range { return wage.Range{Lo: low, Hi: high} }

func list(l ...int) []int { return l }

func note(weeder, low, high int) wage.Note { return wage.Note{Weeder: weeder, Pence: to(low, high)} }

// field is that of the examples of layer 1.
func field() weed.Field {
	return weed.Field{Rows: 4, Weeders: 2, Tallies: []weed.Tally{
		{Weeder: 0, From: 0, To: 2, Count: weed.Range{Lo: 2, Hi: 3}},
		{Weeder: 1, From: 2, To: 3, Count: weed.Range{Lo: 1, Hi: 2}},
	}}
}

// example is the ledger of the chapter's examples, with further notes.
func example(more ...wage.Note) wage.Ledger {
	notes := append([]wage.Note{note(0, 10, 15)}, more...)
	return wage.Ledger{Field: field(), Rate: 10, Box: to(20, 22), Notes: notes}
}

// idle is a ledger in which nobody need have done a row.
func idle(low, high int) wage.Ledger {
	f := weed.Field{Rows: 2, Weeders: 2, Left: weed.Range{Lo: 0, Hi: 2}}
	return wage.Ledger{Field: f, Rate: 5, Box: to(low, high)}
}

// calls are the errors of all calls with the ledger, and whether each of them
// returns nothing else together with its error.
func calls(l wage.Ledger, rows []int, money int) (map[string]api.Errno, bool) {
	due, e1 := wage.Due(l, rows)
	earned, e2 := wage.Earned(l)
	paid, e3 := wage.Paid(l)
	owed, e4 := wage.Owed(l)
	safe, e5 := wage.Safe(l, money)
	share, e6 := wage.Share(l, money)
	settle, e7 := wage.Settle(l)
	first, e8 := wage.First(l)
	leave, e9 := wage.Leave(l)
	zero := (e1 == 0 || due == nil) && (e2 == 0 || earned == nil) && (e3 == 0 || paid == nil) && (e4 == 0 || owed == nil) && (e5 == 0 || safe == nil) &&
		(e6 == 0 || share == nil) && (e7 == 0 || settle == nil) && (e8 == 0 || first == 0) && (e9 == 0 || leave == nil)
	return map[string]api.Errno{
		"Due": e1, "Earned": e2, "Paid": e3, "Owed": e4, "Safe": e5, "Share": e6, "Settle": e7, "First": e8, "Leave": e9,
	}, zero
}

// proves reports whether some call proves what is asked.
func proves(l wage.Ledger, y wage.Truth, payments, rows []int) bool {
	return wage.ProveTruth(l, y) || wage.ProveSafe(l, payments) || wage.ProveSettle(l, rows)
}

type change struct {
	name string
	make func(l *wage.Ledger)
	want api.Errno
}

func fieldChanges() []change {
	six := make([]wage.Note, 6)
	falsely := weed.Tally{Weeder: 1, From: 0, To: 1, Count: weed.Range{Lo: 2, Hi: 2}}
	return []change{
		{"as it is", func(l *wage.Ledger) {}, api.OK},
		{"nothing", func(l *wage.Ledger) { *l = wage.Ledger{} }, api.ErrArg},
		{"6 notes, and nothing else", func(l *wage.Ledger) { *l = wage.Ledger{Notes: six} }, api.ErrLimit},
		{"no rows", func(l *wage.Ledger) { l.Field.Rows = 0 }, api.ErrArg},
		{"no rows, and 6 notes", func(l *wage.Ledger) { l.Field.Rows, l.Notes = 0, six }, api.ErrLimit},
		{"8 rows", func(l *wage.Ledger) { l.Field.Rows = 8 }, api.ErrLimit},
		{"8 rows, and no rate", func(l *wage.Ledger) { l.Field.Rows, l.Rate = 8, 0 }, api.ErrLimit},
		{"the power is 4096", func(l *wage.Ledger) { l.Field.Rows, l.Field.Weeders = 6, 3 }, api.ErrLimit},
		{"the power is 4096, and no rate", func(l *wage.Ledger) { l.Field.Rows, l.Field.Weeders, l.Rate = 6, 3, 0 }, api.ErrLimit},
		{"a field without a truth", func(l *wage.Ledger) { l.Field.Tallies = append(l.Field.Tallies, falsely) }, api.ErrFalse},
		{"a field without a truth, and no rate", func(l *wage.Ledger) {
			l.Field.Tallies, l.Rate = append(l.Field.Tallies, falsely), 0
		}, api.ErrFalse},
		{"a field without a truth, and 6 notes", func(l *wage.Ledger) {
			l.Field.Tallies, l.Notes = append(l.Field.Tallies, falsely), six
		}, api.ErrLimit},
		{"a field without a truth, and a box that is too full", func(l *wage.Ledger) {
			l.Field.Tallies, l.Box = append(l.Field.Tallies, falsely), to(41, 50)
		}, api.ErrFalse},
		{"as many rows as there can be", func(l *wage.Ledger) { l.Field.Rows = 7 }, api.OK},
	}
}

func ledgerChanges() []change {
	return []change{
		{"no rate", func(l *wage.Ledger) { l.Rate = 0 }, api.ErrArg},
		{"no rate, and a box that is too full", func(l *wage.Ledger) { l.Rate, l.Box = 0, to(41, 50) }, api.ErrArg},
		{"a rate below 0", func(l *wage.Ledger) { l.Rate = -1 }, api.ErrArg},
		{"the lowest rate", func(l *wage.Ledger) { l.Rate, l.Box = 1, to(4, 4) }, api.OK},
		{"the highest rate", func(l *wage.Ledger) { l.Rate = 50 }, api.OK},
		{"a rate that is too high", func(l *wage.Ledger) { l.Rate = 51 }, api.ErrArg},
		{"a rate far off", func(l *wage.Ledger) { l.Rate = math.MaxInt }, api.ErrArg},
		{"a box with all money", func(l *wage.Ledger) { l.Box = to(0, 2000) }, api.OK},
		{"a box with more money", func(l *wage.Ledger) { l.Box = to(0, 2001) }, api.ErrArg},
		{"a box below 0", func(l *wage.Ledger) { l.Box = to(-1, 20) }, api.ErrArg},
		{"a box upside down", func(l *wage.Ledger) { l.Box = to(21, 20) }, api.ErrArg},
		{"a box from end to end", func(l *wage.Ledger) { l.Box = to(math.MinInt, math.MaxInt) }, api.ErrArg},
		{"a box the other way round", func(l *wage.Ledger) { l.Box = to(math.MaxInt, math.MinInt) }, api.ErrArg},
		{"no notes", func(l *wage.Ledger) { l.Notes = nil }, api.OK},
		{"5 notes", func(l *wage.Ledger) { l.Notes = make([]wage.Note, 5) }, api.OK},
		{"6 notes", func(l *wage.Ledger) { l.Notes = make([]wage.Note, 6) }, api.ErrLimit},
		{"6 notes, one of nobody", func(l *wage.Ledger) { l.Notes = append(make([]wage.Note, 5), note(2, 0, 0)) }, api.ErrLimit},
		{"a note of the last weeder", func(l *wage.Ledger) { l.Notes = append(l.Notes, note(1, 0, 0)) }, api.OK},
		{"a note of a weeder after the last", func(l *wage.Ledger) { l.Notes = append(l.Notes, note(2, 0, 0)) }, api.ErrArg},
		{"a note of a weeder before the first", func(l *wage.Ledger) { l.Notes = append(l.Notes, note(-1, 0, 0)) }, api.ErrArg},
		{"a note of a weeder far off", func(l *wage.Ledger) { l.Notes = append(l.Notes, note(math.MaxInt, 0, 0)) }, api.ErrArg},
		{"a note of all money", func(l *wage.Ledger) { l.Notes = append(l.Notes, note(1, 0, 2000)) }, api.OK},
		{"a note of more money", func(l *wage.Ledger) { l.Notes = append(l.Notes, note(1, 0, 2001)) }, api.ErrArg},
		{"a note of money below 0", func(l *wage.Ledger) { l.Notes = append(l.Notes, note(1, -1, 0)) }, api.ErrArg},
		{"a note upside down", func(l *wage.Ledger) { l.Notes = append(l.Notes, note(1, 1, 0)) }, api.ErrArg},
		{"a note upside down, and a box that is too full", func(l *wage.Ledger) {
			l.Notes, l.Box = append(l.Notes, note(1, 1, 0)), to(41, 50)
		}, api.ErrArg},
		{"notes that contradict each other", func(l *wage.Ledger) { l.Notes = append(l.Notes, note(0, 16, 16)) }, api.OK},
		{"a box with all that was earned", func(l *wage.Ledger) { l.Box = to(40, 40) }, api.OK},
		{"a box that is too full", func(l *wage.Ledger) { l.Box = to(41, 50) }, api.ErrFail},
		{"a box that is as full as can be", func(l *wage.Ledger) { l.Box = to(2000, 2000) }, api.ErrFail},
		{"a box that is too full, and no notes", func(l *wage.Ledger) { l.Box, l.Notes = to(41, 50), nil }, api.ErrFail},
	}
}

// P9.1: the errors of a ledger, in their order.
func TestCheckLedger(t *testing.T) {
	for _, x := range slices.Concat(fieldChanges(), ledgerChanges()) {
		l := example()
		x.make(&l)
		if e := wage.CheckLedger(l); e != x.want {
			t.Errorf("%s: CheckLedger: %v", x.name, e)
		}
		if x.want == api.OK {
			continue
		}
		// Rows and money that are not valid either: the error of the ledger comes first.
		errors, zero := calls(l, nil, -1)
		for name, e := range errors {
			if e != x.want {
				t.Errorf("%s: %s: %v", x.name, name, e)
			}
		}
		if !zero {
			t.Errorf("%s: a result together with an error", x.name)
		}
		if proves(l, wage.Truth{Rows: list(0, 0, 1, 0), Paid: list(10, 10)}, list(0, 0), list(0, 1, 2, 3)) || proves(l, wage.Truth{}, nil, nil) {
			t.Errorf("%s: something is proved", x.name)
		}
	}
}

// P9.1 to P9.6: the errors of calls with a valid ledger.
func TestErrors(t *testing.T) {
	const ok, off, none = api.OK, api.ErrRange, api.ErrNone
	wrong := example(note(1, 13, 20))
	rows := list(0, 0, 1, 0)
	both := idle(0, 5)
	both.Notes = []wage.Note{note(0, 1, 1), note(0, 2, 2)}
	for _, x := range []struct {
		name                            string
		l                               wage.Ledger
		rows                            []int
		money                           int
		due, earned, safe, share, first api.Errno
	}{
		{"as it is", example(), rows, 9, ok, ok, ok, ok, none},
		{"no money", example(), rows, 0, ok, ok, ok, ok, none},
		{"all money", example(), rows, 2000, ok, ok, ok, ok, none},
		{"more money", example(), rows, 2001, ok, ok, off, off, none},
		{"money below 0", example(), rows, -1, ok, ok, off, off, none},
		{"money far off", example(), rows, math.MinInt, ok, ok, off, off, none},
		{"no truth of the field", example(), list(0, 0, 0, 0), 9, off, ok, ok, ok, none},
		{"too few rows", example(), list(0, 0, 1), 9, off, ok, ok, ok, none},
		{"too many rows", example(), list(0, 0, 1, 0, 0), 9, off, ok, ok, ok, none},
		{"no rows", example(), nil, 9, off, ok, ok, ok, none},
		{"a row of nobody", example(), list(0, 0, 1, 2), 9, off, ok, ok, ok, none},
		{"a row that was left", example(), list(0, 0, 1, -1), 9, off, ok, ok, ok, none},
		{"a wrong note", wrong, rows, 9, ok, api.ErrFalse, api.ErrFalse, api.ErrFalse, ok},
		{"a wrong note, and more money", wrong, rows, 2001, ok, api.ErrFalse, off, off, ok},
		{"nobody need have worked", idle(0, 5), list(-1, -1), 9, ok, ok, ok, none, none},
		{"nobody need have worked, and more money", idle(0, 5), list(-1, 1), 2001, ok, ok, off, off, none},
		{"somebody was paid", idle(1, 5), list(-1, -1), 9, ok, ok, ok, ok, none},
		{"nobody need have worked, and a wrong note", both, list(0, -1), 9, ok, api.ErrFalse, api.ErrFalse, api.ErrFalse, ok},
	} {
		errors, zero := calls(x.l, x.rows, x.money)
		want := map[string]api.Errno{
			"Due": x.due, "Earned": x.earned, "Paid": x.earned, "Owed": x.earned, "Safe": x.safe, "Share": x.share,
			"Settle": ok, "First": x.first, "Leave": ok,
		}
		for name, e := range errors {
			if e != want[name] {
				t.Errorf("%s: %s: %v", x.name, name, e)
			}
		}
		if !zero {
			t.Errorf("%s: a result together with an error", x.name)
		}
	}
}

// The examples of the chapter.
func TestExamples(t *testing.T) {
	if l, e := wage.Due(example(), list(0, 0, 1, 0)); e != api.OK || !slices.Equal(l, list(30, 10)) {
		t.Errorf("Due: %v, %v", l, e)
	}
	for _, x := range []struct {
		name string
		call func(wage.Ledger) ([]wage.Range, api.Errno)
		want []wage.Range
	}{
		{"Earned", wage.Earned, []wage.Range{to(20, 30), to(10, 20)}},
		{"Paid", wage.Paid, []wage.Range{to(10, 15), to(5, 12)}},
		{"Owed", wage.Owed, []wage.Range{to(5, 20), to(0, 15)}},
	} {
		if l, e := x.call(example()); e != api.OK || !slices.Equal(l, x.want) {
			t.Errorf("%s: %v, %v", x.name, l, e)
		}
	}
	for money, want := range map[int][]int{9: list(5, 0), 3: list(3, 0)} {
		if l, e := wage.Safe(example(), money); e != api.OK || !slices.Equal(l, want) {
			t.Errorf("Safe of %d: %v, %v", money, l, e)
		}
	}
	if l, e := wage.Share(example(), 7); e != api.OK || !slices.Equal(l, []wage.Range{to(4, 5), to(2, 3)}) {
		t.Errorf("Share: %v, %v", l, e)
	}
	if l, e := wage.Settle(example()); e != api.OK || !slices.Equal(l, list(0, 1, 2, 3)) {
		t.Errorf("Settle: %v, %v", l, e)
	}
	if n, e := wage.First(example(note(1, 13, 20))); e != api.OK || n != 1 {
		t.Errorf("First: %d, %v", n, e)
	}
	if l, e := wage.Leave(example(note(1, 13, 20))); e != api.OK || !slices.Equal(l, list(0)) {
		t.Errorf("Leave: %v, %v", l, e)
	}
}

// P9.1: truths that are none of the ledger, and those that are.
func TestTruths(t *testing.T) {
	most := idle(0, 5)
	most.Rate, most.Box = 50, to(0, 2000)
	rows := list(0, 0, 1, 0)
	for _, x := range []struct {
		name       string
		l          wage.Ledger
		rows, paid []int
		want       bool
	}{
		{"all is right", example(), rows, list(12, 10), true},
		{"all the due is paid", example(), rows, list(10, 10), true},
		{"more than the due", example(), rows, list(10, 11), false},
		{"the note's least", example(), list(0, 0, 1, 1), list(10, 12), true},
		{"below the note", example(), list(0, 0, 1, 1), list(9, 12), false},
		{"the note's most", example(), list(0, 0, 1, 1), list(15, 7), true},
		{"above the note", example(), list(0, 0, 1, 1), list(16, 6), false},
		{"the box's least", example(), rows, list(12, 8), true},
		{"below the box", example(), rows, list(12, 7), false},
		{"the box's most", example(), rows, list(13, 9), true},
		{"above the box", example(), rows, list(13, 10), false},
		{"a second note that is right", example(note(1, 9, 9)), rows, list(13, 9), true},
		{"a second note that is wrong", example(note(1, 8, 8)), rows, list(13, 9), false},
		{"the weeders exchanged", example(), rows, list(10, 12), false},
		{"rows that are no truth of the field", example(), list(0, 0, 0, 0), list(12, 10), false},
		{"no rows", example(), nil, list(12, 10), false},
		{"nobody paid", example(), rows, nil, false},
		{"one not paid", example(), rows, list(20), false},
		{"one more paid", example(), rows, list(12, 10, 0), false},
		{"paid below 0", idle(0, 5), list(0, -1), list(1, -1), false},
		{"paid without a row", idle(0, 5), list(0, -1), list(0, 1), false},
		{"nobody worked", idle(0, 5), list(-1, -1), list(0, 0), true},
		{"paid far off", most, list(0, 1), list(math.MaxInt, math.MinInt), false},
		{"paid from end to end", most, list(0, 1), list(math.MinInt, math.MaxInt), false},
		{"all is paid", most, list(0, 0), list(100, 0), true},
	} {
		if wage.ProveTruth(x.l, wage.Truth{Rows: x.rows, Paid: x.paid}) != x.want {
			t.Errorf("%s: ProveTruth", x.name)
		}
	}
}

// P9.3: payments that are safe, and others. What is owed is 5..20 and 0..15.
func TestProveSafe(t *testing.T) {
	for _, x := range []struct {
		name     string
		payments []int
		want     bool
	}{
		{"nothing", list(0, 0), true},
		{"all that is sure", list(5, 0), true},
		{"less than that", list(4, 0), true},
		{"a penny more to the first", list(6, 0), false},
		{"a penny more to the last", list(0, 1), false},
		{"below 0", list(-1, 0), false},
		{"below 0, and as much more", list(6, -1), false},
		{"far off", list(math.MinInt, math.MinInt), false},
		{"to nobody", nil, false},
		{"to one", list(0), false},
		{"to one more", list(0, 0, 0), false},
	} {
		if wage.ProveSafe(example(), x.payments) != x.want {
			t.Errorf("%s: ProveSafe", x.name)
		}
	}
	if wage.ProveSafe(example(note(1, 13, 20)), list(0, 0)) {
		t.Error("ProveSafe of a ledger without a truth")
	}
}

// worked is a ledger in which all rows and payments are known: so many rows are
// done by each weeder, at a penny each, and nothing was paid.
func worked(rows ...int) wage.Ledger {
	l := wage.Ledger{Field: weed.Field{Rows: oracle.Sum(rows), Weeders: len(rows)}, Rate: 1}
	for weeder, many := range rows {
		l.Field.Tallies = append(l.Field.Tallies, weed.Tally{
			Weeder: weeder, To: oracle.Sum(rows) - 1, Count: weed.Range{Lo: many, Hi: many},
		})
	}
	return l
}

// P9.3, P9.4: how money is shared: to the greatest remainders, and of equal ones
// to the smaller indexes.
func TestShared(t *testing.T) {
	for _, x := range []struct {
		rows  []int
		money int
		want  []int
	}{
		{list(1, 1, 1), 0, list(0, 0, 0)},
		{list(1, 1, 1), 1, list(1, 0, 0)},
		{list(1, 1, 1), 2, list(1, 1, 0)},
		{list(1, 2, 2), 1, list(0, 1, 0)}, // a fifth, and two fifths twice
		{list(2, 1, 2), 2, list(1, 0, 1)}, // four fifths, two fifths, four fifths
		{list(2, 1, 2), 3, list(1, 1, 1)}, // a fifth, three fifths, a fifth
		{list(2, 1, 2), 4, list(2, 1, 1)}, // three fifths, four fifths, three fifths
		{list(0, 1, 1), 1, list(0, 1, 0)},
		{list(3, 0, 1), 1, list(1, 0, 0)},
		{list(3, 0, 1), 2, list(2, 0, 0)}, // a half, and a half
		{list(1, 0, 3), 2, list(1, 0, 1)},
		{list(3, 0, 1), 3, list(2, 0, 1)},
	} {
		safe, e := wage.Safe(worked(x.rows...), x.money)
		if e != api.OK || !slices.Equal(safe, x.want) {
			t.Errorf("Safe of %v, %d: %v, %v", x.rows, x.money, safe, e)
		}
		share, e := wage.Share(worked(x.rows...), x.money)
		for weeder, pence := range x.want {
			if e != api.OK || share[weeder] != to(pence, pence) {
				t.Errorf("Share of %v, %d: %v, %v", x.rows, x.money, share, e)
			}
		}
	}
	// As much as is owed, and more, is not shared: of the pot all is.
	for money := 4; money < 7; money++ {
		if l, e := wage.Safe(worked(3, 0, 1), money); e != api.OK || !slices.Equal(l, list(3, 0, 1)) {
			t.Errorf("Safe of %d: %v, %v", money, l, e)
		}
	}
	if l, e := wage.Share(worked(3, 0, 1), 2000); e != api.OK || !slices.Equal(l, []wage.Range{to(1500, 1500), to(0, 0), to(500, 500)}) {
		t.Errorf("Share of 2000: %v, %v", l, e)
	}
}

func checkBounds(t *testing.T, l wage.Ledger, truths []wage.Truth) {
	t.Helper()
	earned, e1 := wage.Earned(l)
	paid, e2 := wage.Paid(l)
	owed, e3 := wage.Owed(l)
	if len(truths) == 0 {
		if e1 != api.ErrFalse || e2 != api.ErrFalse || e3 != api.ErrFalse {
			t.Fatalf("%v: %v, %v, %v", l, e1, e2, e3)
		}
		return
	}
	if e1 != api.OK || !slices.Equal(earned, boundsOf(truths, func(y wage.Truth) []int { return duesOf(l, y.Rows) })) {
		t.Fatalf("Earned of %v: %v, %v", l, earned, e1)
	}
	if e2 != api.OK || !slices.Equal(paid, boundsOf(truths, func(y wage.Truth) []int { return y.Paid })) {
		t.Fatalf("Paid of %v: %v, %v", l, paid, e2)
	}
	if e3 != api.OK || !slices.Equal(owed, boundsOf(truths, func(y wage.Truth) []int { return owedOf(l, y) })) {
		t.Fatalf("Owed of %v: %v, %v", l, owed, e3)
	}
}

// P9.2: by the oracle.
func TestBounds(t *testing.T) {
	s := oracle.Seen{}
	check := func(l wage.Ledger) {
		truths := truthsOf(l)
		checkBounds(t, l, truths)
		s.Count("has a truth", len(truths) > 0)
		s.Count("has no truth", len(truths) == 0)
		free := l
		free.Box = to(0, 2000)
		s.Count("its box tells something", len(truths) > 0 && len(truths) < len(truthsOf(free)))
		s.Count("its notes tell something", len(truths) > 0 && len(truths) < len(allowedTruths(l)))
	}
	for _, l := range randomLedgers(800, 3) {
		check(l)
	}
	for _, l := range bigLedgers() {
		check(l)
	}
	s.Need(t, 100, "has a truth", "has no truth", "its box tells something", "its notes tell something")
}

// P9.3: by the oracle, with each payment of so much that it is too much.
func TestSafe(t *testing.T) {
	s := oracle.Seen{}
	for _, l := range randomLedgers(1500, 3) {
		truths := truthsOf(l)
		if len(truths) == 0 {
			continue
		}
		least := leastOwed(l, truths)
		for money := range oracle.Sum(least) + 2 {
			safe, e := wage.Safe(l, money)
			if e != api.OK || !slices.Equal(safe, safeOf(l, truths, money)) {
				t.Fatalf("Safe of %v, %d: %v, %v", l, money, safe, e)
			}
			s.Count("money is shared among several", money > 1 && money < oracle.Sum(least) && slices.Max(least) < oracle.Sum(least))
		}
		var around []wage.Range
		for _, owed := range least {
			around = append(around, to(max(-1, owed-2), owed+1))
		}
		for _, payments := range oracle.OneOfEach(around...) {
			want := slices.Min(payments) >= 0 && isSafe(l, truths, payments)
			if wage.ProveSafe(l, payments) != want {
				t.Fatalf("ProveSafe of %v, %v: %v", l, payments, !want)
			}
		}
	}
	s.Need(t, 50, "money is shared among several")
}

// P9.4: by the oracle.
func TestShare(t *testing.T) {
	s := oracle.Seen{}
	check := func(l wage.Ledger, pot int) {
		truths := truthsOf(l)
		if len(truths) == 0 {
			return
		}
		shares, e := wage.Share(l, pot)
		if slices.ContainsFunc(truths, nobodyWorked) {
			s.Count("nobody need have worked", true)
			if e != api.ErrNone {
				t.Fatalf("Share of %v, %d: %v, %v", l, pot, shares, e)
			}
			return
		}
		want := boundsOf(truths, func(y wage.Truth) []int { return sharedOf(pot, numbersOf(l.Field, y.Rows)) })
		if e != api.OK || !slices.Equal(shares, want) {
			t.Fatalf("Share of %v, %d: %v, %v; not %v", l, pot, shares, e, want)
		}
		s.Count("a share is not known", slices.ContainsFunc(want, func(r wage.Range) bool { return r.Lo < r.Hi }))
		s.Count("a share is known", slices.ContainsFunc(want, func(r wage.Range) bool { return r.Lo == r.Hi }))
	}
	for r, l := range randomLedgers(600, 2) {
		check(l, []int{r.IntN(20), r.IntN(2001), 2000}[r.IntN(3)])
	}
	for _, l := range bigLedgers() {
		check(l, 100)
	}
	s.Need(t, 30, "nobody need have worked", "a share is not known", "a share is known")
}

// P9.5: by the oracle, which tries every list of rows.
func TestSettle(t *testing.T) {
	s := oracle.Seen{}
	for _, l := range randomLedgers(120, 3) {
		var fewest []int
		found := false
		for _, rows := range oracle.ShortestFirst(l.Field.Rows) {
			settles := settledBy(l.Field, rows)
			if wage.ProveSettle(l, rows) != settles {
				t.Fatalf("ProveSettle of %v, %v: %v", l, rows, !settles)
			}
			if settles && !found {
				fewest, found = rows, true
			}
		}
		if rows, e := wage.Settle(l); e != api.OK || !slices.Equal(rows, fewest) {
			t.Fatalf("Settle of %v: %v, %v; not %v", l, rows, e, fewest)
		}
		s.Count("all is known", len(fewest) == 0)
		s.Count("some rows tell all", len(fewest) > 0 && len(fewest) < l.Field.Rows)
		s.Count("it has no truth", !hasTruth(l))
	}
	s.Need(t, 10, "all is known", "some rows tell all", "it has no truth")
}

// P9.5: lists of rows that are not valid, and ledgers whose notes are false.
func TestProveSettle(t *testing.T) {
	known := worked(2, 1)
	if !wage.ProveSettle(known, nil) || !wage.ProveSettle(known, list(0, 2)) {
		t.Error("all is known: any increasing list of rows settles it")
	}
	for _, rows := range [][]int{{-1}, {3}, {0, 0}, {1, 0}, {0, 2, 2}, {0, 1, 2, 3}, {math.MinInt, 0}, {0, math.MaxInt}, make([]int, 1000)} {
		if wage.ProveSettle(known, rows) {
			t.Errorf("ProveSettle of %v", rows)
		}
	}
	// Notes are not asked: they may be false, and tell nothing of rows.
	wrong := example(note(1, 13, 20))
	if l, e := wage.Settle(wrong); e != api.OK || !slices.Equal(l, list(0, 1, 2, 3)) || !wage.ProveSettle(wrong, l) {
		t.Errorf("Settle of a ledger without a truth: %v, %v", l, e)
	}
	two := worked(1, 1)
	two.Field.Tallies, two.Box = nil, to(1, 1)
	two.Notes = []wage.Note{note(0, 1, 1)}
	if l, e := wage.Settle(two); e != api.OK || !slices.Equal(l, list(0, 1)) {
		t.Errorf("Settle: %v, %v", l, e)
	}
}

// P9.1, P9.6: by the oracle, which tries every set of notes, and every payment.
func TestFirstAndLeave(t *testing.T) {
	s := oracle.Seen{}
	for _, l := range randomLedgers(800, 5) {
		first, e := firstOf(l)
		if n, g := wage.First(l); n != first || g != e {
			t.Fatalf("First of %v: %d, %v; not %d, %v", l, n, g, first, e)
		}
		smallest := leaveOf(l)
		if notes, g := wage.Leave(l); g != api.OK || !slices.Equal(notes, smallest) {
			t.Fatalf("Leave of %v: %v, %v; not %v", l, notes, g, smallest)
		}
		s.Count("a note is wrong", len(smallest) > 0)
		s.Count("two notes are wrong", len(smallest) > 1)
	}
	s.Need(t, 50, "a note is wrong", "two notes are wrong")
}

// P9.6: all notes have to be left out, or all but one.
func TestLeaveAll(t *testing.T) {
	l := worked(2, 1)
	l.Notes = slices.Repeat([]wage.Note{note(1, 1, 1)}, 5)
	if notes, e := wage.Leave(l); e != api.OK || !slices.Equal(notes, list(0, 1, 2, 3, 4)) {
		t.Errorf("Leave: %v, %v", notes, e)
	}
	if n, e := wage.First(l); e != api.OK || n != 0 {
		t.Errorf("First: %d, %v", n, e)
	}
	l.Box, l.Notes = to(0, 3), []wage.Note{note(0, 0, 0), note(0, 1, 1), note(0, 2, 2)}
	if notes, e := wage.Leave(l); e != api.OK || !slices.Equal(notes, list(0, 1)) {
		t.Errorf("Leave: %v, %v", notes, e)
	}
	if n, e := wage.First(l); e != api.OK || n != 1 {
		t.Errorf("First: %d, %v", n, e)
	}
}

// P9.1: by the oracle, of each payment of a truth of the field, and of some more.
func TestProveTruth(t *testing.T) {
	s := oracle.Seen{}
	for _, l := range randomLedgers(150, 2) {
		truths := truthsOf(l)
		for _, rows := range fieldTruths(l.Field) {
			var purses []wage.Range
			dues := duesOf(l, rows)
			for _, due := range dues {
				purses = append(purses, to(-1, due+1))
			}
			if d, e := wage.Due(l, rows); e != api.OK || !slices.Equal(d, dues) {
				t.Fatalf("Due of %v, %v: %v, %v", l, rows, d, e)
			}
			for _, paid := range oracle.OneOfEach(purses...) {
				want := slices.ContainsFunc(truths, func(y wage.Truth) bool { return slices.Equal(y.Rows, rows) && slices.Equal(y.Paid, paid) })
				if wage.ProveTruth(l, wage.Truth{Rows: rows, Paid: paid}) != want {
					t.Fatalf("ProveTruth of %v, %v, %v: %v", l, rows, paid, !want)
				}
				s.Count("a truth", want)
				s.Count("no truth", !want)
			}
		}
	}
	s.Need(t, 500, "a truth", "no truth")
}
