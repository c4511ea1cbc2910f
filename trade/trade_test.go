package trade_test

import (
	"math"
	"slices"
	"testing"

	"isatis/api"
	"isatis/cask"
	"isatis/oracle"
	"isatis/trade"
)

func to(low, high int) trade.Range { return trade.Range{Lo: low, Hi: high} }

func list(l ...int) []int { return l }

func note(number, low, high int) trade.Note { return trade.Note{Cask: number, Money: to(low, high)} }

func grade(strength, price int) trade.Grade { return trade.Grade{Strength: strength, Price: price} }

func order(grade, least int) trade.Order { return trade.Order{Grade: grade, Least: least} }

// example is the trade of the chapter's examples, with notes.
func example(notes ...trade.Note) trade.Trade {
	return trade.Trade{
		Cellar: cask.Cellar{Heaps: []cask.Range{{Lo: 40, Hi: 42}, {Lo: 60, Hi: 63}}, Casks: [][]int{{10, 10}, {5, 15}}},
		Flat:   3, Grades: []trade.Grade{grade(55, 6), grade(51, 4), grade(40, 2)},
		Orders: []trade.Order{order(0, 20), order(1, 10)}, Notes: notes,
	}
}

// noCellar has trials that contradict each other.
func noCellar() []cask.Trial {
	return []cask.Trial{{Cask: true, Strength: cask.Range{Lo: 52, Hi: 52}}, {Strength: cask.Range{Lo: 40, Hi: 40}}}
}

// known is a trade with one heap of a strength that is known, and with casks of it
// of these weights.
func known(strength int, weights ...int) trade.Trade {
	d := trade.Trade{Cellar: cask.Cellar{Heaps: []cask.Range{{Lo: strength, Hi: strength}}}, Grades: []trade.Grade{grade(0, 1)}}
	for _, weight := range weights {
		d.Cellar.Casks = append(d.Cellar.Casks, list(weight))
	}
	return d
}

// calls are the errors of all calls with the trade, and whether each of them
// returns nothing else together with its error.
func calls(d trade.Trade, heaps, sale []int) (map[string]api.Errno, bool) {
	play, e1 := trade.Play(d, heaps)
	bounds, e2 := trade.Bounds(d)
	worth, e3 := trade.Worth(d, sale)
	best, sure, e4 := trade.Best(d)
	fill, e5 := trade.Fill(d)
	short, e6 := trade.Short(d)
	first, e7 := trade.First(d)
	leave, e8 := trade.Leave(d)
	zero := (e1 == 0 || play == nil) && (e2 == 0 || bounds == nil) && (e3 == 0 || worth == trade.Range{}) && (e4 == 0 || best == nil && sure == 0) &&
		(e5 == 0 || fill == nil) && (e6 == 0 || short == nil) && (e7 == 0 || first == 0) && (e8 == 0 || leave == nil)
	return map[string]api.Errno{
		"Play": e1, "Bounds": e2, "Worth": e3, "Best": e4, "Fill": e5, "Short": e6, "First": e7, "Leave": e8,
	}, zero
}

// proves reports whether some call proves what is asked.
func proves(d trade.Trade, heaps, sale, delivery, orders []int) bool {
	return trade.ProveTruth(d, heaps) || trade.ProveWorth(d, sale, math.MinInt) || trade.ProveFill(d, delivery) || trade.ProveShort(d, orders)
}

type change struct {
	name string
	make func(d *trade.Trade)
	want api.Errno
}

func cellarChanges() []change {
	four := make([]trade.Grade, 4)
	wide := []cask.Range{{Lo: 0, Hi: 100}, {Lo: 0, Hi: 100}}
	return []change{
		{"as it is", func(d *trade.Trade) {}, api.OK},
		{"nothing", func(d *trade.Trade) { *d = trade.Trade{} }, api.ErrArg},
		{"no cellar", func(d *trade.Trade) { d.Cellar = cask.Cellar{} }, api.ErrArg},
		{"no cellar, and 4 grades", func(d *trade.Trade) { d.Cellar, d.Grades = cask.Cellar{}, four }, api.ErrArg},
		{"an empty cask, and 4 grades", func(d *trade.Trade) { d.Cellar.Casks[1], d.Grades = list(0, 0), four }, api.ErrArg},
		{"4 heaps", func(d *trade.Trade) { d.Cellar = cask.Cellar{Heaps: make([]cask.Range, 4)} }, api.ErrLimit},
		{"4 heaps, and nothing else", func(d *trade.Trade) {
			*d = trade.Trade{Cellar: cask.Cellar{Heaps: make([]cask.Range, 4)}}
		}, api.ErrLimit},
		{"4 casks", func(d *trade.Trade) { d.Cellar.Casks = make([][]int, 4) }, api.ErrLimit},
		{"6 trials", func(d *trade.Trade) { d.Cellar.Trials = make([]cask.Trial, 6) }, api.ErrLimit},
		{"a heap above 100", func(d *trade.Trade) { d.Cellar.Heaps[1] = cask.Range{Lo: 100, Hi: 101} }, api.ErrArg},
		{"a trial of no heap", func(d *trade.Trade) { d.Cellar.Trials = []cask.Trial{{Number: 2}} }, api.ErrArg},
		{"heaps too wide", func(d *trade.Trade) { d.Cellar.Heaps = wide }, api.ErrLimit},
		{"heaps too wide, and a flat price below 0", func(d *trade.Trade) { d.Cellar.Heaps, d.Flat = wide, -1 }, api.ErrLimit},
		{"heaps as wide as can be", func(d *trade.Trade) {
			d.Cellar.Heaps = []cask.Range{{Lo: 1, Hi: 100}, {Lo: 1, Hi: 20}}
		}, api.OK},
		{"a trial", func(d *trade.Trade) { d.Cellar.Trials = noCellar()[:1] }, api.OK},
		{"no truth of the cellar", func(d *trade.Trade) { d.Cellar.Trials = noCellar() }, api.OK},
		{"no casks", func(d *trade.Trade) { d.Cellar.Casks = nil }, api.OK},
		{"no casks, but a note", func(d *trade.Trade) { d.Cellar.Casks, d.Notes = nil, make([]trade.Note, 1) }, api.ErrArg},
	}
}

func priceChanges() []change {
	grades := func(l ...trade.Grade) func(d *trade.Trade) {
		return func(d *trade.Trade) { d.Grades, d.Orders = l, nil }
	}
	return []change{
		{"no flat price", func(d *trade.Trade) { d.Flat = 0 }, api.OK},
		{"a flat price below 0", func(d *trade.Trade) { d.Flat = -1 }, api.ErrArg},
		{"the highest flat price", func(d *trade.Trade) { d.Flat = 100 }, api.OK},
		{"a flat price that is too high", func(d *trade.Trade) { d.Flat = 101 }, api.ErrArg},
		{"a flat price far off", func(d *trade.Trade) { d.Flat = math.MaxInt }, api.ErrArg},
		{"no grades", grades(), api.ErrArg},
		{"one grade", grades(grade(55, 6)), api.OK},
		{"4 grades", grades(grade(55, 6), grade(51, 4), grade(40, 2), grade(30, 1)), api.ErrLimit},
		{"4 grades, and a flat price below 0", func(d *trade.Trade) { d.Grades, d.Flat = make([]trade.Grade, 4), -1 }, api.ErrLimit},
		{"a grade of 0", grades(grade(0, 6)), api.OK},
		{"a grade below 0", grades(grade(55, 6), grade(-1, 2)), api.ErrArg},
		{"a grade of 100", grades(grade(100, 6)), api.OK},
		{"a grade above 100", grades(grade(101, 6), grade(51, 4)), api.ErrArg},
		{"a grade far off", grades(grade(math.MaxInt, 6), grade(math.MinInt, 4)), api.ErrArg},
		{"grades of the same strength", grades(grade(55, 6), grade(55, 4)), api.ErrArg},
		{"grades whose strength rises", grades(grade(55, 6), grade(40, 4), grade(41, 2)), api.ErrArg},
		{"grades just below each other", grades(grade(2, 6), grade(1, 6), grade(0, 6)), api.OK},
		{"grades of the same price", grades(grade(55, 6), grade(51, 6)), api.OK},
		{"grades whose price rises", grades(grade(55, 6), grade(51, 7)), api.ErrArg},
		{"grades whose price rises at last", grades(grade(55, 6), grade(51, 2), grade(40, 3)), api.ErrArg},
		{"a grade for nothing", grades(grade(55, 6), grade(51, 0)), api.OK},
		{"a price below 0", grades(grade(55, 6), grade(51, -1)), api.ErrArg},
		{"the highest price", grades(grade(55, 100), grade(51, 4)), api.OK},
		{"a price that is too high", grades(grade(55, 101), grade(51, 4)), api.ErrArg},
	}
}

func orderChanges() []change {
	orders := func(l ...trade.Order) func(d *trade.Trade) { return func(d *trade.Trade) { d.Orders = l } }
	return []change{
		{"no orders", orders(), api.OK},
		{"3 orders", orders(order(0, 1), order(0, 1), order(2, 1)), api.OK},
		{"4 orders", orders(order(0, 1), order(0, 1), order(2, 1), order(1, 1)), api.ErrLimit},
		{"4 orders, one of no grade", orders(order(0, 1), order(0, 1), order(2, 1), order(3, 1)), api.ErrLimit},
		{"4 orders, and no grades", func(d *trade.Trade) { d.Grades, d.Orders = nil, make([]trade.Order, 4) }, api.ErrLimit},
		{"an order of a grade after the last", orders(order(0, 1), order(3, 1)), api.ErrArg},
		{"an order of a grade before the first", orders(order(-1, 1)), api.ErrArg},
		{"an order of a grade far off", orders(order(math.MinInt, 1)), api.ErrArg},
		{"an order of nothing", orders(order(0, 0)), api.ErrArg},
		{"an order of less than nothing", orders(order(0, 1), order(0, -1)), api.ErrArg},
		{"an order of the greatest weight", orders(order(0, 90)), api.OK},
		{"an order of a greater weight", orders(order(0, 91)), api.ErrArg},
		{"an order of a weight far off", orders(order(0, math.MaxInt)), api.ErrArg},
	}
}

func noteChanges() []change {
	notes := func(l ...trade.Note) func(d *trade.Trade) { return func(d *trade.Trade) { d.Notes = l } }
	return []change{
		{"5 notes", notes(make([]trade.Note, 5)...), api.OK},
		{"6 notes", notes(make([]trade.Note, 6)...), api.ErrLimit},
		{"6 notes, one of no cask", notes(append(make([]trade.Note, 5), note(2, 0, 0))...), api.ErrLimit},
		{"6 notes, and no grades", func(d *trade.Trade) { d.Grades, d.Notes = nil, make([]trade.Note, 6) }, api.ErrLimit},
		{"a note of the last cask", notes(note(1, 0, 0)), api.OK},
		{"a note of a cask after the last", notes(note(0, 0, 0), note(2, 0, 0)), api.ErrArg},
		{"a note of a cask before the first", notes(note(-1, 0, 0)), api.ErrArg},
		{"a note of a cask far off", notes(note(math.MaxInt, 0, 0)), api.ErrArg},
		{"a note of all money", notes(note(0, 0, 9000)), api.OK},
		{"a note of more money", notes(note(0, 0, 9001)), api.ErrArg},
		{"a note of money below 0", notes(note(0, 0, 0), note(0, -1, 0)), api.ErrArg},
		{"a note upside down", notes(note(0, 81, 80)), api.ErrArg},
		{"a note from end to end", notes(note(0, math.MinInt, math.MaxInt)), api.ErrArg},
		{"a note the other way round", notes(note(0, math.MaxInt, math.MinInt)), api.ErrArg},
		{"notes that contradict each other", notes(note(0, 40, 40), note(0, 80, 80)), api.OK},
		{"a note that is never right", notes(note(0, 41, 79)), api.OK},
	}
}

// P10.1: the errors of a trade, in their order.
func TestCheckTrade(t *testing.T) {
	for _, x := range slices.Concat(cellarChanges(), priceChanges(), orderChanges(), noteChanges()) {
		d := example()
		x.make(&d)
		if e := trade.CheckTrade(d); e != x.want {
			t.Errorf("%s: CheckTrade: %v", x.name, e)
		}
		if x.want == api.OK {
			continue
		}
		// Heaps and a sale that are not valid either: the error of the trade comes first.
		errors, zero := calls(d, nil, list(-1))
		for name, e := range errors {
			if e != x.want {
				t.Errorf("%s: %s: %v", x.name, name, e)
			}
		}
		if !zero {
			t.Errorf("%s: a result together with an error", x.name)
		}
		if proves(d, list(40, 60), list(1), list(1, 0), list(0, 1)) || proves(d, nil, nil, nil, nil) {
			t.Errorf("%s: something is proved", x.name)
		}
	}
}

// P10.1 to P10.6: the errors of calls with a valid trade.
func TestErrors(t *testing.T) {
	const ok, off, no, short, none, not = api.OK, api.ErrRange, api.ErrFail, api.ErrShort, api.ErrNone, api.ErrFalse
	empty, both := example(), example(note(0, 41, 79))
	empty.Cellar.Trials, both.Cellar.Trials = noCellar(), noCellar()
	bare := example()
	bare.Cellar.Casks = nil
	for _, x := range []struct {
		name                                         string
		d                                            trade.Trade
		heaps, sale                                  []int
		play, bounds, worth, fill, short, first, all api.Errno
	}{
		{"as it is", example(), list(40, 60), list(0), ok, ok, ok, short, ok, none, ok},
		{"a note", example(note(0, 80, 80)), list(40, 60), list(0), ok, ok, ok, ok, none, none, ok},
		{"notes that contradict each other", example(note(0, 80, 80), note(0, 40, 40)), list(40, 60), list(0), ok, no, no, no, no, ok, ok},
		{"a note that is never right", example(note(0, 41, 79)), list(40, 60), list(0), ok, no, no, no, no, ok, ok},
		{"a cellar without a truth", empty, list(40, 60), list(0), ok, not, not, not, not, not, not},
		{"a cellar without a truth, and a wrong note", both, list(40, 60), list(0), ok, not, not, not, not, not, not},
		{"a heap too few", example(), list(40), nil, off, ok, ok, short, ok, none, ok},
		{"a heap too many", example(), list(40, 60, 0), nil, off, ok, ok, short, ok, none, ok},
		{"no heaps", example(), nil, nil, off, ok, ok, short, ok, none, ok},
		{"a heap too weak", example(), list(39, 60), nil, off, ok, ok, short, ok, none, ok},
		{"a heap too strong", example(), list(40, 64), nil, off, ok, ok, short, ok, none, ok},
		{"heaps far off", empty, list(math.MinInt, math.MaxInt), nil, off, not, not, not, not, not, not},
		{"no sale: a cask after the last", example(), list(40, 60), list(0, 2), ok, ok, off, short, ok, none, ok},
		{"no sale: a cask before the first", example(), list(40, 60), list(-1), ok, ok, off, short, ok, none, ok},
		{"no sale: a cask twice", example(), list(40, 60), list(1, 1), ok, ok, off, short, ok, none, ok},
		{"no sale: the other way round", example(), list(40, 60), list(1, 0), ok, ok, off, short, ok, none, ok},
		{"no sale, and a note that is never right", example(note(0, 41, 79)), list(40, 60), list(2), ok, no, off, no, no, ok, ok},
		{"no sale, and a cellar without a truth", empty, list(40, 60), list(2), ok, not, off, not, not, not, not},
		{"no casks", bare, list(40, 60), nil, ok, ok, ok, short, ok, none, ok},
		{"no casks, but a sale", bare, list(40, 60), list(0), ok, ok, off, short, ok, none, ok},
	} {
		errors, zero := calls(x.d, x.heaps, x.sale)
		want := map[string]api.Errno{
			"Play": x.play, "Bounds": x.bounds, "Worth": x.worth, "Best": x.bounds, "Fill": x.fill, "Short": x.short,
			"First": x.first, "Leave": x.all,
		}
		for name, e := range errors {
			if e != want[name] {
				t.Errorf("%s: %s: %v", x.name, name, e)
			}
		}
		if !zero {
			t.Errorf("%s: a result together with an error", x.name)
		}
	}
}

// The examples of the chapter.
func TestExamples(t *testing.T) {
	for _, x := range []struct{ heaps, want []int }{{list(40, 60), list(40, 120)}, {list(41, 62), list(80, 120)}} {
		if l, e := trade.Play(example(), x.heaps); e != api.OK || !slices.Equal(l, x.want) {
			t.Errorf("Play of %v: %v, %v", x.heaps, l, e)
		}
	}
	if l, e := trade.Bounds(example()); e != api.OK || !slices.Equal(l, []trade.Range{to(40, 80), to(120, 120)}) {
		t.Errorf("Bounds: %v, %v", l, e)
	}
	for _, x := range []struct {
		sale []int
		want trade.Range
	}{{nil, to(120, 120)}, {list(1), to(180, 180)}, {list(0, 1), to(160, 200)}} {
		if r, e := trade.Worth(example(), x.sale); e != api.OK || r != x.want {
			t.Errorf("Worth of %v: %v, %v", x.sale, r, e)
		}
	}
	if sale, worth, e := trade.Best(example()); e != api.OK || !slices.Equal(sale, list(1)) || worth != 180 {
		t.Errorf("Best: %v, %d, %v", sale, worth, e)
	}
	if l, e := trade.Fill(example()); e != api.ErrShort || l != nil {
		t.Errorf("Fill: %v, %v", l, e)
	}
	if l, e := trade.Short(example()); e != api.OK || !slices.Equal(l, list(0, 1)) {
		t.Errorf("Short: %v, %v", l, e)
	}
	d := example(note(0, 80, 80))
	if l, e := trade.Fill(d); e != api.OK || !slices.Equal(l, list(1, 0)) {
		t.Errorf("Fill: %v, %v", l, e)
	}
	d = with(d, note(0, 40, 40))
	if n, e := trade.First(d); e != api.OK || n != 1 {
		t.Errorf("First: %d, %v", n, e)
	}
	if l, e := trade.Leave(d); e != api.OK || !slices.Equal(l, list(0)) {
		t.Errorf("Leave: %v, %v", l, e)
	}
}

// P10.1: the grade that a strength is of, and its price.
func TestMoney(t *testing.T) {
	three := []trade.Grade{grade(55, 6), grade(51, 4), grade(40, 2)}
	for _, x := range []struct {
		strength, weight int
		grades           []trade.Grade
		want             int
	}{
		{100, 20, three, 120},
		{55, 20, three, 120},
		{54, 20, three, 80},
		{51, 20, three, 80},
		{50, 20, three, 40},
		{40, 20, three, 40},
		{39, 20, three, 0},
		{0, 20, three, 0},
		{0, 20, []trade.Grade{grade(1, 9), grade(0, 7)}, 140},
		{1, 20, []trade.Grade{grade(1, 9), grade(0, 7)}, 180},
		{60, 7, []trade.Grade{grade(60, 5), grade(50, 5)}, 35},
		{50, 7, []trade.Grade{grade(60, 5), grade(50, 5)}, 35},
		{50, 7, []trade.Grade{grade(60, 5), grade(50, 0)}, 0},
		{100, 30, []trade.Grade{grade(100, 100)}, 3000},
		{99, 30, []trade.Grade{grade(100, 100)}, 0},
		{100, 1, []trade.Grade{grade(99, 1)}, 1},
	} {
		d := known(x.strength, 3, x.weight)
		d.Grades = x.grades
		if l, e := trade.Play(d, list(x.strength)); e != api.OK || len(l) != 2 || l[1] != x.want {
			t.Errorf("Play of %v: %v, %v", x, l, e)
		}
	}
	// The most money that there can be.
	d := example(note(0, 9000, 9000))
	d.Cellar.Heaps = slices.Repeat([]cask.Range{{Lo: 100, Hi: 100}}, 3)
	d.Cellar.Casks, d.Grades = slices.Repeat([][]int{{30, 30, 30}}, 3), []trade.Grade{grade(100, 100), grade(0, 0)}
	if l, e := trade.Bounds(d); e != api.OK || !slices.Equal(l, slices.Repeat([]trade.Range{to(9000, 9000)}, 3)) {
		t.Errorf("Bounds: %v, %v", l, e)
	}
	if sale, worth, e := trade.Best(d); e != api.OK || !slices.Equal(sale, list(0, 1, 2)) || worth != 27000 {
		t.Errorf("Best: %v, %d, %v", sale, worth, e)
	}
}

// P10.1: lists that are no truth of the trade, and those that are.
func TestTruths(t *testing.T) {
	tried := example()
	tried.Cellar.Trials = noCellar()[:1]
	for _, x := range []struct {
		name  string
		d     trade.Trade
		heaps []int
		want  bool
	}{
		{"the lowest", example(), list(40, 60), true},
		{"the highest", example(), list(42, 63), true},
		{"too weak", example(), list(39, 60), false},
		{"too strong", example(), list(40, 64), false},
		{"a heap too few", example(), list(40), false},
		{"a heap too many", example(), list(40, 60, 0), false},
		{"nothing", example(), nil, false},
		{"far off", example(), list(math.MaxInt, math.MinInt), false},
		{"a trial that is right", tried, list(42, 62), true},
		{"a trial that is wrong", tried, list(41, 62), false},
		{"a note that is right", example(note(0, 80, 80)), list(41, 62), true},
		{"a note that is wrong", example(note(0, 80, 80)), list(40, 60), false},
		{"the note's least", example(note(0, 40, 79)), list(40, 60), true},
		{"below the note", example(note(0, 41, 80)), list(40, 60), false},
		{"above the note", example(note(0, 0, 39)), list(40, 60), false},
		{"the note's most", example(note(0, 0, 40)), list(40, 60), true},
		{"one of two notes is wrong", example(note(0, 40, 40), note(1, 0, 119)), list(40, 60), false},
		{"both notes are right", example(note(0, 40, 40), note(1, 0, 120)), list(40, 60), true},
	} {
		if trade.ProveTruth(x.d, x.heaps) != x.want {
			t.Errorf("%s: ProveTruth", x.name)
		}
	}
}

// P10.2: sales, and numbers that their worth is at least, and others.
func TestProveWorth(t *testing.T) {
	empty := example()
	empty.Cellar.Trials = noCellar()
	for _, x := range []struct {
		name  string
		d     trade.Trade
		sale  []int
		worth int
		want  bool
	}{
		{"the least", example(), list(0, 1), 160, true},
		{"more than the least", example(), list(0, 1), 161, false},
		{"less than the least", example(), list(0, 1), 159, true},
		{"below 0", example(), list(0, 1), math.MinInt, true},
		{"far off", example(), list(0, 1), math.MaxInt, false},
		{"no cask", example(), nil, 120, true},
		{"no cask, for more", example(), nil, 121, false},
		{"more is sure by a note", example(note(0, 80, 80)), list(0, 1), 200, true},
		{"the other way round", example(), list(1, 0), 0, false},
		{"a cask twice", example(), list(1, 1), 0, false},
		{"no such cask", example(), list(2), 0, false},
		{"a cask below 0", example(), list(-1), 0, false},
		{"too many casks", example(), make([]int, 1000), 0, false},
		{"a note that is never right", example(note(0, 41, 79)), nil, 0, false},
		{"a cellar without a truth", empty, nil, 0, false},
	} {
		if trade.ProveWorth(x.d, x.sale, x.worth) != x.want {
			t.Errorf("%s: ProveWorth", x.name)
		}
	}
}

// P10.3: of sales of the same sure worth the first one, which need not be the
// shortest.
func TestEquallyGood(t *testing.T) {
	for _, x := range []struct {
		flat    int
		weights []int
		prices  []int // of a cask of the strength 0, 1 and 2
		casks   []int // their strengths
		want    []int
		worth   int
	}{
		{1, list(5, 5, 5), list(1, 1, 1), list(0, 1, 2), nil, 15},
		{1, list(5, 5, 5), list(1, 1, 2), list(0, 1, 2), list(0, 1, 2), 20},
		{1, list(5, 5, 5), list(0, 1, 2), list(2, 0, 1), list(0), 20},
		{1, list(5, 5, 5), list(0, 1, 2), list(0, 2, 1), list(1), 20},
		{1, list(5, 5, 5), list(0, 1, 2), list(1, 2, 0), list(0, 1), 20},
		{1, list(5, 5, 5), list(0, 1, 2), list(1, 0, 2), list(0, 2), 20},
		{2, list(5, 6, 7), list(0, 1, 2), list(2, 1, 0), nil, 36},
		{0, list(5, 6, 7), list(0, 1, 2), list(2, 1, 0), list(0, 1), 16},
		{0, list(5, 6, 7), list(0, 0, 0), list(2, 1, 0), nil, 0},
	} {
		// A heap for each cask, so that each one has a strength of its own.
		d := trade.Trade{Flat: x.flat, Grades: []trade.Grade{grade(2, x.prices[2]), grade(1, x.prices[1]), grade(0, x.prices[0])}}
		for number, strength := range x.casks {
			weights := make([]int, 3)
			weights[number] = x.weights[number]
			d.Cellar.Heaps = append(d.Cellar.Heaps, cask.Range{Lo: strength, Hi: strength})
			d.Cellar.Casks = append(d.Cellar.Casks, weights)
		}
		if sale, worth, e := trade.Best(d); e != api.OK || !slices.Equal(sale, x.want) || worth != x.worth {
			t.Errorf("Best of %v: %v, %d, %v", x, sale, worth, e)
		}
	}
}

// P10.4, P10.5: who gets which cask of 10, 20 and 30, and for whom there is none.
func TestOrders(t *testing.T) {
	for _, x := range []struct {
		strength     int
		orders       []trade.Order
		fill, shorts []int
	}{
		{50, nil, nil, nil},
		{50, []trade.Order{order(0, 10)}, list(0), nil},
		{50, []trade.Order{order(0, 11)}, list(1), nil},
		{50, []trade.Order{order(0, 30)}, list(2), nil},
		{50, []trade.Order{order(0, 31)}, nil, list(0)},
		{49, []trade.Order{order(0, 10)}, nil, list(0)},
		{49, []trade.Order{order(1, 10)}, list(0), nil},
		{50, []trade.Order{order(1, 10)}, list(0), nil},
		{50, []trade.Order{order(1, 1), order(0, 1)}, list(0, 1), nil},
		{50, []trade.Order{order(1, 20), order(0, 20), order(0, 1)}, list(1, 2, 0), nil},
		{50, []trade.Order{order(1, 1), order(1, 1), order(1, 1)}, list(0, 1, 2), nil},
		{50, []trade.Order{order(1, 25), order(1, 25), order(1, 1)}, nil, list(0, 1)},
		{50, []trade.Order{order(1, 25), order(1, 1), order(1, 30)}, nil, list(0, 2)},
		{50, []trade.Order{order(1, 20), order(1, 15), order(1, 12)}, nil, list(0, 1, 2)},
		{50, []trade.Order{order(1, 25), order(1, 25), order(1, 31)}, nil, list(2)},
		{50, []trade.Order{order(1, 1), order(1, 90), order(1, 31)}, nil, list(1)},
		{49, []trade.Order{order(1, 1), order(0, 1), order(1, 1)}, nil, list(1)},
	} {
		d := known(x.strength, 10, 20, 30)
		d.Grades, d.Orders = []trade.Grade{grade(50, 0), grade(40, 0)}, x.orders
		fill, e := trade.Fill(d)
		orders, f := trade.Short(d)
		if !slices.Equal(fill, x.fill) || !slices.Equal(orders, x.shorts) {
			t.Errorf("%v: Fill %v, Short %v", x, fill, orders)
		}
		filled := x.shorts == nil
		if filled && (e != api.OK || f != api.ErrNone) || !filled && (e != api.ErrShort || f != api.OK) {
			t.Errorf("%v: Fill %v, Short %v", x, e, f)
		}
		if trade.ProveFill(d, fill) != filled || trade.ProveShort(d, orders) == filled {
			t.Errorf("%v: ProveFill, ProveShort", x)
		}
	}
}

// P10.4, P10.5: lists of another length, and with casks and orders that are not
// there.
func TestProveOrders(t *testing.T) {
	d := known(50, 10, 20, 30)
	d.Orders = []trade.Order{order(0, 10), order(0, 10)}
	for _, x := range []struct {
		list []int
		want bool
	}{
		{list(0, 1), true}, {list(2, 0), true}, {list(1, 1), false}, {list(0), false}, {nil, false}, {list(0, 1, 2), false},
		{list(0, 3), false}, {list(-1, 0), false}, {list(math.MinInt, math.MaxInt), false},
	} {
		if trade.ProveFill(d, x.list) != x.want {
			t.Errorf("ProveFill of %v", x.list)
		}
	}
	d.Orders = []trade.Order{order(0, 30), order(0, 30), order(0, 10)}
	for _, x := range []struct {
		list []int
		want bool
	}{
		{list(0, 1), true}, {list(0, 1, 2), false}, {list(1, 0), false}, {list(0), false}, {nil, false}, {list(0, 0), false},
		{list(0, 1, 3), false}, {list(-1, 0, 1), false}, {list(math.MinInt, 0, 1), false}, {list(0, 1, math.MaxInt), false},
	} {
		if trade.ProveShort(d, x.list) != x.want {
			t.Errorf("ProveShort of %v", x.list)
		}
	}
	d.Orders = []trade.Order{order(0, 31), order(0, 30), order(0, 31)}
	for _, l := range [][]int{{0}, {2}, {0, 1}, {0, 2}, {1, 2}, {0, 1, 2}} {
		if !trade.ProveShort(d, l) {
			t.Errorf("ProveShort of %v", l)
		}
	}
	d.Notes = []trade.Note{note(0, 0, 0)}
	if trade.ProveShort(d, list(0)) || trade.ProveFill(known(50, 10), list(0)) || !trade.ProveFill(known(50, 10), nil) {
		t.Error("a trade without a truth, or without orders")
	}
}

// P10.2, P10.3: by the oracle.
func TestMoneyByOracle(t *testing.T) {
	s := oracle.Seen{}
	check := func(d trade.Trade) {
		want := errorOf(d)
		bounds, e1 := trade.Bounds(d)
		best, sure, e2 := trade.Best(d)
		s.Count("the cellar has no truth", want == api.ErrFalse)
		s.Count("it has no truth", want == api.ErrFail)
		if e1 != want || e2 != want {
			t.Fatalf("Bounds, Best of %v: %v, %v; not %v", d, e1, e2, want)
		}
		if want != api.OK {
			return
		}
		truths := truthsOf(d)
		var ranges []trade.Range
		for number := range d.Cellar.Casks {
			ranges = append(ranges, boundsOf(truths, func(heaps []int) int { return moneyOf(d, number, heaps) }))
		}
		if !slices.Equal(bounds, ranges) {
			t.Fatalf("Bounds of %v: %v, not %v", d, bounds, ranges)
		}
		for _, sale := range sales(d) {
			r := boundsOf(truths, func(heaps []int) int { return worthOf(d, heaps, sale) })
			if worth, e := trade.Worth(d, sale); e != api.OK || worth != r {
				t.Fatalf("Worth of %v, %v: %v, %v; not %v", d, sale, worth, e, r)
			}
			if !trade.ProveWorth(d, sale, r.Lo) || trade.ProveWorth(d, sale, r.Lo+1) {
				t.Fatalf("ProveWorth of %v, %v: not %d", d, sale, r.Lo)
			}
			s.Count("a sale's worth is not known", r.Lo < r.Hi)
		}
		if sale, worth := bestOf(d); !slices.Equal(best, sale) || sure != worth {
			t.Fatalf("Best of %v: %v, %d; not %v, %d", d, best, sure, sale, worth)
		}
		s.Count("some casks are sold by trial", 0 < len(best) && len(best) < len(bounds))
		s.Count("notes tell something", len(truths) < len(oracle.TruthsOf(d.Cellar)))
	}
	for _, d := range randomTrades(2500, 3) {
		check(d)
	}
	for _, d := range bigTrades() {
		check(d)
	}
	s.Need(t, 100, "the cellar has no truth", "it has no truth", "a sale's worth is not known", "some casks are sold by trial", "notes tell something")
}

// P10.4, P10.5: by the oracle, which tries every list.
func TestOrdersByOracle(t *testing.T) {
	s := oracle.Seen{}
	check := func(d trade.Trade) {
		fill, e := trade.Fill(d)
		orders, f := trade.Short(d)
		if want := errorOf(d); want != api.OK {
			if e != want || f != want {
				t.Fatalf("Fill, Short of %v: %v, %v; not %v", d, e, f, want)
			}
			return
		}
		truths := truthsOf(d)
		for _, l := range assignments(d) {
			if want := isDelivery(d, truths, l); trade.ProveFill(d, l) != want {
				t.Fatalf("ProveFill of %v, %v: not %v", d, l, want)
			}
		}
		for _, l := range oracle.ShortestFirst(len(d.Orders)) {
			if want := isShort(d, truths, l); trade.ProveShort(d, l) != want {
				t.Fatalf("ProveShort of %v, %v: not %v", d, l, want)
			}
		}
		if l, is := deliveryOf(d); is != (e == api.OK) || !is && e != api.ErrShort || !slices.Equal(fill, l) {
			t.Fatalf("Fill of %v: %v, %v; not %v", d, fill, e, l)
		}
		if l, is := shortOf(d); is != (f == api.OK) || !is && f != api.ErrNone || !slices.Equal(orders, l) {
			t.Fatalf("Short of %v: %v, %v; not %v", d, orders, f, l)
		}
		s.Count("orders are filled", len(fill) > 1)
		s.Count("one order is short", len(orders) == 1)
		s.Count("several orders are short", len(orders) > 1)
	}
	for _, d := range randomTrades(2000, 2) {
		check(d)
	}
	for _, d := range bigTrades() {
		check(d)
	}
	s.Need(t, 50, "orders are filled", "one order is short", "several orders are short")
}

// P10.6: by the oracle, which tries every set of notes.
func TestFirstAndLeave(t *testing.T) {
	s := oracle.Seen{}
	for _, d := range randomTrades(1500, 5) {
		if errorOf(d) == api.ErrFalse {
			continue
		}
		first, e := firstOf(d)
		if n, g := trade.First(d); n != first || g != e {
			t.Fatalf("First of %v: %d, %v; not %d, %v", d, n, g, first, e)
		}
		smallest := leaveOf(d)
		if notes, g := trade.Leave(d); g != api.OK || !slices.Equal(notes, smallest) {
			t.Fatalf("Leave of %v: %v, %v; not %v", d, notes, g, smallest)
		}
		s.Count("a note is wrong", len(smallest) > 0)
		s.Count("two notes are wrong", len(smallest) > 1)
	}
	s.Need(t, 50, "a note is wrong", "two notes are wrong")
}

// P10.6: all notes have to be left out, or all but one.
func TestLeaveAll(t *testing.T) {
	never := note(0, 41, 79)
	d := example(never, never, never, never, never)
	if l, e := trade.Leave(d); e != api.OK || !slices.Equal(l, list(0, 1, 2, 3, 4)) {
		t.Errorf("Leave: %v, %v", l, e)
	}
	if n, e := trade.First(d); e != api.OK || n != 0 {
		t.Errorf("First: %d, %v", n, e)
	}
	d = example(note(1, 120, 120), never, note(0, 0, 41), note(0, 79, 90), note(0, 80, 80))
	if l, e := trade.Leave(d); e != api.OK || !slices.Equal(l, list(1, 2)) {
		t.Errorf("Leave: %v, %v", l, e)
	}
	if n, e := trade.First(d); e != api.OK || n != 1 {
		t.Errorf("First: %d, %v", n, e)
	}
}

// P10.1: by the oracle, of each list of the heaps' ranges, and of some beside them.
func TestProveTruth(t *testing.T) {
	s := oracle.Seen{}
	for r, d := range randomTrades(400, 2) {
		truths := truthsOf(d)
		for _, heaps := range oracle.OneOfEach(d.Cellar.Heaps...) {
			if l, e := trade.Play(d, heaps); e != api.OK || !slices.Equal(l, allMoney(d, heaps)) {
				t.Fatalf("Play of %v, %v: %v, %v", d, heaps, l, e)
			}
			want := slices.ContainsFunc(truths, func(l []int) bool { return slices.Equal(l, heaps) })
			if trade.ProveTruth(d, heaps) != want {
				t.Fatalf("ProveTruth of %v, %v: not %v", d, heaps, want)
			}
			s.Count("a truth", want)
			s.Count("no truth", !want)
			n := r.IntN(len(heaps))
			heaps[n] = []int{d.Cellar.Heaps[n].Lo - 1, d.Cellar.Heaps[n].Hi + 1}[r.IntN(2)]
			if _, e := trade.Play(d, heaps); e != api.ErrRange || trade.ProveTruth(d, heaps) {
				t.Fatalf("Play, ProveTruth of %v, %v: %v", d, heaps, e)
			}
		}
	}
	s.Need(t, 500, "a truth", "no truth")
}
