package rack_test

import (
	"math"
	"slices"
	"testing"

	"isatis/api"
	"isatis/rack"
)

func to(low, high int) rack.Range { return rack.Range{Lo: low, Hi: high} }

func list(l ...int) []int { return l }

// order has a list for each rack.
func order(lists ...[]int) [][]int { return lists }

func stay(on, off int, dry bool) rack.Stay { return rack.Stay{On: on, Off: off, Dry: dry} }

// example is the yard of the chapter's examples.
func example() rack.Yard {
	return rack.Yard{Last: 5, Racks: 1, Wet: 1, Run: 1, Lots: []rack.Lot{
		{Comes: to(0, 0), Dry: 2, Rot: 2, Due: 2},
		{Comes: to(1, 1), Dry: 2, Rot: 1, Due: 5},
	}}
}

// weather has so many days, of which these are wet.
func weather(days int, wet ...int) []bool {
	l := make([]bool, days)
	for _, day := range wet {
		l[day] = true
	}
	return l
}

// truth is one of the example, with these wet days.
func truth(wet ...int) rack.Truth {
	return rack.Truth{Comes: list(0, 1), Wet: weather(6, wet...)}
}

// lots is a yard of ten days without rain, with as many lots as there are ranges.
func lots(comes ...rack.Range) rack.Yard {
	y := rack.Yard{Last: 9, Racks: 1}
	for _, r := range comes {
		y.Lots = append(y.Lots, rack.Lot{Comes: r, Dry: 1, Rot: 1})
	}
	return y
}

// calls are the errors of all calls with the yard, and whether each of them
// returns nothing else together with its error.
func calls(y rack.Yard, o [][]int, t rack.Truth, lot int) (map[string]api.Errno, bool) {
	play, e1 := rack.Play(y, o, t)
	saved, e2 := rack.Saved(y, o, lot)
	loss, worst, e3 := rack.Lost(y, o)
	best, least, e4 := rack.Best(y)
	sure, most, e5 := rack.Sure(y)
	hopeless, e6 := rack.Hopeless(y)
	zero := (e1 == 0 || play == nil) && (e2 == 0 || saved == 0) && (e3 == 0 || loss == 0 && worst.Comes == nil && worst.Wet == nil) &&
		(e4 == 0 || best == nil && least == 0) && (e5 == 0 || sure == nil && most == 0) && (e6 == 0 || hopeless == nil)
	return map[string]api.Errno{"Play": e1, "Saved": e2, "Lost": e3, "Best": e4, "Sure": e5, "Hopeless": e6}, zero
}

type change struct {
	name string
	make func(y *rack.Yard)
	want api.Errno
}

func yardChanges() []change {
	return []change{
		{"as it is", func(y *rack.Yard) {}, api.OK},
		{"10 days", func(y *rack.Yard) { y.Last = 9 }, api.OK},
		{"11 days", func(y *rack.Yard) { y.Last = 10 }, api.ErrLimit},
		{"the greatest Last", func(y *rack.Yard) { y.Last = math.MaxInt }, api.ErrLimit},
		{"1 day", func(y *rack.Yard) { y.Last, y.Lots = 0, y.Lots[:1]; y.Lots[0].Due = 0 }, api.OK},
		{"no days", func(y *rack.Yard) { y.Last, y.Lots, y.Wet, y.Run = -1, nil, 0, 0 }, api.ErrArg},
		{"the smallest Last", func(y *rack.Yard) { y.Last, y.Lots = math.MinInt, nil }, api.ErrArg},
		{"2 racks", func(y *rack.Yard) { y.Racks = 2 }, api.OK},
		{"3 racks", func(y *rack.Yard) { y.Racks = 3 }, api.ErrLimit},
		{"3 racks, no days", func(y *rack.Yard) { y.Racks, y.Last = 3, -1 }, api.ErrLimit},
		{"no racks", func(y *rack.Yard) { y.Racks = 0 }, api.ErrArg},
		{"less than no racks", func(y *rack.Yard) { y.Racks = math.MinInt }, api.ErrArg},
		{"Wet 0", func(y *rack.Yard) { y.Wet = 0 }, api.OK},
		{"Wet below 0", func(y *rack.Yard) { y.Wet = -1 }, api.ErrArg},
		{"Wet for all days", func(y *rack.Yard) { y.Wet = 6 }, api.OK},
		{"Wet for more days", func(y *rack.Yard) { y.Wet = 7 }, api.ErrArg},
		{"the greatest Wet", func(y *rack.Yard) { y.Wet = math.MaxInt }, api.ErrArg},
		{"Run 0", func(y *rack.Yard) { y.Run = 0 }, api.OK},
		{"Run below 0", func(y *rack.Yard) { y.Run = -1 }, api.ErrArg},
		{"Run for all days", func(y *rack.Yard) { y.Run = 6 }, api.OK},
		{"Run for more days", func(y *rack.Yard) { y.Run = 7 }, api.ErrArg},
		{"no lots", func(y *rack.Yard) { y.Lots = nil }, api.OK},
		{"an empty list of lots", func(y *rack.Yard) { y.Lots = []rack.Lot{} }, api.OK},
		{"4 lots", func(y *rack.Yard) { y.Lots = append(y.Lots, y.Lots...) }, api.OK},
		{"5 lots", func(y *rack.Yard) { y.Lots = slices.Repeat(y.Lots[:1], 5) }, api.ErrLimit},
		{"5 lots, none of them valid", func(y *rack.Yard) { y.Lots = make([]rack.Lot, 5) }, api.ErrLimit},
		{"5 lots, no racks", func(y *rack.Yard) { y.Lots, y.Racks = slices.Repeat(y.Lots[:1], 5), 0 }, api.ErrLimit},
	}
}

func lotChanges() []change {
	return []change{
		{"Comes in all days", func(y *rack.Yard) { y.Lots[1].Comes = to(0, 5) }, api.OK},
		{"Comes below 0", func(y *rack.Yard) { y.Lots[1].Comes = to(-1, 1) }, api.ErrArg},
		{"Comes after the days", func(y *rack.Yard) { y.Lots[1].Comes = to(1, 6) }, api.ErrArg},
		{"Comes upside down", func(y *rack.Yard) { y.Lots[1].Comes = to(2, 1) }, api.ErrArg},
		{"Comes far off", func(y *rack.Yard) { y.Lots[1].Comes = to(math.MinInt, math.MaxInt) }, api.ErrArg},
		{"Dry 0", func(y *rack.Yard) { y.Lots[1].Dry = 0 }, api.ErrArg},
		{"Dry 1", func(y *rack.Yard) { y.Lots[1].Dry = 1 }, api.OK},
		{"Dry 5", func(y *rack.Yard) { y.Lots[1].Dry = 5 }, api.OK},
		{"Dry 6", func(y *rack.Yard) { y.Lots[1].Dry = 6 }, api.ErrArg},
		{"Rot 0", func(y *rack.Yard) { y.Lots[1].Rot = 0 }, api.ErrArg},
		{"Rot 5", func(y *rack.Yard) { y.Lots[1].Rot = 5 }, api.OK},
		{"Rot 6", func(y *rack.Yard) { y.Lots[1].Rot = 6 }, api.ErrArg},
		{"Due 0", func(y *rack.Yard) { y.Lots[1].Due = 0 }, api.OK},
		{"Due below 0", func(y *rack.Yard) { y.Lots[1].Due = -1 }, api.ErrArg},
		{"Due after the days", func(y *rack.Yard) { y.Lots[1].Due = 6 }, api.ErrArg},
		{"the first lot", func(y *rack.Yard) { y.Lots[0].Dry = 0 }, api.ErrArg},
		{"1000 truths", func(y *rack.Yard) { *y = lots(to(0, 9), to(0, 9), to(0, 9)) }, api.OK},
		{"1000 truths, and lots of one day", func(y *rack.Yard) { *y = lots(to(0, 9), to(0, 9), to(0, 9), to(3, 3)) }, api.OK},
		{"2000 truths", func(y *rack.Yard) { *y = lots(to(0, 9), to(0, 9), to(0, 9), to(0, 1)) }, api.ErrLimit},
		{"1000 weathers", func(y *rack.Yard) { *y = lots(); y.Wet, y.Run = 8, 6 }, api.OK},
		{"1010 weathers", func(y *rack.Yard) { *y = lots(); y.Wet, y.Run = 8, 7 }, api.ErrLimit},
		{"1000 truths, some of them wet", func(y *rack.Yard) { *y = lots(to(0, 1)); y.Wet, y.Run = 6, 2 }, api.OK},
		{"1500 truths, some of them wet", func(y *rack.Yard) { *y = lots(to(0, 2)); y.Wet, y.Run = 6, 2 }, api.ErrLimit},
		{"all weathers", func(y *rack.Yard) { *y = lots(); y.Wet, y.Run = 10, 10 }, api.ErrLimit},
		{"too many truths, and Dry", func(y *rack.Yard) { *y = lots(to(0, 9), to(0, 9), to(0, 9), to(0, 9)); y.Lots[3].Dry = 6 }, api.ErrArg},
		{"too many truths, and 3 racks", func(y *rack.Yard) { *y = lots(to(0, 9), to(0, 9), to(0, 9), to(0, 9)); y.Racks = 3 }, api.ErrLimit},
	}
}

// P3.1: the errors of a yard, in their order.
func TestCheckYard(t *testing.T) {
	for _, x := range slices.Concat(yardChanges(), lotChanges()) {
		y := example()
		x.make(&y)
		if e := rack.CheckYard(y); e != x.want {
			t.Errorf("%s: CheckYard: %v", x.name, e)
		}
		if x.want == api.OK {
			continue
		}
		// No order and no lot of the yard: the error of the yard comes first.
		errors, zero := calls(y, nil, rack.Truth{}, -1)
		for name, e := range errors {
			if e != x.want {
				t.Errorf("%s: %s: %v", x.name, name, e)
			}
		}
		if !zero {
			t.Errorf("%s: a result together with an error", x.name)
		}
		for _, o := range [][][]int{nil, order(nil), order(list(0, 1)), order(list(0, 1), nil)} {
			if rack.ProveOrder(y, o, math.MaxInt) || rack.ProveLoss(y, o, truth(), math.MinInt) || rack.ProveLoss(y, o, rack.Truth{}, 0) {
				t.Errorf("%s: something is proved of a yard that is not valid", x.name)
			}
		}
	}
}

// P3.1: truths are counted as the oracle counts them.
func TestManyTruths(t *testing.T) {
	for last := range 10 {
		for wet := range last + 2 {
			for run := range last + 2 {
				y := rack.Yard{Last: last, Racks: 1, Wet: wet, Run: run}
				weathers := len(weathersOf(y))
				for size := 1; size <= last+1; size++ {
					y.Lots = []rack.Lot{{Comes: to(last+1-size, last), Dry: 1, Rot: 1}, {Comes: to(0, min(1, last)), Dry: 1, Rot: 1}}
					want := api.OK
					if weathers*size*min(2, last+1) > 1000 {
						want = api.ErrLimit
					}
					if e := rack.CheckYard(y); e != want {
						t.Errorf("CheckYard of %v: %v", y, e)
					}
				}
			}
		}
	}
}

// P3.1, P3.2, P3.3: lists that are no orders of the example.
func TestNoOrders(t *testing.T) {
	for _, x := range []struct {
		name  string
		racks int
		order [][]int
		want  api.Errno
	}{
		{"an order", 1, order(list(1, 0)), api.OK},
		{"an order of two racks", 2, order(list(1), list(0)), api.OK},
		{"an order with nothing on a rack", 2, order(nil, list(0, 1)), api.OK},
		{"an order with an empty list", 2, order(list(0, 1), list()), api.OK},
		{"nothing", 1, nil, api.ErrRange},
		{"no lots", 1, order(nil), api.ErrRange},
		{"a rack too few", 2, order(list(0, 1)), api.ErrRange},
		{"a rack too many", 1, order(list(0), list(1)), api.ErrRange},
		{"an empty rack too many", 1, order(list(0, 1), nil), api.ErrRange},
		{"a lot too few", 1, order(list(1)), api.ErrRange},
		{"a lot twice", 1, order(list(0, 0)), api.ErrRange},
		{"a lot twice, and all are there", 1, order(list(0, 1, 0)), api.ErrRange},
		{"a lot on two racks", 2, order(list(0, 1), list(0)), api.ErrRange},
		{"a lot twice instead of another", 2, order(list(0), list(0)), api.ErrRange},
		{"a lot too many", 1, order(list(0, 1, 2)), api.ErrRange},
		{"a lot that is not there", 1, order(list(0, 2)), api.ErrRange},
		{"a lot below 0", 1, order(list(-1, 0)), api.ErrRange},
		{"lots far off", 2, order(list(math.MinInt), list(math.MaxInt)), api.ErrRange},
	} {
		y := example()
		y.Racks = x.racks
		errors, zero := calls(y, x.order, truth(), 0)
		for _, name := range []string{"Play", "Saved", "Lost"} {
			if errors[name] != x.want {
				t.Errorf("%s: %s: %v", x.name, name, errors[name])
			}
		}
		if !zero || errors["Best"] != api.OK || errors["Sure"] != api.OK || errors["Hopeless"] != api.OK {
			t.Errorf("%s: %v", x.name, errors)
		}
		if rack.ProveOrder(y, x.order, 2) != (x.want == api.OK) || rack.ProveLoss(y, x.order, truth(), 0) != (x.want == api.OK) {
			t.Errorf("%s: ProveOrder, ProveLoss", x.name)
		}
	}
}

// P3.1, P3.2: truths that are not of the example, or not allowed.
func TestNoTruths(t *testing.T) {
	y := example()
	y.Lots[1].Comes = to(1, 3)
	y.Wet = 2
	for _, x := range []struct {
		name   string
		change func(t *rack.Truth)
		want   api.Errno
	}{
		{"a truth", func(t *rack.Truth) {}, api.OK},
		{"the last day of Comes", func(t *rack.Truth) { t.Comes[1] = 3 }, api.OK},
		{"two wet days", func(t *rack.Truth) { t.Wet = weather(6, 0, 5) }, api.OK},
		{"two wet days with one between", func(t *rack.Truth) { t.Wet = weather(6, 1, 3) }, api.OK},
		{"three wet days", func(t *rack.Truth) { t.Wet = weather(6, 0, 2, 4) }, api.ErrRange},
		{"two wet days in a run", func(t *rack.Truth) { t.Wet = weather(6, 4, 5) }, api.ErrRange},
		{"a run at the beginning", func(t *rack.Truth) { t.Wet = weather(6, 0, 1) }, api.ErrRange},
		{"nothing", func(t *rack.Truth) { *t = rack.Truth{} }, api.ErrRange},
		{"no Comes", func(t *rack.Truth) { t.Comes = nil }, api.ErrRange},
		{"no Wet", func(t *rack.Truth) { t.Wet = nil }, api.ErrRange},
		{"Comes too short", func(t *rack.Truth) { t.Comes = t.Comes[:1] }, api.ErrRange},
		{"Comes too long", func(t *rack.Truth) { t.Comes = append(t.Comes, 1) }, api.ErrRange},
		{"Wet too short", func(t *rack.Truth) { t.Wet = t.Wet[:5] }, api.ErrRange},
		{"Wet too long", func(t *rack.Truth) { t.Wet = append(t.Wet, false) }, api.ErrRange},
		{"a lot comes too late", func(t *rack.Truth) { t.Comes[1] = 4 }, api.ErrRange},
		{"a lot comes too early", func(t *rack.Truth) { t.Comes[1] = 0 }, api.ErrRange},
		{"a lot comes before the days", func(t *rack.Truth) { t.Comes[0] = -1 }, api.ErrRange},
		{"the other lot's day", func(t *rack.Truth) { t.Comes[0] = 1 }, api.ErrRange},
	} {
		is := truth()
		x.change(&is)
		l, e := rack.Play(y, order(list(0, 1)), is)
		if e != x.want || (l == nil) != (e != api.OK) {
			t.Errorf("%s: Play: %v, %v", x.name, l, e)
		}
		if rack.ProveLoss(y, order(list(0, 1)), is, 0) != (x.want == api.OK) {
			t.Errorf("%s: ProveLoss", x.name)
		}
	}
}

// P3.2: lots that are not there.
func TestNoLots(t *testing.T) {
	for lot, want := range map[int]api.Errno{math.MinInt: api.ErrRange, -1: api.ErrRange, 0: api.OK, 1: api.OK, 2: api.ErrRange, math.MaxInt: api.ErrRange} {
		if saved, e := rack.Saved(example(), order(list(0, 1)), lot); e != want || (saved == 0) != (e != api.OK) {
			t.Errorf("Saved of the lot %d: %d, %v", lot, saved, e)
		}
	}
	y := example()
	y.Lots = nil
	if saved, e := rack.Saved(y, order(nil), 0); saved != 0 || e != api.ErrRange {
		t.Errorf("Saved without lots: %d, %v", saved, e)
	}
}

// The examples of the chapter.
func TestExamples(t *testing.T) {
	for _, x := range []struct {
		order [][]int
		wet   int
		want  []rack.Stay
	}{
		{order(list(0, 1)), 1, []rack.Stay{stay(0, 2, true), stay(3, 4, true)}},
		{order(list(0, 1)), 3, []rack.Stay{stay(0, 1, true), stay(2, 3, false)}},
		{order(list(1, 0)), 1, []rack.Stay{stay(2, 3, true), stay(1, 1, false)}},
	} {
		if l, e := rack.Play(example(), x.order, truth(x.wet)); e != api.OK || !slices.Equal(l, x.want) {
			t.Errorf("Play of %v with the wet day %d: %v, %v", x.order, x.wet, l, e)
		}
	}
	for _, x := range []struct {
		order [][]int
		saved []int
		loss  int
	}{
		{order(list(0, 1)), list(rack.Always, rack.Perhaps), 1},
		{order(list(1, 0)), list(rack.Never, rack.Perhaps), 2},
	} {
		for lot, want := range x.saved {
			if saved, e := rack.Saved(example(), x.order, lot); e != api.OK || saved != want {
				t.Errorf("Saved of %v, %d: %d, %v", x.order, lot, saved, e)
			}
		}
		if many, worst, e := rack.Lost(example(), x.order); e != api.OK || many != x.loss || !rack.ProveLoss(example(), x.order, worst, many) {
			t.Errorf("Lost of %v: %d, %v, %v", x.order, many, worst, e)
		}
	}
	if o, many, e := rack.Best(example()); e != api.OK || many != 1 || len(o) != 1 || !slices.Equal(o[0], list(0, 1)) {
		t.Errorf("Best: %v, %d, %v", o, many, e)
	}
	if o, many, e := rack.Sure(example()); e != api.OK || many != 1 || !rack.ProveOrder(example(), o, 1) {
		t.Errorf("Sure: %v, %d, %v", o, many, e)
	}
	if l, e := rack.Hopeless(example()); e != api.OK || !slices.Equal(l, list(1)) {
		t.Errorf("Hopeless: %v, %v", l, e)
	}
	y := example()
	y.Wet = 0
	if o, many, e := rack.Best(y); e != api.OK || many != 0 || !rack.ProveOrder(y, o, 0) {
		t.Errorf("Best with Wet 0: %v, %d, %v", o, many, e)
	}
	if _, many, e := rack.Sure(y); e != api.OK || many != 2 {
		t.Errorf("Sure with Wet 0: %d, %v", many, e)
	}
	if l, e := rack.Hopeless(y); e != api.OK || len(l) > 0 {
		t.Errorf("Hopeless with Wet 0: %v, %v", l, e)
	}
}

// P3.1: what a stay is at its edges.
func TestEdgesOfStays(t *testing.T) {
	lot := func(comes, dry, rot int) rack.Lot {
		return rack.Lot{Comes: to(comes, comes), Dry: dry, Rot: rot, Due: 5}
	}
	for _, x := range []struct {
		name string
		lots []rack.Lot
		wet  []int
		want []rack.Stay
	}{
		{"a wet day between dry ones", []rack.Lot{lot(0, 2, 2)}, list(1), []rack.Stay{stay(0, 2, true)}},
		{"a wet day that rots", []rack.Lot{lot(0, 2, 1)}, list(1), []rack.Stay{stay(0, 1, false)}},
		{"a break between wet days", []rack.Lot{lot(0, 3, 2)}, list(0, 2), []rack.Stay{stay(0, 4, true)}},
		{"no break between wet days", []rack.Lot{lot(0, 3, 2)}, list(1, 2), []rack.Stay{stay(0, 2, false)}},
		{"wet days before the lot came", []rack.Lot{lot(2, 1, 2)}, list(0, 1, 2), []rack.Stay{stay(2, 3, true)}},
		{"wet days from when it came", []rack.Lot{lot(1, 1, 2)}, list(0, 1, 2), []rack.Stay{stay(1, 2, false)}},
		{"dry on the last day", []rack.Lot{lot(4, 2, 1)}, nil, []rack.Stay{stay(4, 5, true)}},
		{"rotten on the last day", []rack.Lot{lot(5, 2, 1)}, list(5), []rack.Stay{stay(5, 5, false)}},
		{"not dry up to the last day", []rack.Lot{lot(4, 3, 1)}, nil, []rack.Stay{stay(4, -1, false)}},
		{"it does not leave, and one waits", []rack.Lot{lot(4, 3, 1), lot(0, 1, 1)}, nil, []rack.Stay{stay(4, -1, false), stay(-1, -1, false)}},
		{"it leaves on the last day, and one waits", []rack.Lot{lot(4, 2, 1), lot(0, 1, 1)}, nil, []rack.Stay{stay(4, 5, true), stay(-1, -1, false)}},
		{"it leaves on the last day but one", []rack.Lot{lot(3, 2, 1), lot(0, 2, 1)}, nil, []rack.Stay{stay(3, 4, true), stay(5, -1, false)}},
		{"one that came earlier waits", []rack.Lot{lot(2, 1, 1), lot(0, 1, 1)}, nil, []rack.Stay{stay(2, 2, true), stay(3, 3, true)}},
		{"the rack waits", []rack.Lot{lot(0, 1, 1), lot(4, 1, 1)}, nil, []rack.Stay{stay(0, 0, true), stay(4, 4, true)}},
		{"one follows on a rotten one", []rack.Lot{lot(0, 2, 1), lot(0, 1, 2)}, list(0, 1), []rack.Stay{stay(0, 0, false), stay(1, 2, true)}},
		{"three lots", []rack.Lot{lot(0, 1, 1), lot(0, 2, 1), lot(0, 3, 1)}, nil, []rack.Stay{stay(0, 0, true), stay(1, 2, true), stay(3, 5, true)}},
	} {
		y := rack.Yard{Last: 5, Racks: 1, Wet: 6, Run: 6, Lots: x.lots}
		is := rack.Truth{Wet: weather(6, x.wet...)}
		var all []int
		for lot, l := range x.lots {
			is.Comes, all = append(is.Comes, l.Comes.Lo), append(all, lot)
		}
		if l, e := rack.Play(y, order(all), is); e != api.OK || !slices.Equal(l, x.want) {
			t.Errorf("%s: %v, %v", x.name, l, e)
		}
		y.Racks = 2
		if l, e := rack.Play(y, order(nil, all), is); e != api.OK || !slices.Equal(l, x.want) {
			t.Errorf("%s, on the second rack: %v, %v", x.name, l, e)
		}
	}
}

// P3.2: what is saved at the edges of Due.
func TestEdgesOfDue(t *testing.T) {
	for due := range 6 {
		y := lots(to(0, 0))
		y.Lots[0] = rack.Lot{Comes: to(0, 0), Dry: 3, Rot: 2, Due: due}
		y.Wet, y.Run = 1, 1
		want, loss := rack.Perhaps, 1 // dry on the day 2 or 3
		switch {
		case due < 2:
			want = rack.Never
		case due > 2:
			want, loss = rack.Always, 0
		}
		if saved, e := rack.Saved(y, order(list(0)), 0); saved != want || e != api.OK {
			t.Errorf("Saved with Due %d: %d, %v", due, saved, e)
		}
		if many, _, e := rack.Lost(y, order(list(0))); many != loss || e != api.OK {
			t.Errorf("Lost with Due %d: %d, %v", due, many, e)
		}
	}
}

// P3.1: by the oracle.
func TestPlay(t *testing.T) {
	for r, y := range randomYards(300) {
		for _, is := range truthsOf(y) {
			o := randomOrder(r, y)
			if l, e := rack.Play(y, o, is); e != api.OK || !slices.Equal(l, staysOf(y, o, is)) {
				t.Fatalf("Play of %v, %v, %v: %v, %v; not %v", y, o, is, l, e, staysOf(y, o, is))
			}
		}
	}
}

// P3.2: by the oracle.
func TestSavedAndLost(t *testing.T) {
	seen := map[int]int{}
	for r, y := range randomYards(500) {
		o := randomOrder(r, y)
		want := fateOf(y, o, truthsOf(y))
		for lot, kind := range want.saved {
			if saved, e := rack.Saved(y, o, lot); e != api.OK || saved != kind {
				t.Fatalf("Saved of %v, %v, %d: %d, %v; not %d", y, o, lot, saved, e, kind)
			}
			seen[kind]++
		}
		many, worst, e := rack.Lost(y, o)
		if e != api.OK || many != want.loss || lostIn(y, o, worst) != many || !rack.ProveLoss(y, o, worst, many) || rack.ProveLoss(y, o, worst, many+1) {
			t.Fatalf("Lost of %v, %v: %d, %v, %v; not %d", y, o, many, worst, e, want.loss)
		}
	}
	if seen[rack.Always] < 50 || seen[rack.Never] < 50 || seen[rack.Perhaps] < 50 {
		t.Errorf("too few of some kind: %v", seen)
	}
}

// P3.2: by the oracle, and with all numbers.
func TestProveLoss(t *testing.T) {
	for r, y := range randomYards(300) {
		o, is := randomOrder(r, y), randomTruth(r, y)
		many := lostIn(y, o, is)
		for _, n := range []int{math.MinInt, -1, 0, 1, 2, 3, 4, 5, math.MaxInt} {
			if rack.ProveLoss(y, o, is, n) != (n <= many) {
				t.Fatalf("ProveLoss of %v, %v, %v, %d: %v", y, o, is, n, n > many)
			}
		}
	}
}

// P3.3: by the oracle, and with all numbers.
func TestProveOrder(t *testing.T) {
	for r, y := range randomYards(300) {
		o := randomOrder(r, y)
		loss := fateOf(y, o, truthsOf(y)).loss
		for _, n := range []int{math.MinInt, -1, 0, 1, 2, 3, 4, 5, math.MaxInt} {
			if rack.ProveOrder(y, o, n) != (loss <= n) {
				t.Fatalf("ProveOrder of %v, %v, %d: %v", y, o, n, loss > n)
			}
		}
	}
}

// P3.3, P3.4: by the oracle.
func TestBestAndSure(t *testing.T) {
	equal, fewer := 0, 0
	for _, y := range randomYards(500) {
		truths := truthsOf(y)
		least, most := len(y.Lots), 0
		for _, f := range fatesOf(y) {
			least, most = min(least, f.loss), max(most, f.sure())
		}
		o, many, e := rack.Best(y)
		if e != api.OK || many != least || !rack.ProveOrder(y, o, least) || fateOf(y, o, truths).loss != least {
			t.Fatalf("Best of %v: %v, %d, %v; not %d", y, o, many, e, least)
		}
		o, many, e = rack.Sure(y)
		if e != api.OK || many != most || !rack.ProveOrder(y, o, 4) || fateOf(y, o, truths).sure() != most {
			t.Fatalf("Sure of %v: %v, %d, %v; not %d", y, o, many, e, most)
		}
		if least+most == len(y.Lots) {
			equal++
		} else {
			fewer++
		}
	}
	if equal < 20 || fewer < 5 {
		t.Errorf("the least loss and the most sure lots together are as many as the lots %d times, fewer %d times", equal, fewer)
	}
}

// P3.4: by the oracle.
func TestHopeless(t *testing.T) {
	for _, y := range randomYards(500) {
		if l, e := rack.Hopeless(y); e != api.OK || !slices.Equal(l, hopelessOf(y)) {
			t.Fatalf("Hopeless of %v: %v, %v; not %v", y, l, e, hopelessOf(y))
		}
	}
}

// P3.1 to P3.4: a yard with no lots has nothing to lose.
func TestNothingThere(t *testing.T) {
	for racks := 1; racks <= 2; racks++ {
		y := rack.Yard{Last: 2, Racks: racks, Wet: 1, Run: 1}
		empty := make([][]int, racks)
		if l, e := rack.Play(y, empty, rack.Truth{Wet: weather(3, 1)}); e != api.OK || len(l) > 0 {
			t.Errorf("Play: %v, %v", l, e)
		}
		many, worst, e := rack.Lost(y, empty)
		if e != api.OK || many != 0 || !rack.ProveLoss(y, empty, worst, 0) || rack.ProveLoss(y, empty, worst, 1) {
			t.Errorf("Lost: %d, %v, %v", many, worst, e)
		}
		if o, many, e := rack.Best(y); e != api.OK || many != 0 || len(o) != racks || !rack.ProveOrder(y, o, 0) || rack.ProveOrder(y, o, -1) {
			t.Errorf("Best: %v, %d, %v", o, many, e)
		}
		if o, many, e := rack.Sure(y); e != api.OK || many != 0 || len(o) != racks {
			t.Errorf("Sure: %v, %d, %v", o, many, e)
		}
		if l, e := rack.Hopeless(y); e != api.OK || len(l) > 0 {
			t.Errorf("Hopeless: %v, %v", l, e)
		}
	}
}
