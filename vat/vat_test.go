package vat_test

import (
	"math"
	"slices"
	"testing"

	"isatis/api"
	"isatis/oracle"
	"isatis/vat"
)

func to(low, high int) vat.Range { return vat.Range{Lo: low, Hi: high} }

func list(l ...int) []int { return l }

func balance(day, low, high int) vat.Look {
	return vat.Look{Day: day, Balance: true, Number: to(low, high)}
}

func blue(day, low, high int) vat.Look { return vat.Look{Day: day, Number: to(low, high)} }

func truth(start, blue int, drift ...int) vat.Truth {
	return vat.Truth{Start: start, Blue: blue, Drift: drift}
}

// example is the vat of the chapter's examples, with looks.
func example(looks ...vat.Look) vat.Vat {
	return vat.Vat{
		Last: 3, Band: 4, Start: to(0, 2), Blue: to(100, 100), Gain: 10, Take: 5,
		Drift: []vat.Range{to(1, 2), to(1, 1), to(2, 3), to(0, 0)},
		Feeds: []vat.Feed{{}, {Bran: 2}, {Madder: 1}, {}}, Dips: list(1, 1, 1, 1), Looks: looks,
	}
}

// isHigh and isLow are looks that contradict each other.
func isHigh() vat.Look { return balance(0, 4, 9) }
func isLow() vat.Look  { return balance(3, 2, 3) }

// narrow is a vat that no feeding keeps in order.
func narrow() vat.Vat {
	v := example()
	v.Band = 1
	return v
}

func lowest() vat.Truth  { return truth(0, 100, 1, 1, 2, 0) }
func highest() vat.Truth { return truth(2, 100, 2, 1, 3, 0) }

func equal(a, b vat.Truth) bool {
	return a.Start == b.Start && a.Blue == b.Blue && slices.Equal(a.Drift, b.Drift)
}

// asked is what calls ask about besides the vat.
type asked struct {
	truth     vat.Truth
	day, dips int
	feeding   []int
	proof     vat.Proof
}

// plain is asked of the example, and of the narrow vat.
func plain() asked {
	return asked{truth: lowest(), day: 2, dips: 2, feeding: list(0, -1, -3, 0), proof: vat.Proof{Most: highest(), Least: lowest()}}
}

// calls are the errors of all calls with the vat, and whether each of them
// returns nothing else together with its error.
func calls(v vat.Vat, a asked) (map[string]api.Errno, bool) {
	play, e1 := vat.Play(v, a.truth)
	shades, e2 := vat.Shades(v, a.truth, a.day, a.dips)
	bounds, e3 := vat.Bounds(v)
	kind, e4 := vat.Order(v, a.day)
	shade, e5 := vat.Shade(v, a.day, a.dips)
	feeding, e6 := vat.Keep(v)
	proof, e7 := vat.Show(v)
	first, e8 := vat.First(v)
	leave, e9 := vat.Leave(v)
	none := proof.Over == 0 && proof.Under == 0 && equal(proof.Most, vat.Truth{}) && equal(proof.Least, vat.Truth{})
	zero := (e1 == 0 || play == nil) && (e2 == 0 || shades == nil) && (e3 == 0 || bounds == nil) && (e4 == 0 || kind == 0) &&
		(e5 == 0 || shade == vat.Range{}) && (e6 == 0 || feeding == nil) && (e7 == 0 || none) && (e8 == 0 || first == 0) && (e9 == 0 || leave == nil)
	return map[string]api.Errno{
		"Play": e1, "Shades": e2, "Bounds": e3, "Order": e4, "Shade": e5, "Keep": e6, "Show": e7, "First": e8, "Leave": e9,
	}, zero
}

// proves reports whether some call proves what is asked.
func proves(v vat.Vat, a asked) bool {
	return vat.ProveTruth(v, a.truth) || vat.ProveKeep(v, a.feeding) || vat.ProveShow(v, a.proof)
}

type change struct {
	name string
	make func(v *vat.Vat)
	want api.Errno
}

// resize gives the vat so many days.
func resize(v *vat.Vat, days int) {
	v.Last, v.Drift, v.Feeds, v.Dips = days-1, make([]vat.Range, days), make([]vat.Feed, days), make([]int, days)
}

func numberChanges() []change {
	return []change{
		{"as it is", func(v *vat.Vat) {}, api.OK},
		{"nothing", func(v *vat.Vat) { *v = vat.Vat{} }, api.ErrArg},
		{"one day", func(v *vat.Vat) { resize(v, 1) }, api.OK},
		{"no day", func(v *vat.Vat) { resize(v, 0) }, api.ErrArg},
		{"8 days", func(v *vat.Vat) { resize(v, 8) }, api.OK},
		{"9 days", func(v *vat.Vat) { resize(v, 9) }, api.ErrLimit},
		{"9 days, but no lists", func(v *vat.Vat) { v.Last = 8 }, api.ErrLimit},
		{"the last day there is", func(v *vat.Vat) { v.Last = math.MaxInt }, api.ErrLimit},
		{"the first day there is", func(v *vat.Vat) { v.Last = math.MinInt }, api.ErrArg},
		{"the band 0", func(v *vat.Vat) { v.Band = 0 }, api.OK},
		{"the band 20", func(v *vat.Vat) { v.Band = 20 }, api.OK},
		{"the band 21", func(v *vat.Vat) { v.Band = 21 }, api.ErrArg},
		{"a band below 0", func(v *vat.Vat) { v.Band = -1 }, api.ErrArg},
		{"the starts to 50", func(v *vat.Vat) { v.Start = to(-50, 50) }, api.OK},
		{"a start above 50", func(v *vat.Vat) { v.Start = to(50, 51) }, api.ErrArg},
		{"a start below -50", func(v *vat.Vat) { v.Start = to(-51, -50) }, api.ErrArg},
		{"a start upside down", func(v *vat.Vat) { v.Start = to(2, 1) }, api.ErrArg},
		{"a start from end to end", func(v *vat.Vat) { v.Start = to(math.MinInt, math.MaxInt) }, api.ErrArg},
		{"the blue 0", func(v *vat.Vat) { v.Blue = to(0, 0) }, api.OK},
		{"the blue 999", func(v *vat.Vat) { v.Blue = to(999, 999) }, api.OK},
		{"a blue above 999", func(v *vat.Vat) { v.Blue = to(999, 1000) }, api.ErrArg},
		{"a blue below 0", func(v *vat.Vat) { v.Blue = to(-1, 0) }, api.ErrArg},
		{"a blue upside down", func(v *vat.Vat) { v.Blue = to(100, 99) }, api.ErrArg},
		{"the gain 0", func(v *vat.Vat) { v.Gain = 0 }, api.OK},
		{"the gain 50", func(v *vat.Vat) { v.Gain = 50 }, api.OK},
		{"the gain 51", func(v *vat.Vat) { v.Gain = 51 }, api.ErrArg},
		{"a gain below 0", func(v *vat.Vat) { v.Gain = -1 }, api.ErrArg},
		{"taking 0", func(v *vat.Vat) { v.Take = 0 }, api.OK},
		{"taking 50", func(v *vat.Vat) { v.Take = 50 }, api.OK},
		{"taking 51", func(v *vat.Vat) { v.Take = 51 }, api.ErrArg},
		{"taking less than 0", func(v *vat.Vat) { v.Take = -1 }, api.ErrArg},
	}
}

func dayChanges() []change {
	return []change{
		{"no drifts", func(v *vat.Vat) { v.Drift = nil }, api.ErrArg},
		{"a drift too few", func(v *vat.Vat) { v.Drift = v.Drift[:3] }, api.ErrArg},
		{"a drift too many", func(v *vat.Vat) { v.Drift = append(v.Drift, to(0, 0)) }, api.ErrArg},
		{"a drift of 9", func(v *vat.Vat) { v.Drift[3] = to(-9, 9) }, api.OK},
		{"a drift above 9", func(v *vat.Vat) { v.Drift[3] = to(9, 10) }, api.ErrArg},
		{"a drift below -9", func(v *vat.Vat) { v.Drift[3] = to(-10, -9) }, api.ErrArg},
		{"a drift upside down", func(v *vat.Vat) { v.Drift[3] = to(1, 0) }, api.ErrArg},
		{"no feeds", func(v *vat.Vat) { v.Feeds = nil }, api.ErrArg},
		{"a feed too few", func(v *vat.Vat) { v.Feeds = v.Feeds[:3] }, api.ErrArg},
		{"a feed too many", func(v *vat.Vat) { v.Feeds = append(v.Feeds, vat.Feed{}) }, api.ErrArg},
		{"feeds of 9", func(v *vat.Vat) { v.Feeds[3] = vat.Feed{Lime: 9, Bran: 9, Madder: 9} }, api.OK},
		{"10 of lime", func(v *vat.Vat) { v.Feeds[3] = vat.Feed{Lime: 10} }, api.ErrArg},
		{"10 of bran", func(v *vat.Vat) { v.Feeds[3] = vat.Feed{Bran: 10} }, api.ErrArg},
		{"10 of madder", func(v *vat.Vat) { v.Feeds[3] = vat.Feed{Madder: 10} }, api.ErrArg},
		{"lime below 0", func(v *vat.Vat) { v.Feeds[3] = vat.Feed{Lime: -1} }, api.ErrArg},
		{"bran below 0", func(v *vat.Vat) { v.Feeds[3] = vat.Feed{Bran: -1} }, api.ErrArg},
		{"madder below 0", func(v *vat.Vat) { v.Feeds[3] = vat.Feed{Madder: -1} }, api.ErrArg},
		{"no dips", func(v *vat.Vat) { v.Dips = nil }, api.ErrArg},
		{"a day too few with dips", func(v *vat.Vat) { v.Dips = v.Dips[:3] }, api.ErrArg},
		{"a day too many with dips", func(v *vat.Vat) { v.Dips = append(v.Dips, 1) }, api.ErrArg},
		{"no dip", func(v *vat.Vat) { v.Dips[3] = 0 }, api.OK},
		{"20 dips", func(v *vat.Vat) { v.Dips[3] = 20 }, api.OK},
		{"21 dips", func(v *vat.Vat) { v.Dips[3] = 21 }, api.ErrArg},
		{"dips below 0", func(v *vat.Vat) { v.Dips[3] = -1 }, api.ErrArg},
		{"1980 truths", func(v *vat.Vat) { v.Start, v.Blue = to(0, 32), to(100, 114) }, api.OK},
		{"2000 truths", func(v *vat.Vat) { v.Start, v.Blue = to(1, 5), to(100, 199) }, api.OK},
		{"2004 truths", func(v *vat.Vat) { v.Start, v.Blue = to(1, 3), to(100, 266) }, api.ErrLimit},
		{"too many truths by the drifts", func(v *vat.Vat) { v.Drift[1], v.Drift[2] = to(-9, 9), to(-9, 9) }, api.ErrLimit},
		{"as many truths as there can be", func(v *vat.Vat) {
			resize(v, 8)
			v.Start, v.Blue, v.Drift = to(-50, 50), to(0, 999), slices.Repeat([]vat.Range{to(-9, 9)}, 8)
		}, api.ErrLimit},
		{"too many truths, and no band", func(v *vat.Vat) { v.Start, v.Blue, v.Band = to(0, 50), to(0, 999), -1 }, api.ErrArg},
		{"too many truths, and a look", func(v *vat.Vat) {
			v.Start, v.Blue, v.Looks = to(0, 50), to(0, 999), []vat.Look{blue(4, 1, 1)}
		}, api.ErrArg},
	}
}

func lookChanges() []change {
	look := func(l vat.Look) func(v *vat.Vat) {
		return func(v *vat.Vat) { v.Looks = []vat.Look{balance(0, 0, 9), l} }
	}
	return []change{
		{"5 looks", func(v *vat.Vat) { v.Looks = make([]vat.Look, 5) }, api.OK},
		{"6 looks", func(v *vat.Vat) { v.Looks = make([]vat.Look, 6) }, api.ErrLimit},
		{"6 looks, and no day", func(v *vat.Vat) { *v = vat.Vat{Looks: make([]vat.Look, 6)} }, api.ErrLimit},
		{"too many truths, and 6 looks", func(v *vat.Vat) {
			v.Start, v.Blue, v.Looks = to(0, 50), to(0, 999), make([]vat.Look, 6)
		}, api.ErrLimit},
		{"a look on the last day", look(blue(3, 1, 1)), api.OK},
		{"a look after the last day", look(blue(4, 1, 1)), api.ErrArg},
		{"a look before the first day", look(balance(-1, 1, 1)), api.ErrArg},
		{"a look far off", look(balance(math.MaxInt, 1, 1)), api.ErrArg},
		{"a look at all numbers", look(balance(3, -5000, 5000)), api.OK},
		{"a look above 5000", look(blue(3, 5000, 5001)), api.ErrArg},
		{"a look below -5000", look(blue(3, -5001, -5000)), api.ErrArg},
		{"a look upside down", look(balance(3, 1, 0)), api.ErrArg},
	}
}

// P6.1: the errors of a vat, in their order.
func TestCheckVat(t *testing.T) {
	for _, x := range slices.Concat(numberChanges(), dayChanges(), lookChanges()) {
		v := example()
		x.make(&v)
		if e := vat.CheckVat(v); e != x.want {
			t.Errorf("%s: CheckVat: %v", x.name, e)
		}
		if x.want == api.OK {
			continue
		}
		// What is asked is not valid either: the error of the vat comes first.
		errors, zero := calls(v, asked{day: -1, dips: -1})
		for name, e := range errors {
			if e != x.want {
				t.Errorf("%s: %s: %v", x.name, name, e)
			}
		}
		if !zero {
			t.Errorf("%s: a result together with an error", x.name)
		}
		if proves(v, plain()) || proves(v, asked{}) || proves(v, asked{truth: truth(v.Start.Lo, v.Blue.Lo, make([]int, len(v.Drift))...)}) {
			t.Errorf("%s: something is proved", x.name)
		}
	}
}

// The errors of what calls name, and whether the vat has a truth, in their
// order.
func TestErrors(t *testing.T) {
	none := example(isHigh(), isLow())
	for _, x := range []struct {
		name                               string
		v                                  vat.Vat
		make                               func(a *asked)
		play, shades, bounds, order, shade api.Errno
	}{
		{"as it is", example(), func(a *asked) {}, api.OK, api.OK, api.OK, api.OK, api.OK},
		{"no truth", none, func(a *asked) {}, api.OK, api.OK, api.ErrFalse, api.ErrFalse, api.ErrFalse},
		{"another truth", example(), func(a *asked) { a.truth = vat.Truth{} }, api.ErrRange, api.ErrRange, api.OK, api.OK, api.OK},
		{"the first day", example(), func(a *asked) { a.day = 0 }, api.OK, api.OK, api.OK, api.OK, api.OK},
		{"a day before the first", example(), func(a *asked) { a.day = -1 }, api.OK, api.ErrRange, api.OK, api.ErrRange, api.ErrRange},
		{"the last day", example(), func(a *asked) { a.day = 3 }, api.OK, api.OK, api.OK, api.OK, api.OK},
		{"a day after the last", example(), func(a *asked) { a.day = 4 }, api.OK, api.ErrRange, api.OK, api.ErrRange, api.ErrRange},
		{"no day, no truth", none, func(a *asked) { a.day = 4 }, api.OK, api.ErrRange, api.ErrFalse, api.ErrRange, api.ErrRange},
		{"a day far off", example(), func(a *asked) { a.day = math.MaxInt }, api.OK, api.ErrRange, api.OK, api.ErrRange, api.ErrRange},
		{"no dips", example(), func(a *asked) { a.dips = 0 }, api.OK, api.OK, api.OK, api.OK, api.OK},
		{"dips below 0", example(), func(a *asked) { a.dips = -1 }, api.OK, api.ErrRange, api.OK, api.OK, api.ErrRange},
		{"20 dips", example(), func(a *asked) { a.dips = 20 }, api.OK, api.OK, api.OK, api.OK, api.OK},
		{"21 dips", example(), func(a *asked) { a.dips = 21 }, api.OK, api.ErrRange, api.OK, api.OK, api.ErrRange},
		{"21 dips, no truth", none, func(a *asked) { a.dips = 21 }, api.OK, api.ErrRange, api.ErrFalse, api.ErrFalse, api.ErrRange},
	} {
		a := plain()
		x.make(&a)
		first, show := api.ErrNone, api.ErrNone
		if !isRight(x.v) {
			first, show = api.OK, api.ErrFalse
		}
		errors, zero := calls(x.v, a)
		for name, want := range map[string]api.Errno{
			"Play": x.play, "Shades": x.shades, "Bounds": x.bounds, "Order": x.order, "Shade": x.shade, "Keep": x.bounds, "Show": show, "First": first, "Leave": api.OK,
		} {
			if errors[name] != want {
				t.Errorf("%s: %s: %v", x.name, name, errors[name])
			}
		}
		if !zero {
			t.Errorf("%s: a result together with an error", x.name)
		}
	}
	if vat.ProveKeep(none, nil) || vat.ProveKeep(none, list(0)) || vat.ProveTruth(none, lowest()) || vat.ProveTruth(none, highest()) {
		t.Error("something is proved of a vat without a truth")
	}
	none.Band = 0
	if vat.ProveShow(none, plain().proof) {
		t.Error("a proof of a vat without a truth")
	}
}

// P6.1: truths that have not one number of each range.
func TestNoTruths(t *testing.T) {
	for _, y := range []vat.Truth{
		{}, {Start: 1, Blue: 100}, truth(-1, 100, 1, 1, 2, 0), truth(3, 100, 1, 1, 2, 0), truth(1, 99, 1, 1, 2, 0), truth(1, 101, 1, 1, 2, 0),
		truth(1, 100, 1, 1, 2), truth(1, 100, 1, 1, 2, 0, 0), truth(1, 100, 0, 1, 2, 0), truth(1, 100, 3, 1, 2, 0), truth(1, 100, 1, 1, 1, 0),
		truth(1, 100, 1, 1, 4, 0), truth(1, 100, 1, 1, 2, 1), truth(1, 100, 1, 1, 2, -1), truth(math.MaxInt, math.MinInt, math.MaxInt, 1, 2, 0),
	} {
		if got, e := vat.Play(example(), y); got != nil || e != api.ErrRange {
			t.Errorf("Play of %v: %v, %v", y, got, e)
		}
		if got, e := vat.Shades(example(), y, 0, 0); got != nil || e != api.ErrRange {
			t.Errorf("Shades of %v: %v, %v", y, got, e)
		}
		v, p := narrow(), plain().proof
		if vat.ProveTruth(v, y) || vat.ProveShow(v, vat.Proof{Most: y, Least: p.Least}) || vat.ProveShow(v, vat.Proof{Most: p.Most, Least: y}) {
			t.Errorf("something is proved of %v", y)
		}
	}
	for _, y := range []vat.Truth{lowest(), highest(), truth(0, 100, 2, 1, 2, 0), truth(1, 100, 1, 1, 3, 0)} {
		if !vat.ProveTruth(example(), y) {
			t.Errorf("not ProveTruth of %v", y)
		}
	}
	if vat.ProveTruth(example(isHigh()), lowest()) || !vat.ProveTruth(example(isHigh()), highest()) {
		t.Error("ProveTruth with a look")
	}
	states, e := vat.Play(example(isHigh(), isLow()), lowest())
	shades, f := vat.Shades(example(isHigh(), isLow()), lowest(), 2, 2)
	if e != api.OK || f != api.OK || len(states) != 4 || !slices.Equal(shades, list(9, 9)) {
		t.Errorf("Play and Shades of a truth in which a look is wrong: %v, %v, %v, %v", states, e, shades, f)
	}
}

// The examples of the chapter.
func TestExamples(t *testing.T) {
	for _, x := range []struct {
		y        vat.Truth
		balances []int
	}{{lowest(), list(1, 0, 2, 2)}, {highest(), list(4, 3, 6, 6)}} {
		states, e := vat.Play(example(), x.y)
		for day, want := range list(95, 90, 95, 90) {
			if e != api.OK || len(states) != 4 || states[day].Blue != want || states[day].Balance != x.balances[day] {
				t.Errorf("Play of %v: %v, %v", x.y, states, e)
			}
		}
	}
	if l, e := vat.Shades(example(), lowest(), 2, 2); e != api.OK || !slices.Equal(l, list(9, 9)) {
		t.Errorf("Shades: %v, %v", l, e)
	}
	if r, e := vat.Shade(example(), 2, 2); e != api.OK || r != to(8, 18) {
		t.Errorf("Shade: %v, %v", r, e)
	}
	if l, e := vat.Bounds(example()); e != api.OK || len(l) != 4 || l[2] != (vat.Bound{Balance: to(2, 6), Blue: to(95, 95)}) {
		t.Errorf("Bounds: %v, %v", l, e)
	}
	for _, x := range []struct {
		v         vat.Vat
		day, want int
	}{{example(), 0, vat.Always}, {example(), 2, vat.Perhaps}, {example(isHigh()), 2, vat.Never}} {
		if kind, e := vat.Order(x.v, x.day); e != api.OK || kind != x.want {
			t.Errorf("Order of the day %d: %d, %v", x.day, kind, e)
		}
	}
	if l, e := vat.Keep(example()); e != api.OK || len(l) != 4 || !vat.ProveKeep(example(), l) || !vat.ProveKeep(example(), list(0, -1, -3, 0)) {
		t.Errorf("Keep: %v, %v", l, e)
	}
	if l, e := vat.Keep(narrow()); e != api.OK || len(l) != 0 {
		t.Errorf("Keep with Band 1: %v, %v", l, e)
	}
	p, e := vat.Show(narrow())
	if e != api.OK || max(p.Over, p.Under) != 0 || !vat.ProveShow(narrow(), p) || !vat.ProveShow(narrow(), plain().proof) {
		t.Errorf("Show with Band 1: %v, %v", p, e)
	}
	if n, e := vat.First(example(isHigh(), isLow())); e != api.OK || n != 1 {
		t.Errorf("First: %d, %v", n, e)
	}
	if l, e := vat.Leave(example(isHigh(), isLow())); e != api.OK || !slices.Equal(l, list(0)) {
		t.Errorf("Leave: %v, %v", l, e)
	}
}

// single is a vat of one truth and one day.
func single(band, start, blue int, feed vat.Feed, dips int) (vat.Vat, vat.Truth) {
	v := vat.Vat{
		Band: band, Start: to(start, start), Blue: to(blue, blue), Gain: 7, Take: 4,
		Drift: []vat.Range{to(0, 0)}, Feeds: []vat.Feed{feed}, Dips: list(dips),
	}
	return v, truth(start, blue, 0)
}

// P6.1: the steps of a day, by their edges.
func TestEdgesOfDays(t *testing.T) {
	for _, x := range []struct {
		name string
		feed vat.Feed
		dips int
		want vat.State
	}{
		{"nothing is done", vat.Feed{}, 0, vat.State{Balance: 3, Blue: 10}},
		{"lime", vat.Feed{Lime: 5}, 0, vat.State{Balance: 8, Blue: 10}},
		{"bran", vat.Feed{Bran: 9}, 0, vat.State{Balance: -6, Blue: 10}},
		{"lime and bran", vat.Feed{Lime: 2, Bran: 3}, 0, vat.State{Balance: 2, Blue: 10}},
		{"madder", vat.Feed{Madder: 3}, 0, vat.State{Balance: 3, Blue: 31}},
		{"a dip", vat.Feed{}, 1, vat.State{Balance: 3, Blue: 6}},
		{"two dips", vat.Feed{}, 2, vat.State{Balance: 3, Blue: 2}},
		{"not below 0", vat.Feed{}, 3, vat.State{Balance: 3, Blue: 0}},
		{"20 dips", vat.Feed{}, 20, vat.State{Balance: 3, Blue: 0}},
		{"madder before the dips", vat.Feed{Madder: 1}, 4, vat.State{Balance: 3, Blue: 1}},
	} {
		v, y := single(4, 3, 10, x.feed, x.dips)
		if l, e := vat.Play(v, y); e != api.OK || !slices.Equal(l, []vat.State{x.want}) {
			t.Errorf("%s: Play: %v, %v", x.name, l, e)
		}
	}
	v := vat.Vat{Start: to(50, 50), Blue: to(999, 999), Gain: 50}
	for range 8 {
		v.Drift, v.Feeds, v.Dips = append(v.Drift, to(9, 9)), append(v.Feeds, vat.Feed{Lime: 9, Madder: 9}), append(v.Dips, 0)
	}
	v.Last = 7
	l, e := vat.Play(v, truth(50, 999, 9, 9, 9, 9, 9, 9, 9, 9))
	if e != api.OK || len(l) != 8 || l[7] != (vat.State{Balance: 194, Blue: 4599}) {
		t.Errorf("Play of as much as there can be: %v, %v", l, e)
	}
}

// P6.2: the shades by the order of the vat, and by the blue.
func TestEdgesOfShades(t *testing.T) {
	for _, x := range []struct {
		name             string
		band, start      int
		blue, own, dips  int
		want             []int
		wantOrder, total int
	}{
		{"in order, at its upper end", 4, 4, 95, 0, 1, list(9), vat.Always, 9},
		{"sharp", 4, 5, 95, 0, 1, list(4), vat.Never, 4},
		{"in order, at its lower end", 4, -4, 95, 0, 1, list(9), vat.Always, 9},
		{"slack", 4, -5, 95, 0, 1, list(4), vat.Never, 4},
		{"a band of nothing", 0, 0, 95, 0, 1, list(9), vat.Always, 9},
		{"a band of nothing, sharp", 0, 1, 95, 0, 1, list(4), vat.Never, 4},
		{"a band of nothing, slack", 0, -1, 95, 0, 1, list(4), vat.Never, 4},
		{"just a shade", 4, 0, 10, 0, 1, list(1), vat.Always, 1},
		{"just none", 4, 0, 9, 0, 1, list(0), vat.Always, 0},
		{"just a weak shade", 4, 9, 20, 0, 1, list(1), vat.Never, 1},
		{"just no weak one", 4, 9, 19, 0, 1, list(0), vat.Never, 0},
		{"no dips", 4, 0, 95, 0, 0, nil, vat.Always, 0},
		{"three dips", 4, 0, 95, 0, 3, list(9, 9, 8), vat.Always, 26},
		{"three weak dips", 4, 5, 62, 0, 3, list(3, 2, 2), vat.Never, 7},
		{"after its own dips", 4, 0, 95, 2, 3, list(8, 8, 7), vat.Always, 23},
		{"until there is no blue", 4, 0, 11, 0, 4, list(1, 0, 0, 0), vat.Always, 1},
	} {
		v, y := single(x.band, x.start, x.blue, vat.Feed{}, x.own)
		l, e := vat.Shades(v, y, 0, x.dips)
		if e != api.OK || !slices.Equal(l, x.want) {
			t.Errorf("%s: Shades: %v, %v", x.name, l, e)
		}
		if r, e := vat.Shade(v, 0, x.dips); e != api.OK || r != to(x.total, x.total) {
			t.Errorf("%s: Shade: %v, %v", x.name, r, e)
		}
		if kind, e := vat.Order(v, 0); e != api.OK || kind != x.wantOrder {
			t.Errorf("%s: Order: %d, %v", x.name, kind, e)
		}
	}
}

// P6.1: by the oracle.
func TestPlayAndProveTruth(t *testing.T) {
	for _, v := range randomVats(300, 3) {
		for _, y := range anyTruths(v) {
			if vat.ProveTruth(v, y) != allRight(v, y) {
				t.Fatalf("ProveTruth of %v, %v: %v", v, y, !allRight(v, y))
			}
			if l, e := vat.Play(v, y); e != api.OK || !slices.Equal(l, playOf(v, y)) {
				t.Fatalf("Play of %v, %v: %v, %v; not %v", v, y, l, e, playOf(v, y))
			}
		}
	}
}

// P6.2: by the oracle.
func TestShadesAndShade(t *testing.T) {
	wide, weak := 0, 0
	for r, v := range randomVats(500, 2) {
		day, dips := r.IntN(v.Last+1), r.IntN(21)
		for _, y := range anyTruths(v) {
			want := shadesOf(v, y, day, dips)
			if l, e := vat.Shades(v, y, day, dips); e != api.OK || !slices.Equal(l, want) {
				t.Fatalf("Shades of %v, %v, %d, %d: %v, %v; not %v", v, y, day, dips, l, e, want)
			}
		}
		if !isRight(v) {
			continue
		}
		want := shadeOf(v, day, dips)
		if s, e := vat.Shade(v, day, dips); e != api.OK || s != want {
			t.Fatalf("Shade of %v, %d, %d: %v, %v; not %v", v, day, dips, s, e, want)
		}
		if want.Lo < want.Hi {
			wide++
		}
		if orderOf(v, day) == vat.Never && want.Lo > 0 {
			weak++
		}
	}
	if wide < 50 || weak < 50 {
		t.Errorf("%d vats with a wide shade, %d that are not in order", wide, weak)
	}
}

// A look is right at both ends of its range, and not beyond them.
func TestEdgesOfLooks(t *testing.T) {
	y := truth(1, 100, 1, 1, 2, 0) // the balances 2, 1, 3, 3; the blues 95, 90, 95, 90
	for _, x := range []struct {
		look vat.Look
		want bool
	}{
		{balance(0, 2, 2), true}, {balance(0, 3, 9), false}, {balance(0, -9, 1), false}, {balance(0, 2, 9), true}, {balance(0, -9, 2), true},
		{balance(1, 1, 1), true}, {balance(1, 2, 2), false}, {balance(3, 3, 3), true}, {balance(3, 90, 90), false}, {balance(0, 95, 95), false},
		{blue(0, 95, 95), true}, {blue(0, 96, 999), false}, {blue(0, 0, 94), false}, {blue(0, 95, 999), true}, {blue(0, 0, 95), true},
		{blue(1, 90, 90), true}, {blue(1, 95, 95), false}, {blue(3, 90, 90), true}, {blue(3, 3, 3), false}, {blue(0, 2, 2), false},
	} {
		v := example(x.look)
		v.Start, v.Drift = to(1, 1), []vat.Range{to(1, 1), to(1, 1), to(2, 2), to(0, 0)}
		_, e := vat.Bounds(v)
		if vat.ProveTruth(v, y) != x.want || (e == api.OK) != x.want {
			t.Errorf("%v: %v", x.look, e)
		}
	}
}

// P6.3: the verdicts by their numbers.
func TestVerdicts(t *testing.T) {
	slack, sharp := example(), example()
	slack.Start, sharp.Start = to(-12, -10), to(9, 11)
	for _, x := range []struct {
		v         vat.Vat
		day, want int
	}{
		{example(), 0, 1}, {example(), 1, 1}, {example(), 2, 3}, {example(), 3, 3}, {example(isHigh()), 0, 1}, {example(isHigh()), 3, 2},
		{slack, 0, 2}, {slack, 3, 2}, {sharp, 0, 2}, {sharp, 3, 2},
	} {
		if kind, e := vat.Order(x.v, x.day); e != api.OK || kind != x.want {
			t.Errorf("Order of %v, %d: %d, %v", x.v, x.day, kind, e)
		}
	}
}

// P6.3: by the oracle.
func TestBoundsAndOrder(t *testing.T) {
	kinds := map[int]int{}
	for _, v := range randomVats(600, 3) {
		if !isRight(v) {
			continue
		}
		if l, e := vat.Bounds(v); e != api.OK || !slices.Equal(l, boundsOf(v)) {
			t.Fatalf("Bounds of %v: %v, %v; not %v", v, l, e, boundsOf(v))
		}
		for day := range v.Last + 1 {
			want := orderOf(v, day)
			if kind, e := vat.Order(v, day); e != api.OK || kind != want {
				t.Fatalf("Order of %v, %d: %d, %v; not %d", v, day, kind, e, want)
			}
			kinds[want]++
		}
	}
	if kinds[vat.Always] < 100 || kinds[vat.Never] < 100 || kinds[vat.Perhaps] < 100 {
		t.Errorf("how often vats are in order: %v", kinds)
	}
}

// P6.4, P6.5: by the oracle, which keeps all sums that can have been fed.
func TestKeepAndShow(t *testing.T) {
	lengths, all := map[int]int{}, 0
	for _, v := range append(keptVats(), bigVats()...) {
		want := mostOf(v)
		l, e := vat.Keep(v)
		if e != api.OK || len(l) != want || !keepsOf(v, l) {
			t.Fatalf("Keep of %v: %v, %v; not %d days", v, l, e, want)
		}
		lengths[want]++
		p, e := vat.Show(v)
		if want == v.Last+1 {
			if all++; e != api.ErrNone {
				t.Fatalf("Show of %v: %v, %v; but %v keeps it", v, p, e, l)
			}
			continue
		}
		if e != api.OK || max(p.Over, p.Under) != want || !showsOf(v, p) {
			t.Fatalf("Show of %v: %v, %v; not by the day %d", v, p, e, want)
		}
	}
	if all < 100 || lengths[0] < 100 || lengths[1] < 20 || lengths[2] < 20 || lengths[3] < 20 || lengths[8] < 10 {
		t.Errorf("how often the most days are so many: %v; all of them: %d", lengths, all)
	}
}

// P6.4: by the oracle, with feedings near to one that keeps the vat in order.
func TestProveKeep(t *testing.T) {
	kept := map[bool]int{}
	for r, v := range randomVats(400, 2) {
		if !isRight(v) {
			continue
		}
		l, _ := vat.Keep(v)
		for range 12 {
			near := slices.Clone(l)
			for day := range near {
				if r.IntN(3) == 0 {
					near[day] += r.IntN(5) - 2
				}
			}
			for range r.IntN(2) {
				near = append(near, r.IntN(19)-9)
			}
			want := keepsOf(v, near)
			if vat.ProveKeep(v, near) != want {
				t.Fatalf("ProveKeep of %v, %v: not %v", v, near, want)
			}
			kept[want]++
		}
	}
	if kept[true] < 300 || kept[false] < 300 {
		t.Errorf("how often feedings keep a vat: %v", kept)
	}
}

// P6.4: lists that are no feedings, and feedings at their edges.
func TestEdgesOfFeedings(t *testing.T) {
	for _, x := range []struct {
		l    []int
		want bool
	}{
		{nil, true}, {list(), true}, {list(0), true}, {list(0, -1), true}, {list(0, -1, -3), true}, {list(0, -1, -3, 0), true}, {list(0, -1, -3, 0, 0), false},
		{list(-5), true}, {list(-6), false}, {list(1), false}, {list(-5, 3, -4), true}, {list(-5, 4), true}, {list(-5, 5), false},
		{list(0, -1, -9), false}, {list(0, -1, -10), false}, {list(math.MinInt, math.MaxInt), false}, {make([]int, 9), false},
	} {
		if vat.ProveKeep(example(), x.l) != x.want || keepsOf(example(), x.l) != x.want {
			t.Errorf("ProveKeep of %v: %v; by the oracle %v", x.l, !x.want, keepsOf(example(), x.l))
		}
	}
	far := example()
	far.Band, far.Start, far.Drift[0] = 0, to(9, 9), to(1, 1)
	if vat.ProveKeep(far, list(-10)) || vat.ProveKeep(far, list(-9)) {
		t.Error("a feeding of more than there may be")
	}
	far.Start = to(8, 8)
	if !vat.ProveKeep(far, list(-9)) || vat.ProveKeep(far, list(-8)) || !vat.ProveKeep(far, nil) {
		t.Error("a feeding of as much as there may be")
	}
	far.Start, far.Drift[0] = to(-8, -8), to(-1, -1)
	if !vat.ProveKeep(far, list(9)) || vat.ProveKeep(far, list(8)) || vat.ProveKeep(far, list(10)) {
		t.Error("a feeding of lime")
	}
}

// P6.4: the vat's own feeds count for looks alone.
func TestFeedingInsteadOfFeeds(t *testing.T) {
	v, _ := single(0, 3, 50, vat.Feed{Lime: 9, Madder: 9}, 3)
	v.Looks = []vat.Look{balance(0, 12, 12), blue(0, 101, 101)}
	if l, e := vat.Keep(v); e != api.OK || !slices.Equal(l, list(-3)) {
		t.Errorf("Keep: %v, %v", l, e)
	}
	if !vat.ProveKeep(v, list(-3)) || vat.ProveKeep(v, list(-9)) || vat.ProveKeep(v, list(-6)) {
		t.Error("ProveKeep")
	}
}

// P6.5: proofs whose days are the one before the first, or not the same.
func TestEdgesOfProofs(t *testing.T) {
	flat := func(start vat.Range, drifts ...int) vat.Vat {
		v := example()
		v.Start, v.Drift = start, nil
		for _, n := range drifts {
			v.Drift = append(v.Drift, to(n, n))
		}
		return v
	}
	sharp, slack := flat(to(14, 14), 0, 0, 0, 0), flat(to(-14, -14), 0, 0, 0, 0)
	ySharp, ySlack := truth(14, 100, 0, 0, 0, 0), truth(-14, 100, 0, 0, 0, 0)
	wide := flat(to(-4, 5), -9, -9, -9, 0)
	top, bottom := truth(5, 100, -9, -9, -9, 0), truth(-4, 100, -9, -9, -9, 0)
	for _, x := range []struct {
		name  string
		v     vat.Vat
		proof vat.Proof
		want  bool
	}{
		{"sharp at the beginning", sharp, vat.Proof{Over: 0, Under: -1, Most: ySharp, Least: ySharp}, true},
		{"sharp, the other way round", sharp, vat.Proof{Over: -1, Under: 0, Most: ySharp, Least: ySharp}, false},
		{"sharp, but the next day", sharp, vat.Proof{Over: 1, Under: -1, Most: ySharp, Least: ySharp}, false},
		{"sharp, by one day", sharp, vat.Proof{Most: ySharp, Least: ySharp}, false},
		{"slack at the beginning", slack, vat.Proof{Over: -1, Under: 0, Most: ySlack, Least: ySlack}, true},
		{"slack, the other way round", slack, vat.Proof{Over: 0, Under: -1, Most: ySlack, Least: ySlack}, false},
		{"no days", sharp, vat.Proof{Over: -1, Under: -1, Most: ySharp, Least: ySharp}, false},
		{"a day before all", sharp, vat.Proof{Over: 0, Under: -2, Most: ySharp, Least: ySharp}, false},
		{"a day before all, over", slack, vat.Proof{Over: -2, Under: 0, Most: ySlack, Least: ySlack}, false},
		{"a day after the last", sharp, vat.Proof{Over: 4, Under: -1, Most: ySharp, Least: ySharp}, false},
		{"a day after the last, under", slack, vat.Proof{Over: -1, Under: 4, Most: ySlack, Least: ySlack}, false},
		{"days far off", sharp, vat.Proof{Over: math.MaxInt, Under: math.MinInt, Most: ySharp, Least: ySharp}, false},
		{"one day, wide", wide, vat.Proof{Most: top, Least: bottom}, true},
		{"one day, the other truths", wide, vat.Proof{Most: bottom, Least: top}, false},
		{"one day, one truth", wide, vat.Proof{Most: top, Least: top}, false},
		{"the last day", wide, vat.Proof{Over: 3, Under: 3, Most: top, Least: bottom}, true},
		{"over before under", wide, vat.Proof{Over: 0, Under: 2, Most: top, Least: bottom}, true},
		{"over after under", wide, vat.Proof{Over: 2, Under: 0, Most: top, Least: bottom}, false},
		{"under after the drifts", wide, vat.Proof{Over: 0, Under: 3, Most: top, Least: bottom}, false},
	} {
		if vat.ProveShow(x.v, x.proof) != x.want || showsOf(x.v, x.proof) != x.want {
			t.Errorf("%s: ProveShow: %v; by the oracle %v", x.name, !x.want, showsOf(x.v, x.proof))
		}
	}
	sharp.Start = to(13, 13)
	ySharp.Start = 13
	if vat.ProveShow(sharp, vat.Proof{Over: 0, Under: -1, Most: ySharp, Least: ySharp}) {
		t.Error("a need that is as much as the reach")
	}
}

// P6.5: by the oracle, with any days and any truths.
func TestProveShow(t *testing.T) {
	shown := map[bool]int{}
	for r, v := range randomVats(500, 2) {
		if !isRight(v) {
			continue
		}
		truths := anyTruths(v)
		for range 20 {
			p := vat.Proof{
				Over: r.IntN(v.Last+3) - 1, Under: r.IntN(v.Last+3) - 1, Most: truths[r.IntN(len(truths))], Least: truths[r.IntN(len(truths))],
			}
			want := showsOf(v, p)
			if vat.ProveShow(v, p) != want {
				t.Fatalf("ProveShow of %v, %v: not %v", v, p, want)
			}
			shown[want]++
		}
	}
	if shown[true] < 100 || shown[false] < 100 {
		t.Errorf("how often a proof shows something: %v", shown)
	}
}

// P6.6: by the oracle, which tries every set of looks.
func TestFirstAndLeave(t *testing.T) {
	wrong := 0
	for _, v := range randomVats(400, 5) {
		first, e := 0, api.ErrNone
		for n := range v.Looks {
			before := v
			before.Looks = v.Looks[:n+1]
			if !isRight(before) {
				first, e, wrong = n, api.OK, wrong+1
				break
			}
		}
		if n, g := vat.First(v); n != first || g != e {
			t.Fatalf("First of %v: %d, %v; not %d, %v", v, n, g, first, e)
		}
		sets := oracle.ShortestFirst(len(v.Looks))
		smallest := sets[slices.IndexFunc(sets, func(l []int) bool { return isRight(without(v, l)) })]
		if l, g := vat.Leave(v); g != api.OK || !slices.Equal(l, smallest) {
			t.Fatalf("Leave of %v: %v, %v; not %v", v, l, g, smallest)
		}
	}
	if wrong < 50 {
		t.Errorf("only %d of the vats have a wrong look", wrong)
	}
}

// P6.6: all looks have to be left out.
func TestLeaveAll(t *testing.T) {
	v := example(balance(0, 5, 9), balance(0, -9, 0), blue(0, 96, 99), blue(1, -5000, 89), balance(3, 7, 7))
	if l, e := vat.Leave(v); e != api.OK || !slices.Equal(l, list(0, 1, 2, 3, 4)) {
		t.Errorf("Leave: %v, %v", l, e)
	}
	if n, e := vat.First(v); e != api.OK || n != 0 {
		t.Errorf("First: %d, %v", n, e)
	}
}
