package move_test

import (
	"math"
	"slices"
	"testing"

	"isatis/api"
	"isatis/move"
	"isatis/oracle"
)

func list(l ...int) []int { return l }

func year(crop, cost, money int) move.Year { return move.Year{Crop: crop, Cost: cost, Money: money} }

// roads all cost the same.
func roads(sites, cost int) [][]int {
	l := make([][]int, sites)
	for site := range l {
		l[site] = slices.Repeat(list(cost), sites)
		l[site][site] = 0
	}
	return l
}

// example is the land of the chapter's examples.
func example() move.Land {
	return move.Land{
		Last: 2, Home: 0, Purse: 10, Bad: 1, Rest: 2,
		Sites: []move.Site{{Fresh: 20, Second: 12, Rent: 2}, {Fresh: 30, Second: 10, Rent: 4}},
		Roads: roads(2, 5),
	}
}

// plain has so many years without bad ones, sites without rent, and roads that cost
// nothing.
func plain(years, rest int, sites ...move.Site) move.Land {
	return move.Land{Last: years - 1, Rest: rest, Sites: sites, Roads: roads(len(sites), 0)}
}

func site(fresh, second, rent int) move.Site {
	return move.Site{Fresh: fresh, Second: second, Rent: rent}
}

// names are what calls name beside the land: a plan and a weather, a beginning of
// years and the bad ones of it, and a site.
type names struct {
	plan, bad, sites, before []int
	site                     int
}

// calls are the errors of all calls with the land, and whether each of them returns
// nothing else together with its error.
func calls(l move.Land, n names) (map[string]api.Errno, bool) {
	years, e1 := move.Play(l, n.plan, n.bad)
	sure, worst, e2 := move.Sure(l, n.plan)
	best, profit, e3 := move.Best(l)
	seen, e4 := move.Seen(l)
	next, most, e5 := move.Go(l, n.sites, n.before)
	late, e6 := move.Late(l)
	worth, e7 := move.Worth(l, n.site)
	zero := (e1 == 0 || years == nil) && (e2 == 0 || sure == 0 && worst == nil) && (e3 == 0 || best == nil && profit == 0) &&
		(e4 == 0 || seen == 0) && (e5 == 0 || next == 0 && most == 0) && (e6 == 0 || late == 0) && (e7 == 0 || worth == 0)
	return map[string]api.Errno{"Play": e1, "Sure": e2, "Best": e3, "Seen": e4, "Go": e5, "Late": e6, "Worth": e7}, zero
}

type change struct {
	name string
	make func(l *move.Land)
	want api.Errno
}

func yearChanges() []change {
	return []change{
		{"as it is", func(l *move.Land) {}, api.OK},
		{"nothing", func(l *move.Land) { *l = move.Land{} }, api.ErrArg},
		{"one year", func(l *move.Land) { l.Last = 0 }, api.OK},
		{"no year", func(l *move.Land) { l.Last, l.Bad = -1, 0 }, api.ErrArg},
		{"a last year far before", func(l *move.Land) { l.Last = math.MinInt }, api.ErrArg},
		{"5 years", func(l *move.Land) { l.Last = 4 }, api.OK},
		{"6 years", func(l *move.Land) { l.Last = 5 }, api.ErrLimit},
		{"6 years, and nothing else", func(l *move.Land) { *l = move.Land{Last: 5} }, api.ErrLimit},
		{"a last year far off", func(l *move.Land) { l.Last = math.MaxInt }, api.ErrLimit},
		{"no bad years", func(l *move.Land) { l.Bad = 0 }, api.OK},
		{"fewer bad years than none", func(l *move.Land) { l.Bad = -1 }, api.ErrArg},
		{"all years bad", func(l *move.Land) { l.Bad = 3 }, api.OK},
		{"more bad years than years", func(l *move.Land) { l.Bad = 4 }, api.ErrArg},
		{"bad years far off", func(l *move.Land) { l.Bad = math.MaxInt }, api.ErrArg},
		{"no purse", func(l *move.Land) { l.Purse = 0 }, api.OK},
		{"a purse below 0", func(l *move.Land) { l.Purse = -1 }, api.ErrArg},
		{"the greatest purse", func(l *move.Land) { l.Purse = 999 }, api.OK},
		{"a greater purse", func(l *move.Land) { l.Purse = 1000 }, api.ErrArg},
		{"a purse far off", func(l *move.Land) { l.Purse = math.MaxInt }, api.ErrArg},
		{"a rest of a year", func(l *move.Land) { l.Rest = 1 }, api.OK},
		{"no rest", func(l *move.Land) { l.Rest = 0 }, api.ErrArg},
		{"the longest rest", func(l *move.Land) { l.Rest = 5 }, api.OK},
		{"a longer rest", func(l *move.Land) { l.Rest = 6 }, api.ErrArg},
		{"a rest far off", func(l *move.Land) { l.Rest = math.MinInt }, api.ErrArg},
		{"the last home", func(l *move.Land) { l.Home = 1 }, api.OK},
		{"a home after the last", func(l *move.Land) { l.Home = 2 }, api.ErrArg},
		{"a home before the first", func(l *move.Land) { l.Home = -1 }, api.ErrArg},
		{"a home far off", func(l *move.Land) { l.Home = math.MaxInt }, api.ErrArg},
	}
}

func siteChanges() []change {
	sites := func(l ...move.Site) func(l *move.Land) {
		return func(land *move.Land) { land.Sites, land.Roads = l, roads(len(l), 5) }
	}
	ok := site(20, 12, 2)
	return []change{
		{"no sites", sites(), api.ErrArg},
		{"one site", sites(ok), api.OK},
		{"4 sites", sites(ok, ok, ok, ok), api.OK},
		{"5 sites", sites(ok, ok, ok, ok, ok), api.ErrLimit},
		{"5 sites, and nothing else", func(l *move.Land) { *l = move.Land{Sites: make([]move.Site, 5)} }, api.ErrLimit},
		{"5 sites, and a purse below 0", func(l *move.Land) { l.Sites, l.Purse = make([]move.Site, 5), -1 }, api.ErrLimit},
		{"a site of nothing", sites(ok, site(0, 0, 0)), api.OK},
		{"a site of the most", sites(ok, site(99, 99, 99)), api.OK},
		{"a crop too great", sites(ok, site(100, 12, 2)), api.ErrArg},
		{"crops below 0", sites(ok, site(-1, -2, 2)), api.ErrArg},
		{"a second crop below 0", sites(ok, site(20, -1, 2)), api.ErrArg},
		{"a second crop like the first one", sites(ok, site(20, 20, 2)), api.OK},
		{"a second crop above the first one", sites(ok, site(20, 21, 2)), api.ErrArg},
		{"a first site that is not valid", sites(site(20, 21, 2), ok), api.ErrArg},
		{"a rent below 0", sites(ok, site(20, 12, -1)), api.ErrArg},
		{"a rent too high", sites(ok, site(20, 12, 100)), api.ErrArg},
		{"a site far off", sites(ok, site(math.MaxInt, math.MinInt, math.MaxInt)), api.ErrArg},
	}
}

func roadChanges() []change {
	to := func(l ...[]int) func(l *move.Land) { return func(land *move.Land) { land.Roads = l } }
	return []change{
		{"no roads", to(), api.ErrArg},
		{"empty lists of roads", to(nil, nil), api.ErrArg},
		{"the roads of one site", to(list(0, 5)), api.ErrArg},
		{"roads of a site too many", to(list(0, 5), list(5, 0), list(5, 5)), api.ErrArg},
		{"a road too few", to(list(0, 5), list(5)), api.ErrArg},
		{"a road too many", to(list(0, 5), list(5, 0, 5)), api.ErrArg},
		{"roads that cost nothing", to(list(0, 0), list(0, 0)), api.OK},
		{"a road that costs another number back", to(list(0, 5), list(7, 0)), api.OK},
		{"the dearest road", to(list(0, 99), list(5, 0)), api.OK},
		{"a road that is too dear", to(list(0, 100), list(5, 0)), api.ErrArg},
		{"a road below 0", to(list(0, 5), list(-1, 0)), api.ErrArg},
		{"a road from a site to itself", to(list(1, 5), list(5, 0)), api.ErrArg},
		{"a road from the last site to itself", to(list(0, 5), list(5, 1)), api.ErrArg},
		{"roads far off", to(list(0, math.MaxInt), list(math.MinInt, 0)), api.ErrArg},
		{"as many roads for more sites", func(l *move.Land) { l.Sites = append(l.Sites, site(1, 1, 1)) }, api.ErrArg},
	}
}

// P11.1: the errors of a land, in their order.
func TestCheckLand(t *testing.T) {
	for _, x := range slices.Concat(yearChanges(), siteChanges(), roadChanges()) {
		l := example()
		x.make(&l)
		if e := move.CheckLand(l); e != x.want {
			t.Errorf("%s: CheckLand: %v", x.name, e)
		}
		if x.want == api.OK {
			continue
		}
		// Nothing else that the calls name is valid either: the error of the land comes first.
		errors, zero := calls(l, names{plan: list(-1), bad: list(-1), sites: list(-1), before: list(-1), site: -1})
		for name, e := range errors {
			if e != x.want {
				t.Errorf("%s: %s: %v", x.name, name, e)
			}
		}
		if !zero {
			t.Errorf("%s: a result together with an error", x.name)
		}
		if move.ProvePlan(l, list(0, 0, 1), math.MinInt) || move.ProvePlan(l, nil, math.MinInt) {
			t.Errorf("%s: something is proved", x.name)
		}
	}
}

// P11.1 to P11.5: the errors of calls with a valid land.
func TestErrors(t *testing.T) {
	const ok, off, no, short = api.OK, api.ErrRange, api.ErrFail, api.ErrShort
	three := list(0, 0, 1)
	poor := example()
	poor.Purse = 1
	for _, x := range []struct {
		name                                string
		l                                   move.Land
		n                                   names
		play, sure, best, seen, next, worth api.Errno
	}{
		{"as it is", example(), names{plan: three}, ok, ok, ok, ok, ok, ok},
		{"a weather, and years of it", example(), names{plan: three, bad: list(2), sites: list(0, 1), before: list(1), site: 1}, ok, ok, ok, ok, ok, ok},
		{"no plan", example(), names{}, off, off, ok, ok, ok, ok},
		{"a plan too short", example(), names{plan: list(0, 0)}, off, off, ok, ok, ok, ok},
		{"a plan too long", example(), names{plan: list(0, 0, 0, 0)}, off, off, ok, ok, ok, ok},
		{"a plan with a site after the last", example(), names{plan: list(0, 0, 2)}, off, off, ok, ok, ok, ok},
		{"a plan with a site before the first", example(), names{plan: list(-1, 0, 0)}, off, off, ok, ok, ok, ok},
		{"a bad year after the last", example(), names{plan: three, bad: list(3)}, off, ok, ok, ok, ok, ok},
		{"a bad year before the first", example(), names{plan: three, bad: list(-1)}, off, ok, ok, ok, ok, ok},
		{"more bad years than can be", example(), names{plan: three, bad: list(0, 1)}, off, ok, ok, ok, ok, ok},
		{"a bad year twice", worse(), names{plan: three, bad: list(1, 1)}, off, ok, ok, ok, ok, ok},
		{"bad years the other way round", worse(), names{plan: three, bad: list(1, 0)}, off, ok, ok, ok, ok, ok},
		{"as many sites as years", example(), names{plan: three, sites: three}, ok, ok, ok, ok, off, ok},
		{"a site that is none", example(), names{plan: three, sites: list(0, 2)}, ok, ok, ok, ok, off, ok},
		{"a site below 0", example(), names{plan: three, sites: list(-1)}, ok, ok, ok, ok, off, ok},
		{"a bad year before any", example(), names{plan: three, before: list(0)}, ok, ok, ok, ok, off, ok},
		{"a bad year that is the next", example(), names{plan: three, sites: list(0), before: list(1)}, ok, ok, ok, ok, off, ok},
		{"a year below 0 that was bad", example(), names{plan: three, sites: list(0), before: list(-1)}, ok, ok, ok, ok, off, ok},
		{"more years that were bad than can be", example(), names{plan: three, sites: list(0, 0), before: list(0, 1)}, ok, ok, ok, ok, off, ok},
		{"years that were bad the other way round", worse(), names{plan: three, sites: list(0, 0), before: list(1, 0)}, ok, ok, ok, ok, off, ok},
		{"no such site", example(), names{plan: three, site: 2}, ok, ok, ok, ok, ok, off},
		{"a site before the first one", example(), names{plan: three, site: -1}, ok, ok, ok, ok, ok, off},
		{"a site far off", example(), names{plan: three, site: math.MaxInt}, ok, ok, ok, ok, ok, off},
		{"too little money", poor, names{plan: three, sites: list(0)}, no, no, short, short, no, short},
		{"too little money from now on", poor, names{plan: three}, no, no, short, short, short, short},
		{"too little money, and nothing valid", poor, names{plan: list(0), sites: list(2), site: 2}, off, off, short, short, off, off},
	} {
		errors, zero := calls(x.l, x.n)
		want := map[string]api.Errno{
			"Play": x.play, "Sure": x.sure, "Best": x.best, "Seen": x.seen, "Go": x.next, "Late": x.best, "Worth": x.worth,
		}
		for name, e := range errors {
			if e != want[name] {
				t.Errorf("%s: %s: %v", x.name, name, e)
			}
		}
		if !zero {
			t.Errorf("%s: a result together with an error", x.name)
		}
	}
}

// worse is the example with two bad years.
func worse() move.Land {
	l := example()
	l.Bad = 2
	return l
}

// The examples of the chapter.
func TestExamples(t *testing.T) {
	for _, x := range []struct {
		plan, bad []int
		want      []move.Year
	}{
		{list(0, 0, 1), nil, []move.Year{year(20, 2, 28), year(12, 2, 38), year(30, 9, 59)}},
		{list(0, 0, 1), list(2), []move.Year{year(20, 2, 28), year(12, 2, 38), year(15, 9, 44)}},
		{list(0, 1, 0), nil, []move.Year{year(20, 2, 28), year(30, 9, 49), year(12, 7, 54)}},
	} {
		if l, e := move.Play(example(), x.plan, x.bad); e != api.OK || !slices.Equal(l, x.want) {
			t.Errorf("Play of %v, %v: %v, %v", x.plan, x.bad, l, e)
		}
	}
	for _, x := range []struct {
		plan, worst []int
		profit      int
	}{{list(0, 0, 1), list(2), 34}, {list(0, 1, 0), list(1), 29}, {list(1, 0, 0), list(0), 29}} {
		if profit, worst, e := move.Sure(example(), x.plan); e != api.OK || profit != x.profit || !slices.Equal(worst, x.worst) {
			t.Errorf("Sure of %v: %d, %v, %v", x.plan, profit, worst, e)
		}
	}
	if plan, profit, e := move.Best(example()); e != api.OK || !slices.Equal(plan, list(0, 0, 1)) || profit != 34 {
		t.Errorf("Best: %v, %d, %v", plan, profit, e)
	}
	if n, e := move.Seen(example()); e != api.OK || n != 34 {
		t.Errorf("Seen: %d, %v", n, e)
	}
	if n, e := move.Late(example()); e != api.OK || n != 2 {
		t.Errorf("Late: %d, %v", n, e)
	}
	for number, want := range list(26, 18) {
		if n, e := move.Worth(example(), number); e != api.OK || n != want {
			t.Errorf("Worth of %d: %d, %v", number, n, e)
		}
	}
	for _, x := range []struct {
		sites, bad   []int
		site, profit int
	}{{nil, nil, 0, 34}, {list(0), list(0), 0, 39}, {list(0, 0), nil, 1, 34}} {
		if next, profit, e := move.Go(example(), x.sites, x.bad); e != api.OK || next != x.site || profit != x.profit {
			t.Errorf("Go after %v, %v: %d, %d, %v", x.sites, x.bad, next, profit, e)
		}
	}
	l := example()
	l.Purse = 1
	if plan, profit, e := move.Best(l); e != api.ErrShort || plan != nil || profit != 0 {
		t.Errorf("Best: %v, %d, %v", plan, profit, e)
	}
	l.Purse = 8
	if profit, worst, e := move.Sure(l, list(1, 0, 0)); e != api.ErrFail || profit != 0 || worst != nil {
		t.Errorf("Sure: %d, %v, %v", profit, worst, e)
	}
}

// P11.1: how often a site can be cropped, and when it has rested.
func TestCrops(t *testing.T) {
	two := []move.Site{site(40, 25, 0), site(9, 3, 0)}
	for _, x := range []struct {
		plan []int
		rest int
		want []int
	}{
		{list(0, 0, 0, 0, 0), 1, list(40, 25, 0, 0, 0)},
		{list(0, 0, 0, 0, 0), 5, list(40, 25, 0, 0, 0)},
		{list(0, 1, 0, 1, 0), 1, list(40, 9, 40, 9, 40)},
		{list(0, 1, 0, 1, 0), 2, list(40, 9, 25, 3, 0)},
		{list(0, 1, 1, 0, 0), 2, list(40, 9, 3, 40, 25)},
		{list(0, 1, 1, 0, 0), 3, list(40, 9, 3, 25, 0)},
		{list(0, 0, 1, 0, 1), 1, list(40, 25, 9, 40, 9)},
		{list(0, 0, 1, 0, 1), 2, list(40, 25, 9, 0, 3)},
		{list(0, 0, 0, 1, 0), 1, list(40, 25, 0, 9, 40)},
		{list(0, 1, 1, 1, 0), 3, list(40, 9, 3, 0, 40)},
		{list(0, 1, 1, 1, 0), 2, list(40, 9, 3, 0, 40)},
		{list(0, 1, 1, 1, 0), 4, list(40, 9, 3, 0, 25)},
		{list(1, 1, 1, 1, 0), 1, list(9, 3, 0, 0, 40)},
		// Idle years that are interrupted are no rest.
		{list(0, 1, 0, 1, 0), 3, list(40, 9, 25, 3, 0)},
	} {
		l := plain(5, x.rest, two...)
		years := play(t, l, x.plan, nil)
		var crops []int
		for _, y := range years {
			crops = append(crops, y.Crop)
		}
		if !slices.Equal(crops, x.want) {
			t.Errorf("the rest %d: the crops of %v: %v", x.rest, x.plan, crops)
		}
	}
}

// P11.1: a bad year, which halves a crop, rounded down, but takes it all the same.
func TestBadYears(t *testing.T) {
	l := plain(3, 1, site(25, 7, 3))
	l.Purse, l.Bad = 9, 3
	for _, x := range []struct {
		bad  []int
		want []move.Year
	}{
		{nil, []move.Year{year(25, 3, 31), year(7, 3, 35), year(0, 3, 32)}},
		{list(0), []move.Year{year(12, 3, 18), year(7, 3, 22), year(0, 3, 19)}},
		{list(1), []move.Year{year(25, 3, 31), year(3, 3, 31), year(0, 3, 28)}},
		{list(2), []move.Year{year(25, 3, 31), year(7, 3, 35), year(0, 3, 32)}},
		{list(0, 1, 2), []move.Year{year(12, 3, 18), year(3, 3, 18), year(0, 3, 15)}},
	} {
		if years := play(t, l, list(0, 0, 0), x.bad); !slices.Equal(years, x.want) {
			t.Errorf("%v: %v", x.bad, years)
		}
	}
	l = plain(1, 1, site(1, 1, 0))
	l.Bad = 1
	if years := play(t, l, list(0), list(0)); years[0] != year(0, 0, 0) {
		t.Errorf("a half of 1: %v", years)
	}
}

// P11.1: what roads cost, there and back, from Home on.
func TestRoads(t *testing.T) {
	l := plain(4, 1, site(0, 0, 1), site(0, 0, 20), site(0, 0, 0))
	l.Home, l.Purse = 2, 500
	l.Roads = [][]int{list(0, 3, 5), list(7, 0, 11), list(13, 17, 0)}
	for _, x := range []struct{ plan, want []int }{
		{list(2, 2, 2, 2), list(0, 0, 0, 0)},
		{list(0, 1, 2, 0), list(14, 23, 11, 14)},
		{list(1, 0, 2, 1), list(37, 8, 5, 37)},
		{list(2, 2, 1, 1), list(0, 0, 37, 20)},
	} {
		money := l.Purse
		for n, y := range play(t, l, x.plan, nil) {
			if money -= x.want[n]; y != year(0, x.want[n], money) {
				t.Errorf("%v: the year %d: %v", x.plan, n, y)
			}
		}
	}
}

// P11.1, P11.2: the money has to be enough for a cost before the crop of the year.
func TestAffordable(t *testing.T) {
	const ok, no = api.OK, api.ErrFail
	for _, x := range []struct {
		purse           int
		bad             []int
		play, sure, one api.Errno // one: Sure if no year is bad
	}{
		{20, nil, ok, ok, ok},
		// The rent of the year 0 leaves nothing, and the crop of a bad year is just enough.
		{12, list(0), ok, ok, ok},
		{12, nil, ok, ok, ok},
		{11, nil, no, no, no},
		{0, list(0), no, no, no},
	} {
		l := plain(2, 1, site(25, 20, 12))
		l.Purse, l.Bad = x.purse, 1
		check := func(what string, e, want api.Errno) {
			if e != want {
				t.Errorf("%s with the purse %d, %v: %v", what, x.purse, x.bad, e)
			}
		}
		_, e := move.Play(l, list(0, 0), x.bad)
		check("Play", e, x.play)
		_, _, e = move.Sure(l, list(0, 0))
		check("Sure", e, x.sure)
		l.Bad = 0
		_, _, e = move.Sure(l, list(0, 0))
		check("Sure without bad years", e, x.one)
	}
	// The crop of a bad year 0 is 12, one too little for the rent of the year 1.
	l := plain(2, 1, site(24, 20, 0), site(24, 20, 13))
	l.Bad = 1
	for _, x := range []struct {
		bad  []int
		want api.Errno
	}{{nil, ok}, {list(1), ok}, {list(0), no}} {
		if _, e := move.Play(l, list(0, 1), x.bad); e != x.want {
			t.Errorf("Play of %v: %v", x.bad, e)
		}
	}
	if _, _, e := move.Sure(l, list(0, 1)); e != no || move.ProvePlan(l, list(0, 1), math.MinInt) {
		t.Errorf("Sure: %v", e)
	}
	l.Sites[1].Rent = 12
	if n, worst, e := move.Sure(l, list(0, 1)); e != ok || n != 24 || !slices.Equal(worst, list(0)) {
		t.Errorf("Sure: %d, %v, %v", n, worst, e)
	}
}

// P11.2: the worst weather is the shortest one, and of several the first one.
func TestWorst(t *testing.T) {
	two := []move.Site{site(30, 9, 0), site(31, 1, 0)}
	for _, x := range []struct {
		name  string
		bad   int
		plan  []int
		worst []int
	}{
		{"no bad year", 0, list(0, 1), nil},
		{"one year loses more", 1, list(0, 1), list(1)},
		{"the first one of two with the same loss", 1, list(0, 0, 1, 1, 0), list(2)},
		{"of 30 and 9", 1, list(0, 0), list(0)},
		{"both", 2, list(0, 0), list(0, 1)},
		{"the same crops", 1, list(0, 2, 0, 2, 0), list(0)},
		{"the same crops, two bad years", 2, list(0, 2, 0, 2, 0), list(0, 2)},
		{"more bad years than crops", 5, list(0, 0, 0, 0, 0), list(0, 1)},
		{"nothing is lost", 2, list(2, 2), nil},
	} {
		l := plain(len(x.plan), 1, append(slices.Clone(two), site(0, 0, 0))...)
		l.Bad = min(x.bad, len(x.plan))
		if _, worst, e := move.Sure(l, x.plan); e != api.OK || !slices.Equal(worst, x.worst) {
			t.Errorf("%s: %v, %v", x.name, worst, e)
		}
	}
}

// P11.2: a plan is proved up to its sure profit.
func TestProvePlan(t *testing.T) {
	for _, x := range []struct {
		plan   []int
		profit int
		want   bool
	}{
		{list(0, 0, 1), 34, true},
		{list(0, 0, 1), 35, false},
		{list(0, 0, 1), math.MinInt, true},
		{list(0, 0, 1), math.MaxInt, false},
		{list(0, 1, 0), 29, true},
		{list(0, 1, 0), 30, false},
		{list(0, 0), 0, false},
		{list(0, 0, 0, 0), 0, false},
		{list(0, 0, 2), 0, false},
		{list(-1, 0, 0), 0, false},
		{nil, math.MinInt, false},
	} {
		if move.ProvePlan(example(), x.plan, x.profit) != x.want {
			t.Errorf("ProvePlan of %v, %d: not %v", x.plan, x.profit, x.want)
		}
	}
	l := example()
	l.Purse = 8
	if move.ProvePlan(l, list(1, 0, 0), math.MinInt) || !move.ProvePlan(l, list(0, 0, 1), 34) {
		t.Error("ProvePlan with the purse 8")
	}
}

// P11.3: of several best plans the lexicographically first one, also one that loses.
func TestBestOfSeveral(t *testing.T) {
	l := plain(3, 5, site(10, 10, 0), site(10, 10, 0))
	l.Home = 1
	if plan, profit := best(t, l); !slices.Equal(plan, list(0, 0, 1)) || profit != 30 {
		t.Errorf("Best: %v, %d", plan, profit)
	}
	l = plain(2, 1, site(3, 0, 9), site(2, 0, 9), site(3, 0, 9))
	l.Purse, l.Home, l.Roads = 40, 1, roads(3, 1)
	if plan, profit := best(t, l); !slices.Equal(plan, list(0, 2)) || profit != -14 {
		t.Errorf("Best: %v, %d", plan, profit)
	}
	l = plain(1, 1, site(3, 0, 9))
	l.Purse = 9
	if plan, profit := best(t, l); !slices.Equal(plan, list(0)) || profit != -6 {
		t.Errorf("Best: %v, %d", plan, profit)
	}
}

// seeing has a dear site with a great crop, which pays only in a year that is surely
// not bad, and a cheap one.
func seeing() move.Land {
	l := plain(2, 1, site(20, 0, 0), site(40, 0, 20), site(12, 0, 0))
	l.Bad, l.Purse = 1, 10
	return l
}

// scarce has so little money that the site 1, which is dear, can be paid in the year
// 1 always, but the year 2 after it only if the year 1 was not bad, as it surely is
// after a bad year 0. After a good one the mill can stay at the site 0.
func scarce() move.Land {
	l := plain(3, 1, site(2, 0, 4), site(4, 1, 7))
	l.Bad, l.Purse = 1, 10
	return l
}

// P11.4: one who sees can be sure of more, also where no plan is affordable.
func TestSeen(t *testing.T) {
	if plan, profit := best(t, seeing()); !slices.Equal(plan, list(0, 2)) || profit != 22 {
		t.Errorf("Best: %v, %d", plan, profit)
	}
	if plan, _, e := move.Best(scarce()); e != api.ErrShort {
		t.Errorf("Best: %v, %v", plan, e)
	}
	for _, x := range []struct {
		name         string
		l            move.Land
		sites, bad   []int
		site, profit int
	}{
		{"seeing", seeing(), nil, nil, 0, 26},
		{"seeing, after a good year", seeing(), list(0), nil, 2, 26},
		{"seeing, after a bad year", seeing(), list(0), list(0), 1, 30},
		{"seeing, after a good year elsewhere", seeing(), list(2), nil, 0, 22},
		{"scarce", scarce(), nil, nil, 0, -10},
		{"scarce, after a good year", scarce(), list(0), nil, 0, -10},
		{"scarce, after a bad year", scarce(), list(0), list(0), 1, -8},
		{"scarce, after two years, the last one bad", scarce(), list(0, 0), list(1), 0, -10},
		{"scarce, after two years, the first one bad", scarce(), list(0, 1), list(0), 0, -8},
	} {
		if next, profit := next(t, x.l, x.sites, x.bad); next != x.site || profit != x.profit {
			t.Errorf("%s: Go: %d, %d", x.name, next, profit)
		}
		if len(x.sites) == 0 && seen(t, x.l) != x.profit {
			t.Errorf("%s: Seen: %d", x.name, seen(t, x.l))
		}
	}
	for _, x := range []struct {
		name       string
		sites, bad []int
		want       api.Errno
	}{
		{"two years, the first one bad, after which nothing can be paid", list(0, 0), list(0), api.ErrShort},
		{"two years, the last one bad, after which nothing can be paid", list(0, 1), list(1), api.ErrShort},
		{"a bad year that leads nowhere", list(1), list(0), api.ErrShort},
		{"two years, the last one not paid", list(1, 1), list(0), api.ErrFail},
		{"two bad years, which are too many", list(0, 1), list(0, 1), api.ErrRange},
	} {
		if _, _, e := move.Go(scarce(), x.sites, x.bad); e != x.want {
			t.Errorf("%s: Go: %v", x.name, e)
		}
	}
}

// P11.4: of several sites the one with the smallest number.
func TestGoOfSeveral(t *testing.T) {
	l := plain(2, 5, site(5, 0, 0), site(9, 9, 1), site(9, 9, 1), site(8, 8, 0))
	l.Home, l.Purse = 3, 9
	for _, x := range []struct{ sites, want []int }{{nil, list(1, 16)}, {list(0), list(1, 13)}, {list(1), list(1, 16)}, {list(3), list(1, 16)}} {
		if site, profit := next(t, l, x.sites, nil); site != x.want[0] || profit != x.want[1] {
			t.Errorf("Go after %v: %d, %d", x.sites, site, profit)
		}
	}
}

// P11.5: the latest first move of the plans that are as good as the best one.
func TestLate(t *testing.T) {
	two := []move.Site{site(10, 10, 0), site(10, 10, 0)}
	for _, x := range []struct {
		name        string
		years, home int
		sites       []move.Site
		want        int
	}{
		{"one site", 3, 0, two[:1], 3},
		{"one site, one year", 1, 0, two[:1], 1},
		{"it can stay as long as two crops are taken", 2, 0, two, 2},
		{"so it can at the other site, though the best plan moves at once", 2, 1, two, 2},
		{"a third crop is to be had elsewhere", 3, 0, two, 2},
		{"so it is from the other site", 3, 1, two, 2},
		{"four crops are to be had by two moves at least", 4, 0, two, 2},
		{"it has to move at once", 2, 0, []move.Site{site(1, 0, 0), site(9, 9, 0)}, 0},
		{"it has to move in the year 1", 2, 0, []move.Site{site(9, 0, 0), site(9, 9, 0)}, 1},
		{"it can move in any year, or not at all", 3, 0, make([]move.Site, 2), 3},
	} {
		l := plain(x.years, 5, x.sites...)
		l.Home = x.home
		if n, e := move.Late(l); e != api.OK || n != x.want {
			t.Errorf("%s: Late: %d, %v", x.name, n, e)
		}
	}
}

// P11.5: what a site is worth.
func TestWorth(t *testing.T) {
	poor := plain(2, 1, site(9, 0, 0), site(9, 9, 20))
	for _, x := range []struct {
		name  string
		l     move.Land
		worth []int // of each site; -1, if it has to be ErrShort
	}{
		{"one site", plain(2, 1, site(9, 9, 0)), list(-1)},
		{"one site of nothing", plain(1, 1, site(0, 0, 0)), list(-1)},
		{"two like each other", plain(2, 1, site(9, 9, 0), site(9, 9, 0)), list(0, 0)},
		{"two like each other, of which each gives one crop", plain(2, 1, site(9, 0, 0), site(9, 0, 0)), list(9, 9)},
		{"one of which nothing is got", plain(2, 1, site(9, 8, 0), site(7, 0, 0)), list(10, 0)},
		{"three sites", plain(2, 2, site(9, 8, 0), site(12, 1, 0), site(9, 9, 0)), list(0, 3, 0)},
		{"the only one that can be paid", poor, list(-1, 0)},
	} {
		for number, want := range x.worth {
			e, none := api.OK, 0
			if want < 0 {
				e, want = api.ErrShort, none
			}
			if n, got := move.Worth(x.l, number); got != e || n != want {
				t.Errorf("%s: Worth of %d: %d, %v", x.name, number, n, got)
			}
		}
	}
	// Without the site 0 the mill loses 2 in each of two years.
	l := plain(2, 1, site(9, 9, 0), site(3, 3, 5))
	l.Purse = 20
	if n, e := move.Worth(l, 0); e != api.OK || n != 22 {
		t.Errorf("Worth: %d, %v", n, e)
	}
}

func play(t *testing.T, l move.Land, plan, bad []int) []move.Year {
	t.Helper()
	years, e := move.Play(l, plan, bad)
	if e != api.OK {
		t.Fatalf("Play of %v, %v, %v: %v", l, plan, bad, e)
	}
	return years
}

func sure(t *testing.T, l move.Land, plan []int) (int, []int) {
	t.Helper()
	profit, worst, e := move.Sure(l, plan)
	if e != api.OK {
		t.Fatalf("Sure of %v, %v: %v", l, plan, e)
	}
	return profit, worst
}

func best(t *testing.T, l move.Land) ([]int, int) {
	t.Helper()
	plan, profit, e := move.Best(l)
	if e != api.OK {
		t.Fatalf("Best of %v: %v", l, e)
	}
	return plan, profit
}

func seen(t *testing.T, l move.Land) int {
	t.Helper()
	n, e := move.Seen(l)
	if e != api.OK {
		t.Fatalf("Seen of %v: %v", l, e)
	}
	return n
}

func next(t *testing.T, l move.Land, sites, bad []int) (int, int) {
	t.Helper()
	site, profit, e := move.Go(l, sites, bad)
	if e != api.OK {
		t.Fatalf("Go of %v, %v, %v: %v", l, sites, bad, e)
	}
	return site, profit
}

func late(t *testing.T, l move.Land) int {
	t.Helper()
	n, e := move.Late(l)
	if e != api.OK {
		t.Fatalf("Late of %v: %v", l, e)
	}
	return n
}

// P11.1: years of any plan in any weather, by the oracle.
func TestPlayByOracle(t *testing.T) {
	s := oracle.Seen{}
	for r, l := range randomLands(3000) {
		for range 5 {
			plan, bad := randomPlan(r, l), randomWeather(r, l)
			want, e := yearsOf(l, plan, bad), api.OK
			if !isPaid(l, want) {
				want, e = nil, api.ErrFail
			}
			years, got := move.Play(l, plan, bad)
			if got != e || !slices.Equal(years, want) {
				t.Fatalf("Play of %v, %v, %v: %v, %v, not %v, %v", l, plan, bad, years, got, want, e)
			}
			s.Count("it is not affordable", e != api.OK)
			s.Count("it is affordable in a weather with bad years", e == api.OK && len(bad) > 0)
			s.Count("it moves three times", moves(l, plan) > 2)
		}
	}
	s.Need(t, 1000, "it is not affordable", "it is affordable in a weather with bad years", "it moves three times")
}

// moves are those of the plan.
func moves(l move.Land, plan []int) (many int) {
	from := l.Home
	for _, site := range plan {
		if site != from {
			many++
		}
		from = site
	}
	return many
}

// P11.2: any plan, by the oracle.
func TestSureByOracle(t *testing.T) {
	s := oracle.Seen{}
	for r, l := range randomLands(2000) {
		for range 3 {
			plan := randomPlan(r, l)
			want, weather := sureOf(l, plan)
			e, able := api.OK, isAffordable(l, plan)
			s.Count("it is affordable without bad years alone", !able && isPaid(l, yearsOf(l, plan, nil)))
			if !able {
				want, weather, e = 0, nil, api.ErrFail
			}
			if profit, worst, got := move.Sure(l, plan); got != e || profit != want || !slices.Equal(worst, weather) {
				t.Fatalf("Sure of %v, %v: %d, %v, %v, not %d, %v, %v", l, plan, profit, worst, got, want, weather, e)
			}
			for n := want - 1; n <= want+1; n++ {
				if move.ProvePlan(l, plan, n) != (able && n <= want) {
					t.Fatalf("ProvePlan of %v, %v, %d", l, plan, n)
				}
			}
			s.Count("it is affordable", able)
			s.Count("it loses", want < 0)
			s.Count("its worst weather has fewer bad years than can be", able && len(weather) < l.Bad)
			s.Count("its worst weather has two bad years", len(weather) > 1)
		}
	}
	s.Need(t, 100, "it is affordable", "it is affordable without bad years alone", "it loses",
		"its worst weather has fewer bad years than can be", "its worst weather has two bad years")
}

// P11.3, P11.5: the best plan, and all that is asked of it, by the oracle.
func TestBestByOracle(t *testing.T) {
	s := oracle.Seen{}
	for _, l := range append(manyLands(1500), bigLands()...) {
		plans := affordableOf(l)
		want, most := bestOf(l, plans)
		e := api.OK
		if len(plans) == 0 {
			e = api.ErrShort
		}
		if plan, profit, got := move.Best(l); got != e || !slices.Equal(plan, want) || profit != most {
			t.Fatalf("Best of %v: %v, %d, %v, not %v, %d, %v", l, plan, profit, got, want, most, e)
		}
		if n, got := move.Late(l); got != e || n != lateOf(l) {
			t.Fatalf("Late of %v: %d, %v, not %d, %v", l, n, got, lateOf(l), e)
		}
		s.Count("no plan is affordable", e != api.OK)
		s.Count("a first move can be later than that of the best plan", e == api.OK && lateOf(l) > firstMoveOf(l, want))
		s.Count("the best plan moves, but not at once", e == api.OK && moves(l, want) > 0 && firstMoveOf(l, want) > 0)
		for number := range l.Sites {
			others := avoiding(plans, number)
			_, least := bestOf(l, others)
			worth, e := most-least, api.OK
			if len(others) == 0 {
				worth, e = 0, api.ErrShort
			}
			if n, got := move.Worth(l, number); got != e || n != worth {
				t.Fatalf("Worth of %v, %d: %d, %v, not %d, %v", l, number, n, got, worth, e)
			}
			s.Count("a site is worth nothing", e == api.OK && worth == 0)
			s.Count("a site is worth something", worth > 0)
			s.Count("a site cannot be spared", e != api.OK && len(plans) > 0)
		}
	}
	s.Need(t, 50, "a first move can be later than that of the best plan")
	s.Need(t, 100, "no plan is affordable", "the best plan moves, but not at once", "a site is worth nothing",
		"a site is worth something", "a site cannot be spared")
}

// P11.4: one who sees, after any years, by the oracle.
func TestGoByOracle(t *testing.T) {
	s := oracle.Seen{}
	for r, l := range randomLands(4000) {
		for many := range l.Last + 1 {
			plan, weather := randomPlan(r, l), randomWeather(r, l)
			sites, bad := plan[:many], slices.DeleteFunc(weather, func(year int) bool { return year >= many })
			site, most, e := goOf(l, sites, bad)
			next, profit, got := move.Go(l, sites, bad)
			if got != e || next != site || profit != most {
				t.Fatalf("Go of %v, %v, %v: %d, %d, %v, not %d, %d, %v", l, sites, bad, next, profit, got, site, most, e)
			}
			s.Count("some year was not paid", e == api.ErrFail)
			s.Count("he cannot be sure of any profit after some years", many > 0 && e == api.ErrShort)
			s.Count("he can be sure after bad years", e == api.OK && len(bad) > 0)
		}
	}
	s.Need(t, 100, "some year was not paid", "he cannot be sure of any profit after some years", "he can be sure after bad years")
}

// P11.4: one who sees, from the beginning, by the oracle.
func TestSeenByOracle(t *testing.T) {
	s := oracle.Seen{}
	for _, l := range slices.Concat(manyLands(500), scarceLands(15000), bigLands()) {
		_, most, e := goOf(l, nil, nil)
		if n, got := move.Seen(l); got != e || n != most {
			t.Fatalf("Seen of %v: %d, %v, not %d, %v", l, n, got, most, e)
		}
		plans := affordableOf(l)
		_, sure := bestOf(l, plans)
		s.Count("he can be sure of more than a plan", len(plans) > 0 && most > sure)
		s.Count("he can be sure, but no plan is affordable", len(plans) == 0 && e == api.OK)
		s.Count("he cannot be sure", e != api.OK)
	}
	s.Need(t, 100, "he can be sure of more than a plan", "he cannot be sure")
	s.Need(t, 3, "he can be sure, but no plan is affordable")
}
