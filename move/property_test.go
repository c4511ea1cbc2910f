package move_test

import (
	"math"
	"math/rand/v2"
	"slices"
	"testing"

	"isatis/api"
	"isatis/move"
	"isatis/oracle"
)

func hasPlan(l move.Land) bool {
	_, _, e := move.Best(l)
	return e == api.OK
}

// sees reports whether the miller can be sure of a profit.
func sees(l move.Land) bool {
	_, e := move.Seen(l)
	return e == api.OK
}

func profit(l move.Land, years []move.Year) int { return years[l.Last].Money - l.Purse }

// P11.6, P2, P3: the best plan in each weather, and in its worst one.
func TestInEachWeather(t *testing.T) {
	s := oracle.Seen{}
	for _, l := range append(manyLands(1000), bigLands()...) {
		if !hasPlan(l) {
			continue
		}
		plan, most := best(t, l)
		n, worst := sure(t, l, plan)
		if n != most {
			t.Fatalf("%v: Sure of %v is %d, not %d", l, plan, n, most)
		}
		for _, bad := range weathersOf(l) {
			if n := profit(l, play(t, l, plan, bad)); n < most || slices.Equal(bad, worst) && n != most {
				t.Fatalf("%v: %v in %v has %d", l, plan, bad, n)
			}
		}
		s.Count("a worst weather with bad years", len(worst) > 0)
	}
	s.Need(t, 100, "a worst weather with bad years")
}

// P11.6: the sure profit is that without bad years, less the greatest losses.
func TestGreatestLosses(t *testing.T) {
	s := oracle.Seen{}
	for r, l := range randomLands(3000) {
		plan := randomPlan(r, l)
		n, worst, e := move.Sure(l, plan)
		if e != api.OK {
			continue
		}
		years := play(t, l, plan, nil)
		var losses []int
		for _, y := range years {
			losses = append(losses, y.Crop-y.Crop/2)
		}
		slices.Sort(losses)
		slices.Reverse(losses)
		if want := profit(l, years) - oracle.Sum(losses[:l.Bad]); n != want {
			t.Fatalf("Sure of %v, %v: %d, not %d", l, plan, n, want)
		}
		s.Count("some years can be bad", 0 < l.Bad && l.Bad <= l.Last)
		s.Count("each of some years loses", len(worst) > 1)
	}
	s.Need(t, 200, "some years can be bad", "each of some years loses")
}

// P11.7, P5: no plan is better than the best one.
func TestNoBetterOne(t *testing.T) {
	s := oracle.Seen{}
	for _, l := range append(manyLands(800), bigLands()...) {
		if !hasPlan(l) {
			continue
		}
		best, most := best(t, l)
		for _, plan := range plansOf(l) {
			n, _, e := move.Sure(l, plan)
			if e == api.OK && (n > most || n == most && slices.Compare(plan, best) < 0) {
				t.Fatalf("%v: %v with %d is better than %v with %d", l, plan, n, best, most)
			}
			if move.ProvePlan(l, plan, most+1) || e != api.OK && move.ProvePlan(l, plan, math.MinInt) {
				t.Fatalf("%v: too much is proved of %v", l, plan)
			}
			s.Count("another one is as good", e == api.OK && n == most && !slices.Equal(plan, best))
			s.Count("it is not affordable", e != api.OK)
		}
	}
	s.Need(t, 200, "another one is as good", "it is not affordable")
}

// P11.8: one who sees can be sure of what a plan is sure of; without bad years, of
// no more.
func TestSeesAsMuch(t *testing.T) {
	s := oracle.Seen{}
	for _, l := range append(manyLands(2000), bigLands()...) {
		if hasPlan(l) {
			_, most := best(t, l)
			if seen(t, l) < most {
				t.Fatalf("%v: Seen is %d, less than %d", l, seen(t, l), most)
			}
		}
		l.Bad = 0
		if hasPlan(l) != sees(l) {
			t.Fatalf("%v without bad years: a plan, or a profit seen, but not both", l)
		}
		if !hasPlan(l) {
			continue
		}
		plan, most := best(t, l)
		if site, n := next(t, l, nil, nil); n != most || seen(t, l) != most || site != plan[0] {
			t.Fatalf("%v without bad years: Go is %d, %d, but Best is %v, %d", l, site, n, plan, most)
		}
		s.Count("a plan without bad years", true)
	}
	s.Need(t, 1000, "a plan without bad years")
}

// P11.8, P3: one who moves by Go, in any weather.
func TestMovesByGo(t *testing.T) {
	s := oracle.Seen{}
	for _, l := range slices.Concat(manyLands(800), scarceLands(1500), bigLands()[:2], []move.Land{seeing(), scarce()}) {
		if !sees(l) {
			continue
		}
		for _, bad := range weathersOf(l) {
			sure := seen(t, l)
			var sites []int
			for year := range l.Last + 1 {
				before := slices.DeleteFunc(slices.Clone(bad), func(n int) bool { return n >= year })
				site, n := next(t, l, sites, before)
				if n < sure {
					t.Fatalf("%v: after %v, %v he can be sure of %d, less than %d", l, sites, before, n, sure)
				}
				s.Count("he can be sure of more than before", n > sure)
				sites, sure = append(sites, site), n
			}
			years := play(t, l, sites, bad) // which is an error if the money is ever below 0 after a cost
			if n := profit(l, years); n < sure || !isPaid(l, years) {
				t.Fatalf("%v: by Go, %v in %v has %d, less than %d", l, sites, bad, n, sure)
			}
			s.Count("he moves", moves(l, sites) > 0)
		}
	}
	s.Need(t, 300, "he can be sure of more than before", "he moves")
}

// noLess reports whether what is sure of a plan, and what is seen, is not less in
// the second land.
func noLess(t *testing.T, a, b move.Land) bool {
	t.Helper()
	if hasPlan(a) {
		_, x := best(t, a)
		if !hasPlan(b) {
			return false
		}
		if _, y := best(t, b); y < x {
			return false
		}
	}
	return !sees(a) || sees(b) && seen(t, b) >= seen(t, a)
}

// differ reports whether only the second land has an affordable plan, or its best
// one is sure of another profit.
func differ(t *testing.T, a, b move.Land) bool {
	t.Helper()
	if !hasPlan(a) || !hasPlan(b) {
		return hasPlan(a) != hasPlan(b)
	}
	_, x := best(t, a)
	_, y := best(t, b)
	return x != y
}

// P11.9: a greater purse.
func TestPurse(t *testing.T) {
	s := oracle.Seen{}
	for r, l := range randomLands(1500) {
		g := l
		g.Purse = min(api.MaxMoveMoney, l.Purse+1+upTo(r, 30))
		if !noLess(t, l, g) {
			t.Fatalf("%v with the purse %d: less", l, g.Purse)
		}
		for range 5 {
			plan := randomPlan(r, l)
			if a, _, e := move.Sure(l, plan); e == api.OK {
				if b, _ := sure(t, g, plan); b != a {
					t.Fatalf("%v with the purse %d: %v has %d, not %d", l, g.Purse, plan, b, a)
				}
				s.Count("an affordable plan", true)
			}
		}
		s.Count("it makes a difference", differ(t, l, g))
	}
	s.Need(t, 100, "an affordable plan", "it makes a difference")
}

// P11.10: more bad years.
func TestMoreBadYears(t *testing.T) {
	s := oracle.Seen{}
	for _, l := range append(manyLands(1500), scarceLands(500)...) {
		if l.Bad > l.Last {
			continue
		}
		g := l
		g.Bad++
		if !noLess(t, g, l) {
			t.Fatalf("%v with a bad year more: not less", l)
		}
		s.Count("it makes a difference", differ(t, l, g))
	}
	s.Need(t, 100, "it makes a difference")
}

// shorter has a shorter rest, if there is one.
func shorter(r *rand.Rand, l move.Land) move.Land {
	l.Rest = 1 + r.IntN(l.Rest)
	return l
}

// cheaper has a lower rent, and a cheaper road, where they are not nothing.
func cheaper(r *rand.Rand, l move.Land) move.Land {
	l.Sites, l.Roads = slices.Clone(l.Sites), slices.Clone(l.Roads)
	s := &l.Sites[r.IntN(len(l.Sites))]
	s.Rent = upTo(r, s.Rent)
	from, to := r.IntN(len(l.Sites)), r.IntN(len(l.Sites))
	l.Roads[from] = slices.Clone(l.Roads[from])
	l.Roads[from][to] = upTo(r, l.Roads[from][to])
	return l
}

// P11.11: a smaller rest, a lower rent, and a cheaper road.
func TestRest(t *testing.T) {
	s := oracle.Seen{}
	for r, l := range randomLands(1800) {
		short, cheap := shorter(r, l), cheaper(r, l)
		if !noLess(t, l, short) || !noLess(t, l, cheap) {
			t.Fatalf("%v: less in %v or in %v", l, short, cheap)
		}
		s.Count("the rest makes a difference", differ(t, l, short))
		s.Count("the rent or the road makes a difference", differ(t, l, cheap))
		for range 5 {
			plan, bad := randomPlan(r, l), randomWeather(r, l)
			years, e := move.Play(l, plan, bad)
			if e != api.OK {
				continue
			}
			some, other := play(t, short, plan, bad), play(t, cheap, plan, bad)
			for n, y := range years {
				if some[n].Crop < y.Crop || some[n].Cost != y.Cost || other[n].Money < y.Money || other[n].Crop != y.Crop {
					t.Fatalf("%v: less of %v, %v in %v or in %v", l, plan, bad, short, cheap)
				}
				s.Count("a crop is more", some[n].Crop > y.Crop)
				s.Count("money is more", other[n].Money > y.Money)
			}
		}
	}
	s.Need(t, 30, "the rest makes a difference")
	s.Need(t, 100, "the rent or the road makes a difference", "a crop is more", "money is more")
}

// P11.12: no site is worth less than nothing, and one that is not needed is worth
// just this.
func TestWorthOfSites(t *testing.T) {
	s := oracle.Seen{}
	for _, l := range append(manyLands(1500), bigLands()...) {
		for number := range l.Sites {
			n, e := move.Worth(l, number)
			if !hasPlan(l) {
				if e != api.ErrShort {
					t.Fatalf("%v: Worth of %d: %v", l, number, e)
				}
				continue
			}
			plan, _ := best(t, l)
			needed := slices.Contains(plan, number)
			if n < 0 || !needed && (e != api.OK || n != 0) || len(l.Sites) == 1 && e != api.ErrShort {
				t.Fatalf("%v: Worth of %d: %d, %v", l, number, n, e)
			}
			s.Count("a site that is not needed", !needed)
			s.Count("a site that is worth something", n > 0)
		}
	}
	s.Need(t, 100, "a site that is not needed", "a site that is worth something")
}

// P11.13: how late the first move can be.
func TestLateMoves(t *testing.T) {
	s := oracle.Seen{}
	for _, l := range append(manyLands(2000), bigLands()...) {
		if !hasPlan(l) {
			continue
		}
		plan, _ := best(t, l)
		n := late(t, l)
		if n < firstMoveOf(l, plan) || n > l.Last+1 || len(l.Sites) == 1 && n != l.Last+1 {
			t.Fatalf("%v: Late is %d, but the best plan is %v", l, n, plan)
		}
		s.Count("one site", len(l.Sites) == 1)
		s.Count("it has to move", n <= l.Last)
	}
	s.Need(t, 100, "one site", "it has to move")
}

// P11.14: where roads cost nothing, each home is as good.
func TestAtHome(t *testing.T) {
	s := oracle.Seen{}
	for _, l := range append(manyLands(1500), scarceLands(500)...) {
		l.Roads = roads(len(l.Sites), 0)
		plan, most, e := move.Best(l)
		n, seen := move.Seen(l)
		for home := range l.Sites {
			g := l
			g.Home = home
			other, profit, same := move.Best(g)
			if m, e := move.Seen(g); m != n || e != seen {
				t.Fatalf("%v from %d: Seen: %d, %v", l, home, m, e)
			}
			if same != e || profit != most || !slices.Equal(other, plan) {
				t.Fatalf("%v from %d: Best: %v, %d, %v", l, home, other, profit, same)
			}
			s.Count("a plan from another home", home != l.Home && e == api.OK)
		}
	}
	s.Need(t, 500, "a plan from another home")
}

// P4: what comes in and what is paid make up the money of each year.
func TestNothingIsLost(t *testing.T) {
	for r, l := range randomLands(2000) {
		plan, bad := randomPlan(r, l), randomWeather(r, l)
		years, e := move.Play(l, plan, bad)
		if e != api.OK {
			continue
		}
		money := l.Purse
		for n, y := range years {
			money += y.Crop - y.Cost
			if y.Money != money || y.Money < y.Crop || y.Crop < 0 || y.Cost < l.Sites[plan[n]].Rent {
				t.Fatalf("%v: %v, %v: %v", l, plan, bad, years)
			}
		}
	}
}

// Rules: a call with equal arguments returns equal results.
func TestAgain(t *testing.T) {
	for _, l := range append(bigLands(), example(), seeing()) {
		plan, most := best(t, l)
		n, worst := sure(t, l, plan)
		site, profit := next(t, l, plan[:1], nil)
		for range 3 {
			same, again := best(t, l)
			m, weather := sure(t, l, plan)
			other, more := next(t, l, plan[:1], nil)
			if !slices.Equal(same, plan) || again != most || m != n || !slices.Equal(weather, worst) || other != site || more != profit {
				t.Fatalf("%v: not the same again", l)
			}
		}
	}
}

// oddLand is the example with some numbers that may be anything.
func oddLand(r *rand.Rand, pick func() int) move.Land {
	l := example()
	for _, n := range []*int{&l.Last, &l.Home, &l.Purse, &l.Bad, &l.Rest} {
		if r.IntN(12) == 0 {
			*n = pick()
		}
	}
	if r.IntN(6) == 0 {
		l.Sites, l.Roads = nil, nil
		for range r.IntN(6) {
			l.Sites = append(l.Sites, site(pick(), pick(), pick()))
			l.Roads = append(l.Roads, list(pick(), pick()))
		}
	}
	if r.IntN(8) == 0 && len(l.Roads) > 0 {
		l.Roads[r.IntN(len(l.Roads))] = make([]int, r.IntN(4))
	}
	return l
}

// P1: whatever the arguments are, each call returns.
func TestNoPanic(t *testing.T) {
	odd := []int{math.MinInt, -2, -1, 0, 0, 0, 1, 1, 1, 2, 3, 4, 5, 6, 10, 50, 99, 100, 999, 1000, math.MaxInt}
	r := rand.New(rand.NewPCG(1, 11))
	pick := func() int { return odd[r.IntN(len(odd))] }
	some := func() []int {
		l := make([]int, r.IntN(6))
		for i := range l {
			l[i] = pick()
			if r.IntN(3) > 0 {
				l[i] = r.IntN(2)
			}
		}
		return l
	}
	s := oracle.Seen{}
	for range 20000 {
		l := oddLand(r, pick)
		n := names{plan: some(), bad: some(), sites: some(), before: some(), site: pick()}
		errors, zero := calls(l, n)
		if !zero {
			t.Fatalf("%v, %v: a result together with an error", l, n)
		}
		move.ProvePlan(l, n.plan, pick())
		s.Count("a land that is not valid", move.CheckLand(l) != api.OK)
		s.Count("a land that is valid", move.CheckLand(l) == api.OK)
		s.Count("a plan", errors["Sure"] == api.OK)
		s.Count("a beginning", errors["Go"] == api.OK)
	}
	s.Need(t, 500, "a land that is not valid", "a land that is valid", "a plan", "a beginning")
}

// R3, R4: arguments stay as they are, and results are new.
func TestMemory(t *testing.T) {
	l, plan, bad := example(), list(0, 0, 1), list(2)
	for range 2 {
		years := play(t, l, plan, bad)
		n, worst := sure(t, l, plan)
		chosen, most := best(t, l)
		site, profit := next(t, l, plan[:2], nil)
		if years[2] != year(15, 9, 44) || n != 34 || !slices.Equal(worst, bad) || !slices.Equal(chosen, plan) || most != 34 || site != 1 || profit != 34 {
			t.Fatalf("%v, %d, %v, %v, %d, %d, %d", years, n, worst, chosen, most, site, profit)
		}
		years[2], worst[0], chosen[0] = year(9, 9, 9), 9, 9
	}
	g := example()
	if l.Last != g.Last || l.Home != g.Home || l.Purse != g.Purse || l.Bad != g.Bad || l.Rest != g.Rest ||
		!slices.Equal(l.Sites, g.Sites) || !slices.EqualFunc(l.Roads, g.Roads, slices.Equal) {
		t.Error("the land was changed")
	}
	if !slices.Equal(plan, list(0, 0, 1)) || !slices.Equal(bad, list(2)) {
		t.Error("a list was changed")
	}
	if !slices.Equal(play(t, l, plan, []int{}), play(t, l, plan, nil)) || seen(t, l) != 34 {
		t.Error("nothing, and an empty list")
	}
	site, profit := next(t, l, []int{}, []int{})
	if again, same := next(t, l, nil, nil); site != again || profit != same {
		t.Error("no years, and an empty list")
	}
	if move.CheckLand(move.Land{Sites: []move.Site{}, Roads: [][]int{}}) != move.CheckLand(move.Land{}) {
		t.Error("no sites, and an empty list")
	}
}
