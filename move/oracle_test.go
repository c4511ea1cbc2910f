package move_test

import (
	"math/rand/v2"
	"slices"

	"isatis/api"
	"isatis/move"
	"isatis/oracle"
)

// The oracle follows the chapter word by word: it plays each plan in each weather,
// and looks back for the crops that are taken, so that it shares no way of
// computing with the package. It is for valid lands.

// takenOf looks back from the year to where the site had rested.
func takenOf(l move.Land, plan []int, year, site int) int {
	taken, idle := 0, 0
	for back := year - 1; back >= 0; back-- {
		if plan[back] == site {
			taken, idle = taken+1, 0
			continue
		}
		if idle++; idle == l.Rest {
			break
		}
	}
	return taken
}

// cropOf is that of the year if it is not bad.
func cropOf(l move.Land, plan []int, year int) int {
	s := l.Sites[plan[year]]
	return []int{s.Fresh, s.Second, 0, 0, 0}[takenOf(l, plan, year, plan[year])]
}

func lossOf(l move.Land, plan []int, year int) int {
	crop := cropOf(l, plan, year)
	return crop - oracle.Down(crop, 2)
}

func costOf(l move.Land, plan []int, year int) int {
	from := l.Home
	if year > 0 {
		from = plan[year-1]
	}
	return l.Roads[from][plan[year]] + l.Sites[plan[year]].Rent
}

// yearsOf are those of as many years as the plan has.
func yearsOf(l move.Land, plan, bad []int) (years []move.Year) {
	money := l.Purse
	for year := range plan {
		y := move.Year{Crop: cropOf(l, plan, year), Cost: costOf(l, plan, year)}
		if slices.Contains(bad, year) {
			y.Crop -= lossOf(l, plan, year)
		}
		money += y.Crop - y.Cost
		y.Money = money
		years = append(years, y)
	}
	return years
}

// isPaid reports whether the money is never below 0 after a cost.
func isPaid(l move.Land, years []move.Year) bool {
	money := l.Purse
	for _, y := range years {
		if money-y.Cost < 0 {
			return false
		}
		money = y.Money
	}
	return true
}

func profitOf(l move.Land, plan, bad []int) int {
	return yearsOf(l, plan, bad)[l.Last].Money - l.Purse
}

// weathersOf are all of them: shorter ones are before longer ones.
func weathersOf(l move.Land) (list [][]int) {
	for _, bad := range oracle.ShortestFirst(l.Last + 1) {
		if len(bad) <= l.Bad {
			list = append(list, bad)
		}
	}
	return list
}

// plansOf are all of them, in lexicographic order.
func plansOf(l move.Land) [][]int {
	type ends struct{ Lo, Hi int }
	return oracle.OneOfEach(slices.Repeat([]ends{{0, len(l.Sites) - 1}}, l.Last+1)...)
}

func isAffordable(l move.Land, plan []int) bool {
	return !slices.ContainsFunc(weathersOf(l), func(bad []int) bool { return !isPaid(l, yearsOf(l, plan, bad)) })
}

func sureOf(l move.Land, plan []int) (profit int, worst []int) {
	for i, bad := range weathersOf(l) {
		if n := profitOf(l, plan, bad); i == 0 || n < profit {
			profit, worst = n, bad
		}
	}
	return profit, worst
}

// affordableOf are all affordable plans, in lexicographic order.
func affordableOf(l move.Land) (plans [][]int) {
	for _, plan := range plansOf(l) {
		if isAffordable(l, plan) {
			plans = append(plans, plan)
		}
	}
	return plans
}

// bestOf is the first one of these plans with the greatest sure profit, if there is
// any.
func bestOf(l move.Land, plans [][]int) (best []int, profit int) {
	for i, plan := range plans {
		if n, _ := sureOf(l, plan); i == 0 || n > profit {
			best, profit = plan, n
		}
	}
	return best, profit
}

func firstMoveOf(l move.Land, plan []int) int {
	from := l.Home
	for year, site := range plan {
		if site != from {
			return year
		}
		from = site
	}
	return l.Last + 1
}

// lateOf is for lands with an affordable plan.
func lateOf(l move.Land) (late int) {
	plans := affordableOf(l)
	_, most := bestOf(l, plans)
	for _, plan := range plans {
		if n, _ := sureOf(l, plan); n == most {
			late = max(late, firstMoveOf(l, plan))
		}
	}
	return late
}

// avoiding has those of the plans that never have the mill at the site.
func avoiding(plans [][]int, site int) (list [][]int) {
	for _, plan := range plans {
		if !slices.Contains(plan, site) {
			list = append(list, plan)
		}
	}
	return list
}

// began are the weathers that years began, so many, of which these were bad.
func began(l move.Land, years int, bad []int) (list [][]int) {
	for _, w := range weathersOf(l) {
		before := slices.DeleteFunc(slices.Clone(w), func(year int) bool { return year >= years })
		if slices.Equal(before, bad) {
			list = append(list, w)
		}
	}
	return list
}

// prospect is the greatest profit of which one can be sure after years with these
// sites, if one of the weathers comes, which all began with the same years; and the
// site for the next year. It is for years that were paid.
func prospect(l move.Land, sites []int, weathers [][]int) (site, profit int, sure bool) {
	year := len(sites)
	if year > l.Last {
		years := yearsOf(l, sites, weathers[0])
		return 0, years[l.Last].Money - l.Purse, isPaid(l, years)
	}
	for next := range l.Sites {
		if n, able := prospectAt(l, append(slices.Clone(sites), next), year, weathers); able && (!sure || n > profit) {
			site, profit, sure = next, n, true
		}
	}
	return site, profit, sure
}

// prospectAt is the least one after each kind of the year.
func prospectAt(l move.Land, sites []int, year int, weathers [][]int) (least int, able bool) {
	able = true
	first := true
	for _, bad := range []bool{false, true} {
		var list [][]int
		for _, w := range weathers {
			if slices.Contains(w, year) == bad {
				list = append(list, w)
			}
		}
		if len(list) == 0 {
			continue
		}
		_, n, sure := prospect(l, sites, list)
		if first || n < least {
			least = n
		}
		first, able = false, able && sure
	}
	return least, able
}

// goOf is what Go returns for a beginning of the years.
func goOf(l move.Land, sites, bad []int) (site, profit int, e api.Errno) {
	if !isPaid(l, yearsOf(l, sites, bad)) {
		return 0, 0, api.ErrFail
	}
	site, profit, sure := prospect(l, sites, began(l, len(sites), bad))
	if !sure {
		return 0, 0, api.ErrShort
	}
	return site, profit, api.OK
}

func upTo(r *rand.Rand, most int) int { return r.IntN(most + 1) }

// randomSite has a crop and a rent of about these numbers.
func randomSite(r *rand.Rand, crop, rent int) move.Site {
	fresh := upTo(r, crop)
	return move.Site{Fresh: fresh, Second: upTo(r, fresh), Rent: rent/4 + upTo(r, rent-rent/4)}
}

// randomLand has so many years and sites. Often the money is scarce, so that rents
// decide what can be chosen.
func randomLand(r *rand.Rand, years, sites int) move.Land {
	crop, rent := []int{4, 20, 40, 99}[r.IntN(4)], []int{0, 4, 15, 30}[r.IntN(4)]
	purse, far := []int{10, 30, 100, 999}[r.IntN(4)], []int{0, 3, 15, 60}[r.IntN(4)]
	if r.IntN(2) == 0 {
		crop, rent, purse, far = 6+4*r.IntN(3), 8+2*r.IntN(3), 16, 4*r.IntN(2)
	}
	l := move.Land{
		Last: years - 1, Home: r.IntN(sites), Purse: upTo(r, purse), Bad: upTo(r, min(years, upTo(r, 5))), Rest: 1 + r.IntN(1+r.IntN(5)),
	}
	for site := range sites {
		l.Sites = append(l.Sites, randomSite(r, crop, rent))
		roads := make([]int, sites)
		for other := range roads {
			if other != site {
				roads[other] = upTo(r, far)
			}
		}
		l.Roads = append(l.Roads, roads)
	}
	return l
}

// randomLands yields valid lands, and a number source for what else a test needs.
func randomLands(many int) func(yield func(*rand.Rand, move.Land) bool) {
	return func(yield func(*rand.Rand, move.Land) bool) {
		r := rand.New(rand.NewPCG(11, uint64(many)))
		for range many {
			years, sites := 1+upTo(r, min(4, 1+upTo(r, 4))), 1+upTo(r, 3)
			if !yield(r, randomLand(r, years, sites)) {
				return
			}
		}
	}
}

// scarceLands have few years and little money, so that what one sees matters.
func scarceLands(many int) (list []move.Land) {
	r := rand.New(rand.NewPCG(11, uint64(many)))
	for range many {
		years, sites := 3+r.IntN(2), 2+r.IntN(2)
		l := move.Land{Last: years - 1, Purse: upTo(r, 14), Bad: 1 + r.IntN(2), Rest: 1 + r.IntN(2), Roads: roads(sites, r.IntN(2)*r.IntN(4))}
		for range sites {
			l.Sites = append(l.Sites, randomSite(r, 10, 10))
		}
		list = append(list, l)
	}
	return list
}

// manyLands are for tests that need nothing else by chance.
func manyLands(many int) (list []move.Land) {
	for _, l := range randomLands(many) {
		list = append(list, l)
	}
	return list
}

// bigLands have as many years and sites as can be, and an affordable plan.
func bigLands() (list []move.Land) {
	r := rand.New(rand.NewPCG(11, 11))
	for len(list) < 6 {
		if l := randomLand(r, 5, 4); l.Bad > 1 && len(affordableOf(l)) > 0 {
			list = append(list, l)
		}
	}
	return list
}

func randomPlan(r *rand.Rand, l move.Land) []int {
	plans := plansOf(l)
	return plans[r.IntN(len(plans))]
}

func randomWeather(r *rand.Rand, l move.Land) []int {
	weathers := weathersOf(l)
	return weathers[r.IntN(len(weathers))]
}
