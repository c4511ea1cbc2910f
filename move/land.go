package move

import (
	"isatis/api"
	"isatis/lists"
)

// isIn reports whether the number is from low to high.
func isIn(n, low, high int) bool { return low <= n && n <= high }

func isCost(n int) bool { return isIn(n, 0, api.MaxMoveCost) }

func (s Site) valid() bool {
	return isCost(s.Fresh) && isCost(s.Second) && isCost(s.Rent) && s.Second <= s.Fresh
}

func (l Land) hasSite(site int) bool { return isIn(site, 0, len(l.Sites)-1) }

func (l Land) hasYear(year int) bool { return isIn(year, 0, l.Last) }

func (l Land) validRoads() bool {
	if len(l.Roads) != len(l.Sites) {
		return false
	}
	for site, costs := range l.Roads {
		if len(costs) != len(l.Sites) || !lists.All(costs, isCost) || costs[site] != 0 {
			return false
		}
	}
	return true
}

// valid leaves the limits to CheckLand, as they are another error. There is a site
// if Home is one.
func (l Land) valid() bool {
	return l.Last >= 0 && l.hasSite(l.Home) && isIn(l.Purse, 0, api.MaxMoveMoney) && isIn(l.Bad, 0, l.Last+1) &&
		isIn(l.Rest, 1, api.MaxMoveRest) && lists.All(l.Sites, Site.valid) && l.validRoads()
}

func (l Land) isPlan(list []int) bool { return len(list) == l.Last+1 && lists.All(list, l.hasSite) }

func (l Land) isWeather(list []int) bool {
	return len(list) <= l.Bad && lists.Rises(list) && lists.All(list, l.hasYear)
}

// isBeginning reports whether the mill can have been at these sites, and these of
// the years bad, so that there is a next year.
func (l Land) isBeginning(sites, bad []int) bool {
	return len(sites) <= l.Last && lists.All(sites, l.hasSite) && l.isWeather(bad) &&
		lists.All(bad, func(year int) bool { return year < len(sites) })
}

// firstMove is that of the plan.
func (l Land) firstMove(plan []int) int {
	for year, site := range plan {
		if site != l.Home {
			return year
		}
	}
	return l.Last + 1
}
