package move

import (
	"slices"

	"isatis/api"
)

// soil has how many crops are taken from a site, and how many years it is idle.
type soil struct{ taken, idle int }

// ground has the soil of all sites. Sites that the land does not have stay as they
// are, so that grounds of one land are equal if they are so for all of its sites.
type ground [api.MaxMoveSites]soil

// after is the ground after a year with the mill at this site.
func (l Land) after(g ground, site int) ground {
	for other := range l.Sites {
		s := &g[other]
		if other == site {
			s.taken, s.idle = s.taken+1, 0
			continue
		}
		s.idle++
		if s.idle >= l.Rest {
			s.taken = 0
		}
	}
	return g
}

// crop is what the site gives in a year that is not bad, if so many crops are taken.
func (s Site) crop(taken int) int {
	switch taken {
	case 0:
		return s.Fresh
	case 1:
		return s.Second
	}
	return 0
}

// moment is when a year begins, with the mill still at the site of the year before.
type moment struct {
	year, money, site int
	bad               int // how many years were bad
}

// stand is how all things are when a year begins.
type stand struct {
	moment
	ground
}

func (l Land) start() stand { return stand{moment: moment{money: l.Purse, site: l.Home}} }

// paid reports whether the money was enough for the cost.
func (y Year) paid() bool { return y.Money-y.Crop >= 0 }

// pass is what comes of a year at the site, and how things are after it.
func (w *work) pass(s stand, site int, bad bool) (Year, stand) {
	y := Year{Crop: w.gives(w.Sites[site], s.ground[site].taken), Cost: w.Roads[s.site][site] + w.Sites[site].Rent}
	if bad {
		y.Crop /= 2
		s.bad++
	}
	y.Money = s.money - y.Cost + y.Crop
	s.year, s.money, s.site = s.year+1, y.Money, site
	s.ground = w.after(s.ground, site)
	return y, s
}

// play goes through years at these sites, of which those in the other list are bad.
func (w *work) play(sites, bad []int) ([]Year, stand) {
	s := w.start()
	var years []Year
	for year := range len(sites) {
		y, next := w.pass(s, sites[year], slices.Contains(bad, year))
		years = append(years, y)
		s = next
	}
	return years, s
}
