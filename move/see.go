package move

import "isatis/lists"

// choice is what the miller who sees chooses for a year. It is sure if he can be
// sure of a profit then, which is the greatest one.
type choice struct {
	site, profit int
	sure         bool
}

// choose remembers what it has chosen, as many ways lead to the same stand.
func (w *work) choose(s stand) choice {
	if !w.hasYear(s.year) {
		return choice{profit: s.money - w.Purse, sure: true}
	}
	if c, known := w.known[s.ground][s.moment]; known {
		return c
	}
	var found choice
	for site := range w.Sites {
		if c := w.at(s, site); c.sure && (!found.sure || c.profit > found.profit) {
			found = c
		}
	}
	if w.known[s.ground] == nil {
		w.known[s.ground] = map[moment]choice{}
	}
	w.known[s.ground][s.moment] = found
	return found
}

// at is the choice of this site, whatever the year is like.
func (w *work) at(s stand, site int) choice {
	y, good := w.pass(s, site, false)
	if !y.paid() {
		return choice{}
	}
	c := w.choose(good)
	if c.sure && s.bad < w.Bad {
		_, bad := w.pass(s, site, true)
		other := w.choose(bad)
		c.profit, c.sure = lists.Least(c.profit, other.profit), other.sure
	}
	c.site = site
	return c
}
