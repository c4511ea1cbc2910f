package trade

import (
	"slices"

	"isatis/api"
	"isatis/lists"
)

// money has the one by trial of each cask: always 0 for those that the cellar does
// not have.
type money [api.MaxCaskCasks]int

// showing is a cask with the strength that its trial shows.
type showing struct{ cask, strength int }

func (t Trade) weight(cask int) int { return lists.Sum(t.Cellar.Casks[cask]) }

func (t Trade) byTrial(s showing) int {
	for _, g := range t.Grades {
		if g.Strength <= s.strength {
			return t.weight(s.cask) * g.Price
		}
	}
	return 0
}

// brings is the money of all casks, if these are their strengths. It keeps in
// known what it has found.
func (t Trade) brings(strengths []int, known map[showing]int) (m money) {
	for cask, strength := range strengths {
		s := showing{cask: cask, strength: strength}
		if _, ok := known[s]; !ok {
			known[s] = t.byTrial(s)
		}
		m[cask] = known[s]
	}
	return m
}

// worth is that of the sale.
func (t Trade) worth(m money, sale []int) int {
	all := 0
	for cask := range t.casks() {
		if slices.Contains(sale, cask) {
			all += m[cask]
		} else {
			all += t.Flat * t.weight(cask)
		}
	}
	return all
}

// agree reports whether these notes are all right.
func (m money) agree(notes []Note) bool {
	return lists.All(notes, func(n Note) bool { return n.Money.holds(m[n.Cask]) })
}
