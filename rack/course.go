package rack

import "isatis/api"

// none is the day of what does not happen up to Last.
const none = -1

func (s Stay) saved(due int) bool { return s.Dry && s.Off <= due }

func (s Stay) lost(due int) bool { return !s.saved(due) }

// turn is a lot with the day from which its rack is empty.
type turn struct{ lot, empty int }

// course is what happens in a truth. It remembers the stays, as the same turns
// come up in many orders.
type course struct {
	Yard
	truth Truth
	stays map[turn]Stay
}

func start(y Yard, t Truth) course { return course{Yard: y, truth: t, stays: map[turn]Stay{}} }

func (c course) stay(x turn) Stay {
	s, known := c.stays[x]
	if !known {
		s = c.lie(c.Lots[x.lot], max(x.empty, c.truth.Comes[x.lot]))
		c.stays[x] = s
	}
	return s
}

// lie is for a lot that can be put on its rack on this day, which need not be
// one of the yard.
func (c course) lie(l Lot, on int) Stay {
	if !c.hasDay(on) {
		return Stay{On: none, Off: none}
	}
	dry, wet := 0, 0
	for days := range c.Last + 1 - on {
		day := on + days
		if c.truth.Wet[day] {
			wet++
		} else {
			dry, wet = dry+1, 0
		}
		if dry == l.Dry || wet == l.Rot {
			return Stay{On: on, Off: day, Dry: dry == l.Dry}
		}
	}
	return Stay{On: on, Off: none}
}

func (c course) play(order [][]int) []Stay {
	stays := make([]Stay, len(c.Lots))
	for _, list := range order {
		empty := 0
		for _, lot := range list {
			s := c.stay(turn{lot: lot, empty: empty})
			stays[lot] = s
			empty = s.Off + 1
			if s.Off == none {
				empty = c.Last + 1
			}
		}
	}
	return stays
}

// losses has for each lot whether it is lost. Lots that the yard does not have
// are never lost, so that losses of one yard are equal if they are so for all
// of its lots.
type losses [api.MaxRackLots]bool

func (y Yard) losses(stays []Stay) (l losses) {
	for lot, s := range stays {
		l[lot] = s.lost(y.Lots[lot].Due)
	}
	return l
}

func (l losses) count() int {
	many := 0
	for _, lost := range l {
		if lost {
			many++
		}
	}
	return many
}
