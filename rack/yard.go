package rack

import (
	"slices"

	"isatis/api"
	"isatis/lists"
)

func (r Range) holds(n int) bool { return r.Lo <= n && n <= r.Hi }

func (y Yard) hasDay(day int) bool { return 0 <= day && day <= y.Last }

func (y Yard) hasLot(lot int) bool { return 0 <= lot && lot < len(y.Lots) }

func (y Yard) validLot(l Lot) bool {
	needed := Range{Lo: 1, Hi: api.MaxRackDry}
	return y.hasDay(l.Comes.Lo) && y.hasDay(l.Comes.Hi) && l.Comes.Lo <= l.Comes.Hi &&
		needed.holds(l.Dry) && needed.holds(l.Rot) && y.hasDay(l.Due)
}

// valid leaves the limits to CheckYard, as they are another error.
func (y Yard) valid() bool {
	if y.Last < 0 || y.Racks < 1 {
		return false
	}
	days := Range{Lo: 0, Hi: y.Last + 1}
	return days.holds(y.Wet) && days.holds(y.Run) && lists.All(y.Lots, y.validLot)
}

// isOrder sorts all lots together: if they rise then, none is there twice.
func (y Yard) isOrder(order [][]int) bool {
	all := slices.Concat(order...)
	slices.Sort(all)
	return len(order) == y.Racks && len(all) == len(y.Lots) && lists.Rises(all) && lists.All(all, y.hasLot)
}

func (y Yard) allows(t Truth) bool {
	if len(t.Comes) != len(y.Lots) || len(t.Wet) != y.Last+1 {
		return false
	}
	for lot, day := range t.Comes {
		if !y.Lots[lot].Comes.holds(day) {
			return false
		}
	}
	return y.allowsWeather(t.Wet)
}

func (y Yard) allowsWeather(wet []bool) bool {
	all, run := 0, 0
	for _, isWet := range wet {
		if !isWet {
			run = 0
			continue
		}
		all++
		run++
		if all > y.Wet || run > y.Run {
			return false
		}
	}
	return true
}

// hasTooMany is asked only of yards within the other limits: of others the
// number of truths need not fit into an int.
func (y Yard) hasTooMany() bool {
	many := 0
	for range y.weathers() {
		many++
	}
	for _, l := range y.Lots {
		many *= l.Comes.Hi - l.Comes.Lo + 1
	}
	return many > api.MaxRackTruths
}
