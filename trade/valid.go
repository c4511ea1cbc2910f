package trade

import (
	"isatis/api"
	"isatis/lists"
)

func (r Range) holds(n int) bool { return r.Lo <= n && n <= r.Hi }

// spans reports whether the other one is a range, and all of it is in this one.
func (r Range) spans(other Range) bool {
	return r.Lo <= other.Lo && other.Lo <= other.Hi && other.Hi <= r.Hi
}

func upTo(limit int) Range { return Range{Hi: limit} }

func isPrice(price int) bool { return upTo(api.MaxTradePrice).holds(price) }

func (g Grade) valid() bool {
	return upTo(api.MaxCaskStrength).holds(g.Strength) && isPrice(g.Price)
}

// follows reports whether the grade can stand after the other one.
func (g Grade) follows(other Grade) bool {
	return g.Strength < other.Strength && g.Price <= other.Price
}

func (t Trade) validGrades() bool {
	for i := 1; i < len(t.Grades); i++ {
		if !t.Grades[i].follows(t.Grades[i-1]) {
			return false
		}
	}
	return len(t.Grades) > 0 && lists.All(t.Grades, Grade.valid)
}

func (t Trade) hasGrade(grade int) bool { return 0 <= grade && grade < len(t.Grades) }

func (t Trade) hasOrder(order int) bool { return 0 <= order && order < len(t.Orders) }

func (t Trade) casks() int { return len(t.Cellar.Casks) }

func (t Trade) hasCask(cask int) bool { return 0 <= cask && cask < t.casks() }

func (t Trade) validOrder(o Order) bool {
	weights := Range{Lo: 1, Hi: api.MaxCaskSum}
	return t.hasGrade(o.Grade) && weights.holds(o.Least)
}

func (t Trade) validNote(n Note) bool {
	return t.hasCask(n.Cask) && upTo(api.MaxTradeMoney).spans(n.Money)
}

// valid is for trades whose cellar is valid. It leaves the limits to CheckTrade,
// as they are another error.
func (t Trade) valid() bool {
	return isPrice(t.Flat) && t.validGrades() && lists.All(t.Orders, t.validOrder) && lists.All(t.Notes, t.validNote)
}

func (t Trade) hasTooManyParts() bool {
	return len(t.Grades) > api.MaxTradeGrades || len(t.Orders) > api.MaxTradeOrders || len(t.Notes) > api.MaxTradeNotes
}

func (t Trade) isSale(list []int) bool { return lists.Rises(list) && lists.All(list, t.hasCask) }
