package weed

import "isatis/lists"

func (r Range) holds(n int) bool { return r.Lo <= n && n <= r.Hi }

func (r Range) upTo(limit int) bool { return 0 <= r.Lo && r.Lo <= r.Hi && r.Hi <= limit }

func (f Field) hasRow(row int) bool { return 0 <= row && row < f.Rows }

func (f Field) hasWeeder(weeder int) bool { return 0 <= weeder && weeder < f.Weeders }

func (f Field) canSay(said int) bool { return said == left || f.hasWeeder(said) }

func (f Field) validTally(t Tally) bool {
	return f.hasWeeder(t.Weeder) && f.hasRow(t.From) && f.hasRow(t.To) && t.From <= t.To && t.Count.upTo(f.Rows)
}

// valid leaves the limits to CheckField, as they are another error.
func (f Field) valid() bool {
	return f.Rows >= 1 && f.Weeders >= 1 && f.Left.upTo(f.Rows) && lists.All(f.Tallies, f.validTally)
}

// power is asked only of fields within the other limits: of others it need not
// fit into an int.
func (f Field) power() int {
	many := 1
	for range f.Rows {
		many *= f.Weeders + 1
	}
	return many
}
