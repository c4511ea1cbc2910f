package vat

import (
	"slices"

	"isatis/api"
	"isatis/lists"
)

func (r Range) holds(n int) bool { return r.Lo <= n && n <= r.Hi }

// within reports whether it is a range, and all of it is in the other one.
func (r Range) within(other Range) bool {
	return other.Lo <= r.Lo && r.Lo <= r.Hi && r.Hi <= other.Hi
}

// span is for at least one number.
func span(numbers []int) Range {
	return Range{Lo: lists.Least(numbers[0], numbers[1:]...), Hi: slices.Max(numbers)}
}

func upTo(limit int) Range { return Range{Hi: limit} }

// around has the numbers whose distance from 0 is at most the limit.
func around(limit int) Range { return Range{Lo: -limit, Hi: limit} }

func (r Range) isDrift() bool { return r.within(around(api.MaxVatDrift)) }

func (f Feed) valid() bool {
	return lists.All([]int{f.Lime, f.Bran, f.Madder}, upTo(api.MaxVatFeed).holds)
}

func isDips(dips int) bool { return upTo(api.MaxVatDips).holds(dips) }

func (v Vat) hasDay(day int) bool { return 0 <= day && day <= v.Last }

func (v Vat) validLook(l Look) bool {
	return v.hasDay(l.Day) && l.Number.within(around(api.MaxVatNumber))
}

func (v Vat) validNumbers() bool {
	return upTo(api.MaxVatBand).holds(v.Band) && lists.All([]int{v.Gain, v.Take}, upTo(api.MaxVatGain).holds) &&
		v.Start.within(around(api.MaxVatBalance)) && v.Blue.within(upTo(api.MaxVatBlue))
}

func (v Vat) validDays() bool {
	many := v.Last + 1
	return many > 0 && len(v.Drift) == many && len(v.Feeds) == many && len(v.Dips) == many &&
		lists.All(v.Drift, Range.isDrift) && lists.All(v.Feeds, Feed.valid) && lists.All(v.Dips, isDips)
}

// valid leaves the limits to CheckVat, as they are another error.
func (v Vat) valid() bool {
	return v.validNumbers() && v.validDays() && lists.All(v.Looks, v.validLook)
}

// ranges are what a truth chooses from: Start, the Drift of each day, and Blue.
// Blue is the last one, so that truths with the same balances follow one
// another.
func (v Vat) ranges() []Range { return slices.Concat([]Range{v.Start}, v.Drift, []Range{v.Blue}) }

// hasTooManyTruths is for valid vats only, whose ranges are small.
func (v Vat) hasTooManyTruths() bool {
	many := 1
	for _, r := range v.ranges() {
		many *= r.Hi - r.Lo + 1
	}
	return many > api.MaxVatTruths
}

func (v Vat) inOrder(balance int) bool { return around(v.Band).holds(balance) }

// isFeeding is for valid vats, and for those that are not.
func (v Vat) isFeeding(list []int) bool {
	return len(list) <= v.Last+1 && lists.All(list, around(api.MaxVatFeed).holds)
}
