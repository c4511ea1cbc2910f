package wage

import (
	"isatis/api"
	"isatis/lists"
	"isatis/weed"
)

func (r Range) holds(n int) bool { return r.Lo <= n && n <= r.Hi }

// spans reports whether the other one is a range, and all of it is in this one.
func (r Range) spans(other Range) bool {
	return r.Lo <= other.Lo && other.Lo <= other.Hi && other.Hi <= r.Hi
}

func upTo(limit int) Range { return Range{Hi: limit} }

// both has what is in both ranges: nothing, if its Lo is above its Hi.
func (r Range) both(other Range) Range {
	return Range{Lo: max(r.Lo, other.Lo), Hi: min(r.Hi, other.Hi)}
}

func (r Range) isEmpty() bool { return r.Lo > r.Hi }

func isMoney(pence int) bool { return upTo(api.MaxWageMoney).holds(pence) }

func (l Ledger) hasRow(row int) bool { return 0 <= row && row < l.Field.Rows }

func (l Ledger) hasWeeder(weeder int) bool { return 0 <= weeder && weeder < l.Field.Weeders }

func (l Ledger) validNote(n Note) bool {
	return l.hasWeeder(n.Weeder) && upTo(api.MaxWageMoney).spans(n.Pence)
}

// valid is for ledgers whose field is valid. It leaves the limit to check, as it
// is another error.
func (l Ledger) valid() bool {
	rates := Range{Lo: 1, Hi: api.MaxWageRate}
	return rates.holds(l.Rate) && upTo(api.MaxWageMoney).spans(l.Box) && lists.All(l.Notes, l.validNote)
}

// check has all errors of a ledger but the last one, for which its truths have to
// be known.
func check(l Ledger) api.Errno {
	if len(l.Notes) > api.MaxWageNotes {
		return api.ErrLimit
	}
	if _, e := weed.Done(l.Field); e != api.OK {
		return e
	}
	if !l.valid() {
		return api.ErrArg
	}
	return api.OK
}
