package mix

import (
	"isatis/api"
	"isatis/lists"
)

func (r Range) holds(n int) bool { return r.Lo <= n && n <= r.Hi }

// spans reports whether the other one is a range, and all of it is in this one.
func (r Range) spans(other Range) bool {
	return r.Lo <= other.Lo && other.Lo <= other.Hi && other.Hi <= r.Hi
}

func upTo(limit int) Range { return Range{Hi: limit} }

// size is for ranges.
func (r Range) size() int { return r.Hi - r.Lo + 1 }

func (c Case) hasSold() bool { return 0 <= c.Sold && c.Sold < len(c.Cellar.Casks) }

// weight is that of the sold cask, which there is.
func (c Case) weight() int { return lists.Sum(c.Cellar.Casks[c.Sold]) }

// valid is for cases whose cellar is valid. It leaves the limits to CheckCase, as
// they are another error.
func (c Case) valid() bool {
	strengths := upTo(api.MaxCaskStrength)
	return c.hasSold() && upTo(c.weight()).holds(c.Most) && strengths.spans(c.Bad) && lists.All(c.Tests, strengths.spans)
}

// hasTooManyTruths is for valid cases only, whose ranges are small.
func (c Case) hasTooManyTruths() bool {
	many := c.Bad.size() * (c.Most + 1)
	for _, r := range c.Cellar.Heaps {
		many *= Range(r).size()
	}
	return many > api.MaxMixTruths
}

func (c Case) hasMixture(share, bad int) bool {
	return upTo(c.Most).holds(share) && c.Bad.holds(bad)
}
