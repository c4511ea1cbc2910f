package vat_test

import (
	"math/rand/v2"
	"slices"

	"isatis/oracle"
	"isatis/vat"
)

// The oracle follows the chapter word by word, so that it shares no way of
// computing with the package. It is for valid vats.

// anyTruths are those of the vat without its looks.
func anyTruths(v vat.Vat) (truths []vat.Truth) {
	drifts := oracle.OneOfEach(v.Drift...)
	for start := v.Start.Lo; start <= v.Start.Hi; start++ {
		for blue := v.Blue.Lo; blue <= v.Blue.Hi; blue++ {
			for _, l := range drifts {
				truths = append(truths, vat.Truth{Start: start, Blue: blue, Drift: slices.Clone(l)})
			}
		}
	}
	return truths
}

// falls takes from the blue one by one, as long as there is any.
func falls(blue, take int) int {
	for range take {
		if blue > 0 {
			blue--
		}
	}
	return blue
}

func playOf(v vat.Vat, y vat.Truth) (states []vat.State) {
	s := vat.State{Balance: y.Start, Blue: y.Blue}
	for day := 0; day <= v.Last; day++ {
		s.Balance += v.Feeds[day].Lime
		s.Balance -= v.Feeds[day].Bran
		s.Blue += v.Feeds[day].Madder * v.Gain
		s.Balance += y.Drift[day]
		for range v.Dips[day] {
			s.Blue = falls(s.Blue, v.Take)
		}
		states = append(states, s)
	}
	return states
}

func isInOrder(v vat.Vat, balance int) bool {
	sharp, slack := balance > v.Band, balance < -v.Band
	return !sharp && !slack
}

// parts is how many whole parts of the size are in the blue.
func parts(blue, size int) int {
	n := 0
	for ; blue >= size; blue -= size {
		n++
	}
	return n
}

func shadesOf(v vat.Vat, y vat.Truth, day, dips int) (shades []int) {
	s := playOf(v, y)[day]
	for range dips {
		if isInOrder(v, s.Balance) {
			shades = append(shades, parts(s.Blue, 10))
		} else {
			shades = append(shades, parts(s.Blue, 20))
		}
		s.Blue = falls(s.Blue, v.Take)
	}
	return shades
}

func right(v vat.Vat, l vat.Look, y vat.Truth) bool {
	s := playOf(v, y)[l.Day]
	if l.Balance {
		return l.Number.Lo <= s.Balance && s.Balance <= l.Number.Hi
	}
	return l.Number.Lo <= s.Blue && s.Blue <= l.Number.Hi
}

func allRight(v vat.Vat, y vat.Truth) bool {
	return !slices.ContainsFunc(v.Looks, func(l vat.Look) bool { return !right(v, l, y) })
}

func truthsOf(v vat.Vat) (truths []vat.Truth) {
	for _, y := range anyTruths(v) {
		if allRight(v, y) {
			truths = append(truths, y)
		}
	}
	return truths
}

func isRight(v vat.Vat) bool { return len(truthsOf(v)) > 0 }

// rangeOf is for at least one number.
func rangeOf(numbers []int) vat.Range {
	sorted := slices.Sorted(slices.Values(numbers))
	return to(sorted[0], sorted[len(sorted)-1])
}

func boundsOf(v vat.Vat) (bounds []vat.Bound) {
	truths := truthsOf(v)
	for day := 0; day <= v.Last; day++ {
		var balances, blues []int
		for _, y := range truths {
			s := playOf(v, y)[day]
			balances, blues = append(balances, s.Balance), append(blues, s.Blue)
		}
		bounds = append(bounds, vat.Bound{Balance: rangeOf(balances), Blue: rangeOf(blues)})
	}
	return bounds
}

func orderOf(v vat.Vat, day int) int {
	of, all := 0, truthsOf(v)
	for _, y := range all {
		if isInOrder(v, playOf(v, y)[day].Balance) {
			of++
		}
	}
	switch of {
	case len(all):
		return vat.Always
	case 0:
		return vat.Never
	}
	return vat.Perhaps
}

func shadeOf(v vat.Vat, day, dips int) vat.Range {
	var sums []int
	for _, y := range truthsOf(v) {
		sums = append(sums, oracle.Sum(shadesOf(v, y, day, dips)))
	}
	return rangeOf(sums)
}

// fedWith is the vat with the feeding instead of its own lime and bran.
func fedWith(v vat.Vat, feeding []int) vat.Vat {
	v.Feeds = slices.Clone(v.Feeds)
	for day, n := range feeding {
		v.Feeds[day].Lime, v.Feeds[day].Bran = max(n, 0), max(-n, 0)
	}
	return v
}

// keepsOf plays each truth of the vat, of which there is some, with the feeding.
func keepsOf(v vat.Vat, feeding []int) bool {
	if len(feeding) > v.Last+1 || slices.ContainsFunc(feeding, func(n int) bool { return n < -9 || n > 9 }) {
		return false
	}
	fed := fedWith(v, feeding)
	for _, y := range truthsOf(v) {
		for _, s := range playOf(fed, y)[:len(feeding)] {
			if !isInOrder(v, s.Balance) {
				return false
			}
		}
	}
	return true
}

// bareOf is the bare balance of the day.
func bareOf(y vat.Truth, day int) int { return y.Start + oracle.Sum(y.Drift[:day+1]) }

// mostOf is the number of the most days: it keeps every sum that can have been
// fed by a day.
func mostOf(v vat.Vat) int {
	truths := truthsOf(v)
	sums := []int{0}
	for day := 0; day <= v.Last; day++ {
		var next []int
		for _, s := range sums {
			for n := -9; n <= 9; n++ {
				bad := func(y vat.Truth) bool { return !isInOrder(v, bareOf(y, day)+s+n) }
				if !slices.Contains(next, s+n) && !slices.ContainsFunc(truths, bad) {
					next = append(next, s+n)
				}
			}
		}
		if len(next) == 0 {
			return day
		}
		sums = next
	}
	return v.Last + 1
}

// isTruthOf reports whether the truth is one of the vat.
func isTruthOf(v vat.Vat, y vat.Truth) bool {
	return slices.ContainsFunc(truthsOf(v), func(z vat.Truth) bool {
		return z.Start == y.Start && z.Blue == y.Blue && slices.Equal(z.Drift, y.Drift)
	})
}

func showsOf(v vat.Vat, p vat.Proof) bool {
	if p.Over < -1 || p.Over > v.Last || p.Under < -1 || p.Under > v.Last || p.Over == -1 && p.Under == -1 {
		return false
	}
	if !isTruthOf(v, p.Most) || !isTruthOf(v, p.Least) {
		return false
	}
	first, second, days := 0, 0, 0
	if p.Over != -1 {
		first = bareOf(p.Most, p.Over) - v.Band
	}
	if p.Under != -1 {
		second = -v.Band - bareOf(p.Least, p.Under)
	}
	for range max(p.Over-p.Under, p.Under-p.Over) {
		days++
	}
	return first+second > 9*days
}

// feedings are all lists of so many numbers of a feeding.
func feedings(many int) [][]int {
	return oracle.OneOfEach(slices.Repeat([]vat.Range{{Lo: -9, Hi: 9}}, many)...)
}

// without is the vat with the looks alone that are not in the list.
func without(v vat.Vat, list []int) vat.Vat {
	v.Looks = oracle.Without(v.Looks, list)
	return v
}

// with is the vat with one more look.
func with(v vat.Vat, l vat.Look) vat.Vat {
	v.Looks = append(slices.Clone(v.Looks), l)
	return v
}

// randomLook shows what is so in the truth, within some slack; sometimes it has
// nothing to do with it.
func randomLook(r *rand.Rand, v vat.Vat, y vat.Truth) vat.Look {
	l := vat.Look{Day: r.IntN(v.Last + 1), Balance: r.IntN(3) > 0}
	n := playOf(v, y)[l.Day].Blue
	if l.Balance {
		n = playOf(v, y)[l.Day].Balance
	}
	if r.IntN(4) == 0 {
		n += r.IntN(9) - 4
	}
	l.Number = to(n-r.IntN(2), n+r.IntN(3))
	return l
}

// randomRange is one within -most and most, of at most so many numbers.
func randomRange(r *rand.Rand, most, many int) vat.Range {
	size := 1 + r.IntN(min(many, 2*most+1))
	low := r.IntN(2*most+2-size) - most
	return to(low, low+size-1)
}

func randomFeed(r *rand.Rand) vat.Feed {
	if r.IntN(3) == 0 {
		return vat.Feed{}
	}
	return vat.Feed{Lime: r.IntN(10) * r.IntN(2), Bran: r.IntN(10) * r.IntN(2), Madder: r.IntN(10) * r.IntN(2)}
}

// randomVat is a valid vat without looks that has at most so many truths.
func randomVat(r *rand.Rand, last, truths int) vat.Vat {
	v := vat.Vat{
		Last: last, Band: []int{r.IntN(4), r.IntN(10), r.IntN(21)}[r.IntN(3)], Gain: r.IntN(51), Take: []int{0, r.IntN(10), r.IntN(51)}[r.IntN(3)],
		Drift: make([]vat.Range, last+1),
	}
	v.Start = randomRange(r, []int{3, 10, 20, 50}[r.IntN(4)], min(truths, 12))
	truths /= v.Start.Hi - v.Start.Lo + 1
	low, more := r.IntN(990), r.IntN(min(truths, 4))
	v.Blue = to(low, low+more)
	truths /= more + 1
	for _, day := range r.Perm(last + 1) {
		v.Drift[day] = randomRange(r, []int{1, 3, 9}[r.IntN(3)], min(truths, 4))
		truths /= v.Drift[day].Hi - v.Drift[day].Lo + 1
	}
	for range last + 1 {
		v.Feeds = append(v.Feeds, randomFeed(r))
		v.Dips = append(v.Dips, []int{0, r.IntN(4), r.IntN(21)}[r.IntN(3)])
	}
	return v
}

// randomVats yields small vats with at most so many looks, and with a number
// source for what else a test needs.
func randomVats(many, looks int) func(yield func(*rand.Rand, vat.Vat) bool) {
	return func(yield func(*rand.Rand, vat.Vat) bool) {
		r := rand.New(rand.NewPCG(6, uint64(many)))
		for range many {
			v := randomVat(r, r.IntN(8), 1+r.IntN(60))
			truths := anyTruths(v)
			y := truths[r.IntN(len(truths))]
			for range r.IntN(looks + 1) {
				v.Looks = append(v.Looks, randomLook(r, v, y))
			}
			if !yield(r, v) {
				return
			}
		}
	}
}

// bigVats have many truths and one look.
func bigVats() (list []vat.Vat) {
	r := rand.New(rand.NewPCG(6, 6))
	for len(list) < 6 {
		v := randomVat(r, 7, 2000)
		if v = with(v, randomLook(r, v, anyTruths(v)[0])); isRight(v) && len(anyTruths(v)) > 300 {
			list = append(list, v)
		}
	}
	return list
}
