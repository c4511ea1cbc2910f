package move

import (
	"iter"
	"slices"

	"isatis/api"
	"isatis/lists"
)

// work is a land at work.
type work struct {
	Land
	gives func(s Site, taken int) int
	known map[ground]map[moment]choice // what the miller who sees chose, on which ground and when
}

// begin puts a land to work; named says whether what else the call names is as it
// must be.
func begin(l Land, named bool) (*work, api.Errno) {
	if e := CheckLand(l); e != api.OK {
		return nil, e
	}
	if !named {
		return nil, api.ErrRange
	}
	return &work{Land: l, gives: Site.crop, known: map[ground]map[moment]choice{}}, api.OK
}

// judge tries all plans of a land, for a call that needs an affordable one.
func judge(l Land, named bool) ([]trial, api.Errno) {
	w, e := begin(l, named)
	if e != api.OK {
		return nil, e
	}
	trials := w.trials()
	if len(trials) == 0 {
		return nil, api.ErrShort
	}
	return trials, api.OK
}

// weathers yields all of them. Each is valid until the next one is yielded.
func (w *work) weathers() iter.Seq[[]int] {
	return func(yield func([]int) bool) {
		for length := range w.Bad + 1 {
			for bad := range lists.Increasing(w.Last+1, length) {
				if !yield(bad) {
					return
				}
			}
		}
	}
}

// profit is that of the plan in the weather, and whether the plan is affordable in
// it.
func (w *work) profit(plan, bad []int) (int, bool) {
	years, end := w.play(plan, bad)
	return end.money - w.Purse, lists.All(years, Year.paid)
}

// trial is an affordable plan that was tried, with its sure profit.
type trial struct {
	*work
	plan []int
	sure int
}

// try keeps the plan, and reports whether it is affordable.
func (w *work) try(plan []int) (trial, bool) {
	var profits []int
	for bad := range w.weathers() {
		profit, affordable := w.profit(plan, bad)
		if !affordable {
			return trial{}, false
		}
		profits = append(profits, profit)
	}
	return trial{work: w, plan: plan, sure: lists.Least(profits[0], profits[1:]...)}, true
}

// fails reports whether the plan has no more than its sure profit in the weather.
func (t trial) fails(bad []int) bool {
	profit, _ := t.profit(t.plan, bad)
	return profit == t.sure
}

// worst need not say how many years can be bad, as there is a weather that has the
// sure profit, and lists that are too long come after it.
func (t trial) worst() []int {
	s := lists.Search[trial]{Of: t, Size: t.Last + 1, Must: trial.fails}
	return s.Shortest()
}

// trials are all affordable plans, in lexicographic order.
func (w *work) trials() []trial {
	var list []trial
	sites := lists.FromTo(0, len(w.Sites)-1)
	for plan := range lists.Choices(slices.Repeat([][]int{sites}, w.Last+1)) {
		if t, affordable := w.try(slices.Clone(plan)); affordable {
			list = append(list, t)
		}
	}
	return list
}

// best is the first one of those with the greatest sure profit; there must be one.
func best(trials []trial) trial {
	return slices.MaxFunc(trials, func(a, b trial) int { return a.sure - b.sure })
}

// without has those of the plans in which the mill is never at the site.
func without(trials []trial, site int) []trial {
	var list []trial
	for _, t := range trials {
		if !slices.Contains(t.plan, site) {
			list = append(list, t)
		}
	}
	return list
}
