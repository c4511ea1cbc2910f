package rack

import (
	"iter"
	"slices"

	"isatis/lists"
)

// comings yields the days on which all lots can come.
func (y Yard) comings() iter.Seq[[]int] {
	var days [][]int
	for _, l := range y.Lots {
		days = append(days, lists.FromTo(l.Comes.Lo, l.Comes.Hi))
	}
	return lists.Choices(days)
}

// weathers yields those that are allowed; the first one is dry.
func (y Yard) weathers() iter.Seq[[]bool] {
	return func(yield func([]bool) bool) {
		days := slices.Repeat([][]bool{{false, true}}, y.Last+1)
		for wet := range lists.Choices(days) {
			if y.allowsWeather(wet) && !yield(wet) {
				return
			}
		}
	}
}

// truths yields the allowed ones. Each is in memory of its own.
func (y Yard) truths() iter.Seq[Truth] {
	return func(yield func(Truth) bool) {
		for wet := range y.weathers() {
			for comes := range y.comings() {
				if !yield(Truth{Comes: slices.Clone(comes), Wet: slices.Clone(wet)}) {
					return
				}
			}
		}
	}
}

// orders yields all orders: each lot is laid between those before it, on each
// rack and at each place. An order may share lists with others.
func (y Yard) orders() iter.Seq[[][]int] {
	return func(yield func([][]int) bool) {
		order := make([][]int, y.Racks)
		var lay func(lot int) bool
		lay = func(lot int) bool {
			if lot == len(y.Lots) {
				return yield(slices.Clone(order))
			}
			for rack := range y.Racks {
				list := order[rack]
				for at := range len(list) + 1 {
					order[rack] = slices.Insert(slices.Clone(list), at, lot)
					if !lay(lot + 1) {
						return false
					}
				}
				order[rack] = list
			}
			return true
		}
		lay(0)
	}
}
