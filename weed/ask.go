package weed

import (
	"isatis/api"
	"isatis/lists"
)

// asking is a field at work in which rows are asked about for a weeder's
// number. It remembers the questions by what was answered, as the same answers
// can be had in many orders.
type asking struct {
	*work
	weeder     int
	remembered map[sheet]int
}

func (w *work) ask(weeder int) asking {
	return asking{work: w, weeder: weeder, remembered: map[sheet]int{}}
}

func (a asking) number(t sheet) int { return t.count(a.whole(a.weeder)) }

// settles compares each truth with one before it that agrees in the rows; as
// equal numbers are equal to one another, one of them is enough.
func (a asking) settles(rows []int) bool {
	numbers := map[sheet]int{}
	for _, t := range a.truths {
		seen, many := t.kept(rows), a.number(t)
		if before, ok := numbers[seen]; ok && before != many {
			return false
		}
		numbers[seen] = many
	}
	return true
}

func (a asking) known(truths []sheet) bool {
	return lists.All(truths, func(t sheet) bool { return a.number(t) == a.number(truths[0]) })
}

// questions is for the truths that agree with what was answered.
func (a asking) questions(answered sheet, truths []sheet) int {
	if a.known(truths) {
		return 0
	}
	costs := a.costs(answered, truths)
	return lists.Least(costs[0], costs[1:]...)
}

// costs returns for each row how many questions there are at most if it is
// asked about now. A row of which the truths say the same would teach nothing:
// it costs more than all rows together, so that it is never the least.
func (a asking) costs(answered sheet, truths []sheet) []int {
	costs := make([]int, a.Rows)
	for row := range a.Rows {
		costs[row] = api.MaxWeedRows + 1
		if !lists.All(truths, func(t sheet) bool { return t[row] == truths[0][row] }) {
			costs[row] = 1 + a.worst(answered, row, truths)
		}
	}
	return costs
}

// worst returns the maximum of the questions that are left when the row was
// asked about. What no truth says leaves none.
func (a asking) worst(answered sheet, row int, truths []sheet) int {
	worst := 0
	for said := left; said < a.Weeders; said++ {
		answered[row] = said
		many, ok := a.remembered[answered]
		if !ok {
			many = a.questions(answered, agreeing(truths, row, said))
			a.remembered[answered] = many
		}
		worst = max(worst, many)
	}
	return worst
}

func agreeing(truths []sheet, row, said int) []sheet {
	var list []sheet
	for _, t := range truths {
		if t[row] == said {
			list = append(list, t)
		}
	}
	return list
}
