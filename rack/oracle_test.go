package rack_test

import (
	"math/rand/v2"
	"slices"

	"isatis/oracle"
	"isatis/rack"
)

// The oracle follows the chapter word by word, so that it shares no way of
// computing with the package. It is for valid yards.

// weathersOf are the allowed ones: each bit of a number is a day.
func weathersOf(y rack.Yard) (weathers [][]bool) {
	for bits := range 1 << (y.Last + 1) {
		wet := make([]bool, y.Last+1)
		many := 0
		for day := range wet {
			if wet[day] = bits>>day&1 == 1; wet[day] {
				many++
			}
		}
		if many <= y.Wet && longest(wet) <= y.Run {
			weathers = append(weathers, wet)
		}
	}
	return weathers
}

// longest is the number of wet days of the longest run of them.
func longest(wet []bool) int {
	most := 0
	for from := range wet {
		for to := from; to < len(wet) && wet[to]; to++ {
			most = max(most, to-from+1)
		}
	}
	return most
}

func comingsOf(y rack.Yard) [][]int {
	var days []rack.Range
	for _, l := range y.Lots {
		days = append(days, l.Comes)
	}
	return oracle.OneOfEach(days...)
}

// truthsOf are the allowed ones.
func truthsOf(y rack.Yard) (truths []rack.Truth) {
	for _, comes := range comingsOf(y) {
		for _, wet := range weathersOf(y) {
			truths = append(truths, rack.Truth{Comes: comes, Wet: wet})
		}
	}
	return truths
}

// ordersOf are all orders: all rows of lots, and of what parts one rack's list
// from the next one's.
func ordersOf(y rack.Yard) (orders [][][]int) {
	const part = -1
	rows := [][]int{slices.Repeat([]int{part}, y.Racks-1)}
	for lot := range y.Lots {
		var longer [][]int
		for _, row := range rows {
			for at := 0; at <= len(row); at++ {
				longer = append(longer, slices.Concat(row[:at], []int{lot}, row[at:]))
			}
		}
		rows = longer
	}
	for _, row := range rows {
		order := [][]int{{}}
		for _, lot := range row {
			if lot == part {
				order = append(order, []int{})
			} else {
				order[len(order)-1] = append(order[len(order)-1], lot)
			}
		}
		orders = append(orders, order)
	}
	return orders
}

func staysOf(y rack.Yard, order [][]int, t rack.Truth) []rack.Stay {
	stays := slices.Repeat([]rack.Stay{{On: -1, Off: -1}}, len(y.Lots))
	for _, waiting := range order {
		lying, dry, wet := -1, 0, 0
		for day := 0; day <= y.Last; day++ {
			if lying < 0 && len(waiting) > 0 && t.Comes[waiting[0]] <= day {
				lying, dry, wet = waiting[0], 0, 0
				waiting = waiting[1:]
				stays[lying].On = day
			}
			if lying < 0 {
				continue
			}
			if t.Wet[day] {
				wet++
			} else {
				dry++
				wet = 0
			}
			if dry == y.Lots[lying].Dry {
				stays[lying].Off, stays[lying].Dry = day, true
				lying = -1
			} else if wet == y.Lots[lying].Rot {
				stays[lying].Off = day
				lying = -1
			}
		}
	}
	return stays
}

// savedIn are the lots that are saved in the truth.
func savedIn(y rack.Yard, order [][]int, t rack.Truth) (list []int) {
	for lot, s := range staysOf(y, order, t) {
		if s.Dry && s.Off <= y.Lots[lot].Due {
			list = append(list, lot)
		}
	}
	return list
}

func lostIn(y rack.Yard, order [][]int, t rack.Truth) int {
	return len(y.Lots) - len(savedIn(y, order, t))
}

// fate is what becomes of the lots by an order in all truths.
type fate struct {
	loss  int
	saved []int // Always, Never or Perhaps
}

func fateOf(y rack.Yard, order [][]int, truths []rack.Truth) fate {
	f := fate{saved: make([]int, len(y.Lots))}
	in := make([]int, len(y.Lots))
	for _, t := range truths {
		saved := savedIn(y, order, t)
		f.loss = max(f.loss, len(y.Lots)-len(saved))
		for _, lot := range saved {
			in[lot]++
		}
	}
	for lot, many := range in {
		switch many {
		case len(truths):
			f.saved[lot] = rack.Always
		case 0:
			f.saved[lot] = rack.Never
		default:
			f.saved[lot] = rack.Perhaps
		}
	}
	return f
}

func (f fate) sure() int {
	many := 0
	for _, saved := range f.saved {
		if saved == rack.Always {
			many++
		}
	}
	return many
}

// fatesOf are for all orders.
func fatesOf(y rack.Yard) (fates []fate) {
	truths := truthsOf(y)
	for _, order := range ordersOf(y) {
		fates = append(fates, fateOf(y, order, truths))
	}
	return fates
}

func hopelessOf(y rack.Yard) (list []int) {
	fates := fatesOf(y)
	for lot := range y.Lots {
		if !slices.ContainsFunc(fates, func(f fate) bool { return f.saved[lot] == rack.Always }) {
			list = append(list, lot)
		}
	}
	return list
}

func randomOrder(r *rand.Rand, y rack.Yard) [][]int {
	order := make([][]int, y.Racks)
	for _, lot := range r.Perm(len(y.Lots)) {
		on := r.IntN(y.Racks)
		order[on] = append(order[on], lot)
	}
	return order
}

func randomTruth(r *rand.Rand, y rack.Yard) rack.Truth {
	comings, weathers := comingsOf(y), weathersOf(y)
	return rack.Truth{Comes: slices.Clone(comings[r.IntN(len(comings))]), Wet: weathers[r.IntN(len(weathers))]}
}

// randomYard is one of so many days and lots that has at most so many truths.
// Its lots often can be saved, and often not.
func randomYard(r *rand.Rand, days, many, truths int) rack.Yard {
	for {
		y := rack.Yard{Last: days - 1, Racks: 1 + r.IntN(2), Wet: r.IntN(min(days, 3) + 1), Run: r.IntN(min(days, 3) + 1)}
		for range many {
			low := r.IntN((days + 1) / 2)
			l := rack.Lot{Comes: to(low, min(days-1, low+r.IntN(3))), Dry: 1 + r.IntN(3), Rot: 1 + r.IntN(3)}
			l.Due = min(days-1, low+r.IntN(days+1))
			y.Lots = append(y.Lots, l)
		}
		if len(weathersOf(y))*len(comingsOf(y)) <= truths {
			return y
		}
	}
}

// randomYards yields small yards, with a number source for what else a test
// needs.
func randomYards(many int) func(yield func(*rand.Rand, rack.Yard) bool) {
	return func(yield func(*rand.Rand, rack.Yard) bool) {
		r := rand.New(rand.NewPCG(3, uint64(many)))
		for range many {
			if !yield(r, randomYard(r, 1+r.IntN(8), r.IntN(5), 1+r.IntN(150))) {
				return
			}
		}
	}
}

// bigYards are yards of ten days with many truths and four lots.
func bigYards() (list []rack.Yard) {
	r := rand.New(rand.NewPCG(3, 3))
	for len(list) < 3 {
		if y := randomYard(r, 10, 4, 1000); len(truthsOf(y)) > 500 {
			list = append(list, y)
		}
	}
	return list
}
