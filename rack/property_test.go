package rack_test

import (
	"math"
	"math/rand/v2"
	"slices"
	"testing"

	"isatis/api"
	"isatis/rack"
)

func play(t *testing.T, y rack.Yard, o [][]int, is rack.Truth) []rack.Stay {
	t.Helper()
	l, e := rack.Play(y, o, is)
	if e != api.OK {
		t.Fatalf("Play of %v, %v, %v: %v", y, o, is, e)
	}
	return l
}

func saved(t *testing.T, y rack.Yard, o [][]int, lot int) int {
	t.Helper()
	kind, e := rack.Saved(y, o, lot)
	if e != api.OK {
		t.Fatalf("Saved of %v, %v, %d: %v", y, o, lot, e)
	}
	return kind
}

func lost(t *testing.T, y rack.Yard, o [][]int) (int, rack.Truth) {
	t.Helper()
	many, worst, e := rack.Lost(y, o)
	if e != api.OK {
		t.Fatalf("Lost of %v, %v: %v", y, o, e)
	}
	return many, worst
}

func loss(t *testing.T, y rack.Yard, o [][]int) int {
	t.Helper()
	many, _ := lost(t, y, o)
	return many
}

func best(t *testing.T, y rack.Yard) ([][]int, int) {
	t.Helper()
	o, many, e := rack.Best(y)
	if e != api.OK {
		t.Fatalf("Best of %v: %v", y, e)
	}
	return o, many
}

func sure(t *testing.T, y rack.Yard) ([][]int, int) {
	t.Helper()
	o, many, e := rack.Sure(y)
	if e != api.OK {
		t.Fatalf("Sure of %v: %v", y, e)
	}
	return o, many
}

func hopeless(t *testing.T, y rack.Yard) []int {
	t.Helper()
	l, e := rack.Hopeless(y)
	if e != api.OK {
		t.Fatalf("Hopeless of %v: %v", y, e)
	}
	return l
}

// lostOf counts the stays of lots that are lost.
func lostOf(y rack.Yard, stays []rack.Stay) int {
	many := 0
	for lot, s := range stays {
		if !s.Dry || s.Off > y.Lots[lot].Due {
			many++
		}
	}
	return many
}

// alwaysSaved is the number of lots that are saved always by the order.
func alwaysSaved(t *testing.T, y rack.Yard, o [][]int) int {
	t.Helper()
	many := 0
	for lot := range y.Lots {
		if saved(t, y, o, lot) == rack.Always {
			many++
		}
	}
	return many
}

func contains(all, some []int) bool {
	return !slices.ContainsFunc(some, func(n int) bool { return !slices.Contains(all, n) })
}

// P3.5
func TestInEachTruth(t *testing.T) {
	yards := append(bigYards(), example())
	for _, y := range randomYards(200) {
		yards = append(yards, y)
	}
	for _, y := range yards {
		b, least := best(t, y)
		s, most := sure(t, y)
		if least+most > len(y.Lots) || least < 0 || most < 0 {
			t.Fatalf("%v: %d can be lost, %d are saved", y, least, most)
		}
		reached := false
		for _, is := range truthsOf(y) {
			many := lostOf(y, play(t, y, b, is))
			reached = reached || many == least
			if many > least {
				t.Fatalf("Best of %v: %v, %d, but %d are lost in %v", y, b, least, many, is)
			}
			if many := len(y.Lots) - lostOf(y, play(t, y, s, is)); many < most {
				t.Fatalf("Sure of %v: %v, %d, but %d are saved in %v", y, s, most, many, is)
			}
		}
		if !reached || loss(t, y, b) != least || alwaysSaved(t, y, s) != most {
			t.Fatalf("%v: %v, %d; %v, %d", y, b, least, s, most)
		}
	}
}

// P3.6
func TestNoneIsBetter(t *testing.T) {
	yards := append(bigYards()[:1], example())
	for _, y := range randomYards(150) {
		yards = append(yards, y)
	}
	for _, y := range yards {
		_, least := best(t, y)
		_, most := sure(t, y)
		for _, o := range ordersOf(y) {
			many, worst := lost(t, y, o)
			if many < least || lostOf(y, play(t, y, o, worst)) != many {
				t.Fatalf("Best of %v: %d, but %v: %d in %v", y, least, o, many, worst)
			}
			if rack.ProveOrder(y, o, least-1) || rack.ProveOrder(y, o, least) != (many == least) {
				t.Fatalf("ProveOrder of %v, %v", y, o)
			}
			if n := alwaysSaved(t, y, o); n > most {
				t.Fatalf("Sure of %v: %d, but %v: %d", y, most, o, n)
			}
		}
	}
}

// P3.7
func TestRacks(t *testing.T) {
	for r, y := range randomYards(400) {
		o, is := randomOrder(r, y), randomTruth(r, y)
		stays := play(t, y, o, is)
		for _, waiting := range o {
			empty := 0
			for _, lot := range waiting {
				s := stays[lot]
				if s.On == -1 {
					if s.Off != -1 || s.Dry || max(empty, is.Comes[lot]) <= y.Last {
						t.Fatalf("Play of %v, %v, %v: the lot %d is not put on its rack: %v", y, o, is, lot, stays)
					}
					empty = y.Last + 1
					continue
				}
				if s.On != max(empty, is.Comes[lot]) || s.Off != -1 && s.Off < s.On {
					t.Fatalf("Play of %v, %v, %v: the lot %d: %v", y, o, is, lot, stays)
				}
				dry := 0
				for day := s.On; day <= s.Off; day++ {
					if !is.Wet[day] {
						dry++
					}
				}
				if s.Dry && dry != y.Lots[lot].Dry || !s.Dry && dry >= y.Lots[lot].Dry {
					t.Fatalf("Play of %v, %v, %v: the lot %d has %d dry days: %v", y, o, is, lot, dry, stays)
				}
				if empty = s.Off + 1; s.Off == -1 {
					empty = y.Last + 1
				}
			}
		}
	}
}

// P3.8
func TestFirst(t *testing.T) {
	for r, y := range randomYards(300) {
		o, is, left := randomOrder(r, y), randomTruth(r, y), hopeless(t, y)
		for on, waiting := range o {
			if len(waiting) == 0 {
				continue
			}
			lot := waiting[0]
			if (saved(t, y, o, lot) == rack.Always) == slices.Contains(left, lot) {
				t.Fatalf("%v by %v: the lot %d; hopeless are %v", y, o, lot, left)
			}
			alone, only := y, rack.Truth{Comes: is.Comes[lot : lot+1], Wet: is.Wet}
			alone.Lots = y.Lots[lot : lot+1]
			first := make([][]int, y.Racks)
			first[on] = list(0)
			if a, b := play(t, alone, first, only)[0], play(t, y, o, is)[lot]; a != b {
				t.Fatalf("%v by %v in %v: the lot %d: %v, but %v if it is alone", y, o, is, lot, b, a)
			}
		}
	}
}

// harder reports whether nothing is easier in the second yard: the least loss is
// not smaller, no more lots are sure, and no hopeless lot stops being one.
func harder(t *testing.T, y, z rack.Yard) bool {
	t.Helper()
	_, a := best(t, y)
	_, b := best(t, z)
	_, c := sure(t, y)
	_, d := sure(t, z)
	return a <= b && c >= d && contains(hopeless(t, z), hopeless(t, y))
}

// P3.9
func TestWider(t *testing.T) {
	compared, changed := 0, 0
	for r, y := range randomYards(600) {
		z := y
		z.Lots = slices.Clone(y.Lots)
		switch r.IntN(3) {
		case 0:
			z.Wet = min(y.Last+1, y.Wet+1)
		case 1:
			z.Run = min(y.Last+1, y.Run+1)
		default:
			if len(z.Lots) > 0 {
				l := &z.Lots[r.IntN(len(z.Lots))]
				l.Comes = to(max(0, l.Comes.Lo-r.IntN(2)), min(y.Last, l.Comes.Hi+r.IntN(2)))
			}
		}
		if rack.CheckYard(z) != api.OK {
			continue
		}
		compared++
		if !harder(t, y, z) {
			t.Fatalf("%v is easier than %v", z, y)
		}
		if !harder(t, z, y) {
			changed++
		}
		o := randomOrder(r, y)
		if loss(t, z, o) < loss(t, y, o) {
			t.Fatalf("Lost by %v: less of %v than of %v", o, z, y)
		}
		for lot := range y.Lots {
			if kind := saved(t, z, o, lot); kind != rack.Perhaps && kind != saved(t, y, o, lot) {
				t.Fatalf("Saved by %v, %d: %d of %v, but not of %v", o, lot, kind, z, y)
			}
		}
	}
	if compared < 400 || changed < 30 {
		t.Errorf("%d yards compared, %d are not the same", compared, changed)
	}
}

// P3.10
func TestAnotherRack(t *testing.T) {
	changed := 0
	for _, y := range randomYards(400) {
		y.Racks = 1
		z := y
		z.Racks = 2
		if !harder(t, z, y) {
			t.Fatalf("%v is easier with one rack", y)
		}
		if !harder(t, y, z) {
			changed++
		}
	}
	if changed < 30 {
		t.Errorf("another rack changed only %d yards", changed)
	}
}

// P3.11: a later Due.
func TestLater(t *testing.T) {
	for r, y := range randomYards(400) {
		if len(y.Lots) == 0 {
			continue
		}
		z := y
		z.Lots = slices.Clone(y.Lots)
		l := &z.Lots[r.IntN(len(z.Lots))]
		l.Due = min(y.Last, l.Due+1+r.IntN(2))
		if !harder(t, z, y) {
			t.Fatalf("%v is easier than %v", y, z)
		}
		if o := randomOrder(r, y); loss(t, z, o) > loss(t, y, o) {
			t.Fatalf("Lost by %v: more of %v than of %v", o, z, y)
		}
	}
}

// P3.11: all racks' lists are exchanged as they are.
func TestExchanged(t *testing.T) {
	for r, y := range randomYards(300) {
		o, is := randomOrder(r, y), randomTruth(r, y)
		other := slices.Clone(o)
		slices.Reverse(other)
		if !slices.Equal(play(t, y, o, is), play(t, y, other, is)) || loss(t, y, o) != loss(t, y, other) {
			t.Fatalf("%v by %v and by %v", y, o, other)
		}
		for lot := range y.Lots {
			if saved(t, y, o, lot) != saved(t, y, other, lot) {
				t.Fatalf("%v by %v and by %v: the lot %d", y, o, other, lot)
			}
		}
	}
}

// P3.12
func TestNoRain(t *testing.T) {
	for _, y := range randomYards(600) {
		y.Wet = 0
		y.Lots = y.Lots[:min(2, len(y.Lots))]
		if y.Racks = len(y.Lots); y.Racks == 0 {
			continue
		}
		o := [][]int{list(0), list(1)}[:y.Racks]
		for _, is := range truthsOf(y) {
			for lot, s := range play(t, y, o, is) {
				want := rack.Stay{On: is.Comes[lot], Off: -1}
				if off := is.Comes[lot] + y.Lots[lot].Dry - 1; off <= y.Last {
					want.Off, want.Dry = off, true
				}
				if s != want {
					t.Fatalf("Play of %v, %v: the lot %d: %v, not %v", y, is, lot, s, want)
				}
			}
		}
	}
}

// P3.13: the last lot of a list is taken away, and those after it have numbers
// smaller by 1.
func TestOneLotFewer(t *testing.T) {
	for r, y := range randomYards(400) {
		o := randomOrder(r, y)
		for on, waiting := range o {
			if len(waiting) == 0 {
				continue
			}
			lot := waiting[len(waiting)-1]
			z := y
			z.Lots = slices.Delete(slices.Clone(y.Lots), lot, lot+1)
			fewer := make([][]int, y.Racks)
			for i, l := range o {
				fewer[i] = slices.Clone(l)
			}
			fewer[on] = fewer[on][:len(waiting)-1]
			for _, l := range fewer {
				for at := range l {
					if l[at] > lot {
						l[at]--
					}
				}
			}
			if d := loss(t, y, o) - loss(t, z, fewer); d < 0 || d > 1 {
				t.Fatalf("Lost of %v by %v, and without the lot %d: %d less", y, o, lot, d)
			}
		}
	}
}

// P1: whatever the arguments are, each call returns.
func TestNoPanic(t *testing.T) {
	odd := []int{math.MinInt, -2, -1, 0, 0, 1, 1, 2, 3, 5, 9, 10, math.MaxInt}
	r := rand.New(rand.NewPCG(1, 1))
	pick := func() int { return odd[r.IntN(len(odd))] }
	some := func() []int {
		l := make([]int, r.IntN(4))
		for i := range l {
			l[i] = pick()
		}
		return l
	}
	for range 20000 {
		y := rack.Yard{Last: pick(), Racks: pick(), Wet: pick(), Run: pick()}
		for range r.IntN(6) {
			y.Lots = append(y.Lots, rack.Lot{Comes: to(pick(), pick()), Dry: pick(), Rot: pick(), Due: pick()})
		}
		if r.IntN(2) == 0 { // a valid yard, with whatever else
			y = example()
		}
		o := make([][]int, r.IntN(4))
		for i := range o {
			o[i] = some()
		}
		is := rack.Truth{Comes: some(), Wet: weather(r.IntN(8))}
		if _, zero := calls(y, o, is, pick()); !zero {
			t.Fatalf("%v, %v, %v: a result together with an error", y, o, is)
		}
		rack.ProveOrder(y, o, pick())
		rack.ProveLoss(y, o, is, pick())
	}
}

// R3, R4: arguments stay as they are, and results are new.
func TestMemory(t *testing.T) {
	y, o, is := example(), order(list(1), list(0)), truth(1)
	y.Racks = 2
	for range 2 {
		stays := play(t, y, o, is)
		many, worst := lost(t, y, o)
		b, least := best(t, y)
		s, most := sure(t, y)
		left := hopeless(t, y)
		if !slices.Equal(stays, []rack.Stay{stay(0, 2, true), stay(1, 1, false)}) || many != 1 || !rack.ProveLoss(y, o, worst, many) || least != 1 || most != 1 || !slices.Equal(left, list(1)) {
			t.Fatalf("%v, %d, %v, %v, %d, %v, %d, %v", stays, many, worst, b, least, s, most, left)
		}
		if !rack.ProveOrder(y, b, least) || !rack.ProveOrder(y, s, 2) || saved(t, y, o, 0) != rack.Always || saved(t, y, o, 1) != rack.Perhaps {
			t.Fatalf("%v, %v", b, s)
		}
		// What is written into one part of a result is seen in no other one.
		for _, l := range [][][]int{b, s} {
			before := slices.Clone(l[1])
			l[0] = append(l[0], 7, 7, 7, 7)
			if !slices.Equal(l[1], before) {
				t.Fatalf("lists of an order share memory")
			}
			for i := range l {
				for at := range l[i] {
					l[i][at] = 9
				}
			}
		}
		stays[0], left[0] = rack.Stay{}, 9
		worst.Comes[0], worst.Wet[0] = 9, !worst.Wet[0]
	}
	z := example()
	if !slices.Equal(y.Lots, z.Lots) || !slices.Equal(o[0], list(1)) || !slices.Equal(o[1], list(0)) || !slices.Equal(is.Comes, list(0, 1)) || !slices.Equal(is.Wet, weather(6, 1)) {
		t.Error("an argument was changed")
	}
	y.Lots, is.Comes = []rack.Lot{}, list()
	if len(play(t, y, order(nil, list()), is)) > 0 || !rack.ProveLoss(y, order(list(), nil), rack.Truth{Wet: is.Wet}, 0) {
		t.Error("nothing, and an empty list")
	}
}

// Equal arguments lead to equal results, also where a choice is left.
func TestAgain(t *testing.T) {
	same := func(a, b [][]int) bool { return slices.EqualFunc(a, b, slices.Equal[[]int]) }
	for r, y := range randomYards(100) {
		o := randomOrder(r, y)
		_, a := lost(t, y, o)
		_, b := lost(t, y, o)
		if !slices.Equal(a.Comes, b.Comes) || !slices.Equal(a.Wet, b.Wet) {
			t.Fatalf("Lost of %v, %v: in %v and in %v", y, o, a, b)
		}
		c, _ := best(t, y)
		d, _ := best(t, y)
		f, _ := sure(t, y)
		g, _ := sure(t, y)
		if !same(c, d) || !same(f, g) {
			t.Fatalf("%v: %v and %v, %v and %v", y, c, d, f, g)
		}
	}
}
