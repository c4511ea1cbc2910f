package vat_test

import (
	"math"
	"math/rand/v2"
	"slices"
	"testing"

	"isatis/api"
	"isatis/oracle"
	"isatis/vat"
)

func play(t *testing.T, v vat.Vat, y vat.Truth) []vat.State {
	t.Helper()
	l, e := vat.Play(v, y)
	if e != api.OK {
		t.Fatalf("Play of %v, %v: %v", v, y, e)
	}
	return l
}

func shades(t *testing.T, v vat.Vat, y vat.Truth, day, dips int) []int {
	t.Helper()
	l, e := vat.Shades(v, y, day, dips)
	if e != api.OK || len(l) != dips {
		t.Fatalf("Shades of %v, %v, %d, %d: %v, %v", v, y, day, dips, l, e)
	}
	return l
}

func bounds(t *testing.T, v vat.Vat) []vat.Bound {
	t.Helper()
	l, e := vat.Bounds(v)
	if e != api.OK || len(l) != v.Last+1 {
		t.Fatalf("Bounds of %v: %v, %v", v, l, e)
	}
	return l
}

// orders are those of all days.
func orders(t *testing.T, v vat.Vat) (kinds []int) {
	t.Helper()
	for day := range v.Last + 1 {
		kind, e := vat.Order(v, day)
		if e != api.OK {
			t.Fatalf("Order of %v, %d: %v", v, day, e)
		}
		kinds = append(kinds, kind)
	}
	return kinds
}

func shade(t *testing.T, v vat.Vat, day, dips int) vat.Range {
	t.Helper()
	r, e := vat.Shade(v, day, dips)
	if e != api.OK {
		t.Fatalf("Shade of %v, %d, %d: %v", v, day, dips, e)
	}
	return r
}

func keep(t *testing.T, v vat.Vat) []int {
	t.Helper()
	l, e := vat.Keep(v)
	if e != api.OK {
		t.Fatalf("Keep of %v: %v", v, e)
	}
	return l
}

func leave(t *testing.T, v vat.Vat) []int {
	t.Helper()
	l, e := vat.Leave(v)
	if e != api.OK {
		t.Fatalf("Leave of %v: %v", v, e)
	}
	return l
}

func contains(wide, narrow vat.Range) bool { return wide.Lo <= narrow.Lo && narrow.Hi <= wide.Hi }

// inside reports whether nothing is bounded more widely in the narrow vat than in
// the wide one.
func inside(t *testing.T, narrow, wide vat.Vat) bool {
	t.Helper()
	b := bounds(t, wide)
	for day, a := range bounds(t, narrow) {
		if !contains(b[day].Balance, a.Balance) || !contains(b[day].Blue, a.Blue) {
			return false
		}
	}
	return contains(shade(t, wide, 0, 7), shade(t, narrow, 0, 7))
}

// keptVats have a truth, and numbers for which the most days differ much.
func keptVats() (list []vat.Vat) {
	for r, v := range randomVats(800, 2) {
		if r.IntN(3) == 0 {
			v.Band, v.Start = 2+r.IntN(4), randomRange(r, 9, 5)
			v.Looks = nil
		}
		if isRight(v) {
			list = append(list, v)
		}
	}
	return append(list, example(), example(isHigh()), narrow())
}

// P6.7
func TestInEachTruth(t *testing.T) {
	vats := append(bigVats(), example(), example(isHigh()))
	for _, v := range randomVats(300, 3) {
		if isRight(v) {
			vats = append(vats, v)
		}
	}
	r := rand.New(rand.NewPCG(7, 6))
	for _, v := range vats {
		all, kinds, day, dips := bounds(t, v), orders(t, v), r.IntN(v.Last+1), r.IntN(21)
		sums := shade(t, v, day, dips)
		reached := map[[2]int]bool{}
		for _, y := range truthsOf(v) {
			for on, s := range play(t, v, y) {
				b := all[on]
				for at, x := range []struct {
					n  int
					in vat.Range
				}{{s.Balance, b.Balance}, {s.Blue, b.Blue}} {
					if x.n < x.in.Lo || x.n > x.in.Hi {
						t.Fatalf("Bounds of %v: %v, but %v on the day %d", v, b, s, on)
					}
					reached[[2]int{4*on + 2*at, 0}] = reached[[2]int{4*on + 2*at, 0}] || x.n == x.in.Lo
					reached[[2]int{4*on + 2*at, 1}] = reached[[2]int{4*on + 2*at, 1}] || x.n == x.in.Hi
				}
				if in := isInOrder(v, s.Balance); in && kinds[on] == vat.Never || !in && kinds[on] == vat.Always {
					t.Fatalf("Order of %v, %d: %d, but %v", v, on, kinds[on], s)
				}
			}
			if n := oracle.Sum(shades(t, v, y, day, dips)); n < sums.Lo || n > sums.Hi {
				t.Fatalf("Shade of %v, %d, %d: %v, but %d", v, day, dips, sums, n)
			}
		}
		for end, is := range reached {
			if !is {
				t.Fatalf("Bounds of %v: %v, which are not reached (%v)", v, all, end)
			}
		}
		if len(leave(t, v)) > 0 {
			t.Fatalf("Leave of %v, which has a truth", v)
		}
	}
}

// P6.8
func TestBlue(t *testing.T) {
	for r, v := range randomVats(500, 0) {
		truths := anyTruths(v)
		y := truths[r.IntN(len(truths))]
		before := y.Blue
		for day, s := range play(t, v, y) {
			if s.Blue > before+v.Feeds[day].Madder*v.Gain || s.Blue < 0 {
				t.Fatalf("Play of %v, %v: the blue %d on the day %d", v, y, s.Blue, day)
			}
			before = s.Blue
			most := s.Blue / 10
			for _, n := range shades(t, v, y, day, 20) {
				if n > most || n < 0 {
					t.Fatalf("Shades of %v, %v, %d: %d after %d", v, y, day, n, most)
				}
				most = n
			}
		}
	}
}

// P6.9
func TestKeptOrShown(t *testing.T) {
	tried, shown := 0, 0
	all := [][][]int{feedings(0), feedings(1), feedings(2), feedings(3)}
	for _, v := range keptVats() {
		l := keep(t, v)
		fed := fedWith(without(v, list(0, 1, 2, 3, 4)), l)
		for _, y := range truthsOf(v) {
			for day, s := range play(t, fed, y)[:len(l)] {
				if !isInOrder(v, s.Balance) {
					t.Fatalf("Keep of %v: %v, but %v on the day %d", v, l, s, day)
				}
			}
		}
		if !vat.ProveKeep(v, l) {
			t.Fatalf("Keep of %v: %v, which is not proved", v, l)
		}
		p, e := vat.Show(v)
		if (e == api.ErrNone) != (len(l) == v.Last+1) || e == api.OK && !vat.ProveShow(v, p) {
			t.Fatalf("Keep and Show of %v: %v, %v, %v", v, l, p, e)
		}
		if e != api.OK || len(l) == 2 && tried%2 > 0 || len(l) > 2 {
			continue
		}
		tried++
		for _, longer := range all[len(l)+1] {
			if vat.ProveKeep(v, longer) {
				t.Fatalf("Keep of %v: %v, but %v", v, l, longer)
			}
		}
		truths := truthsOf(v)
		for over := range 4 {
			p := vat.Proof{Over: over - 1, Under: min(1, v.Last), Most: truths[len(truths)-1], Least: truths[0]}
			if greater := max(p.Over, p.Under); vat.ProveShow(v, p) && greater < 2 {
				shown++
				if slices.ContainsFunc(all[greater+1], func(l []int) bool { return vat.ProveKeep(v, l) }) {
					t.Fatalf("ProveShow of %v, %v, but a feeding keeps it", v, p)
				}
			}
		}
	}
	if tried < 100 || shown < 50 {
		t.Errorf("%d vats, and %d other proofs, for which all feedings are tried", tried, shown)
	}
}

// P6.9: no feeding that goes on from one that keeps the vat in order is longer
// than the most days, however many these are.
func TestNoLonger(t *testing.T) {
	many := 0
	r := rand.New(rand.NewPCG(9, 6))
	for _, v := range keptVats() {
		most := len(keep(t, v))
		if most == v.Last+1 {
			continue
		}
		many++
		for range 3 {
			var l []int
			for {
				var next [][]int
				for _, n := range r.Perm(19) {
					if longer := append(slices.Clone(l), n-9); vat.ProveKeep(v, longer) {
						next = append(next, longer)
						break
					}
				}
				if len(next) == 0 {
					break
				}
				l = next[0]
			}
			if len(l) > most {
				t.Fatalf("Keep of %v: %d days, but %v", v, most, l)
			}
		}
	}
	if many < 100 {
		t.Errorf("only %d vats", many)
	}
}

// P6.10
func TestBeginning(t *testing.T) {
	for _, v := range keptVats() {
		l := keep(t, v)
		for n := range len(l) + 1 {
			if !vat.ProveKeep(v, l[:n]) {
				t.Fatalf("ProveKeep of %v: %v, but not %v", v, l, l[:n])
			}
		}
	}
}

// P6.11
func TestBand(t *testing.T) {
	more := 0
	r := rand.New(rand.NewPCG(11, 6))
	for _, v := range keptVats() {
		wide := v
		wide.Band = min(20, v.Band+1+r.IntN(3))
		a, b := len(keep(t, v)), len(keep(t, wide))
		if b < a {
			t.Fatalf("Keep of %v: %d days, but %d with the band %d", v, a, b, wide.Band)
		}
		if b > a {
			more++
		}
		kinds := orders(t, wide)
		for day, kind := range orders(t, v) {
			if kind == vat.Always && kinds[day] != vat.Always {
				t.Fatalf("Order of %v, %d: always, but not with the band %d", v, day, wide.Band)
			}
		}
	}
	if more < 30 {
		t.Errorf("only %d vats have more days", more)
	}
}

// P6.12
func TestMoreBlue(t *testing.T) {
	for r, v := range randomVats(500, 0) {
		v.Blue.Hi = v.Blue.Lo + 1 + r.IntN(9)
		truths := anyTruths(v)
		y := truths[r.IntN(len(truths))]
		z := y
		z.Blue += r.IntN(v.Blue.Hi - y.Blue + 1)
		more := play(t, v, z)
		for day, s := range play(t, v, y) {
			if more[day].Blue < s.Blue {
				t.Fatalf("Play of %v, %v: %v, but %v with the blue %d", v, y, s, more[day], z.Blue)
			}
			brighter := shades(t, v, z, day, 20)
			for i, n := range shades(t, v, y, day, 20) {
				if brighter[i] < n {
					t.Fatalf("Shades of %v, %v, %d: %d, but %d with the blue %d", v, y, day, n, brighter[i], z.Blue)
				}
			}
		}
	}
}

// P6.13
func TestOneMoreLook(t *testing.T) {
	compared, changed, longer := 0, 0, 0
	for r, v := range randomVats(600, 4) {
		truths := anyTruths(v)
		g := with(v, randomLook(r, v, truths[r.IntN(len(truths))]))
		if d := len(leave(t, g)) - len(leave(t, v)); d < 0 || d > 1 {
			t.Fatalf("Leave of %v and of %v: %d more", v, g, d)
		}
		if !isRight(g) {
			continue
		}
		compared++
		if !inside(t, g, v) {
			t.Fatalf("%v is wider than %v", g, v)
		}
		kinds := orders(t, g)
		for day, kind := range orders(t, v) {
			if kind != vat.Perhaps && kinds[day] != kind {
				t.Fatalf("Order of %v, %d: %d; not of %v", v, day, kind, g)
			}
		}
		d := len(keep(t, g)) - len(keep(t, v))
		if d < 0 {
			t.Fatalf("Keep of %v has fewer days than of %v", g, v)
		}
		if d > 0 {
			longer++
		}
		if !inside(t, v, g) {
			changed++
		}
	}
	if compared < 200 || changed < 50 || longer < 5 {
		t.Errorf("%d vats compared, %d are not the same, %d with more days", compared, changed, longer)
	}
}

func widen(r *rand.Rand, x vat.Range, low, high int) vat.Range {
	return to(max(low, x.Lo-r.IntN(2)), min(high, x.Hi+r.IntN(2)))
}

// P6.14
func TestWider(t *testing.T) {
	compared, changed, fewer := 0, 0, 0
	for r, v := range randomVats(600, 5) {
		g := v
		g.Drift, g.Looks = slices.Clone(v.Drift), slices.Clone(v.Looks)
		g.Start, g.Blue = widen(r, v.Start, -50, 50), widen(r, v.Blue, 0, 999)
		for i := range g.Looks {
			g.Looks[i].Number = widen(r, g.Looks[i].Number, -5000, 5000)
		}
		for range 2 {
			day := r.IntN(len(g.Drift))
			g.Drift[day] = widen(r, g.Drift[day], -9, 9)
		}
		if vat.CheckVat(g) != api.OK {
			continue
		}
		if len(leave(t, g)) > len(leave(t, v)) {
			t.Fatalf("Leave of %v: more than of %v", g, v)
		}
		if !isRight(v) {
			continue
		}
		compared++
		if !inside(t, v, g) {
			t.Fatalf("%v is narrower than %v", g, v)
		}
		d := len(keep(t, g)) - len(keep(t, v))
		if d > 0 {
			t.Fatalf("Keep of %v has more days than of %v", g, v)
		}
		if d < 0 {
			fewer++
		}
		if !inside(t, g, v) {
			changed++
		}
	}
	if compared < 100 || changed < 50 || fewer < 10 {
		t.Errorf("%d vats compared, %d are not the same, %d with fewer days", compared, changed, fewer)
	}
}

// P6.15
func TestFirst(t *testing.T) {
	for _, v := range randomVats(500, 5) {
		n, e := vat.First(v)
		if e == api.ErrNone {
			bounds(t, v)
			continue
		}
		if e != api.OK || n < 0 || n >= len(v.Looks) {
			t.Fatalf("First of %v: %d, %v", v, n, e)
		}
		g := v
		g.Looks = v.Looks[:n]
		bounds(t, g)
		g.Looks = v.Looks[:n+1]
		if _, e := vat.Bounds(g); e != api.ErrFalse {
			t.Fatalf("First of %v: %d, but Bounds: %v", v, n, e)
		}
	}
}

// P6.16
func TestLeftOut(t *testing.T) {
	for _, v := range randomVats(500, 5) {
		smallest := leave(t, v)
		bounds(t, without(v, smallest))
		for _, l := range oracle.ShortestFirst(len(v.Looks)) {
			if slices.Equal(l, smallest) {
				break
			}
			if _, e := vat.Bounds(without(v, l)); e != api.ErrFalse {
				t.Fatalf("Leave of %v: %v, not %v", v, smallest, l)
			}
		}
	}
}

func mirror(x vat.Range) vat.Range { return to(-x.Hi, -x.Lo) }

// P6.17
func TestMirror(t *testing.T) {
	for r, v := range randomVats(500, 4) {
		g := v
		g.Start, g.Drift, g.Feeds, g.Looks = mirror(v.Start), nil, nil, nil
		for day, x := range v.Drift {
			f := v.Feeds[day]
			g.Drift, g.Feeds = append(g.Drift, mirror(x)), append(g.Feeds, vat.Feed{Lime: f.Bran, Bran: f.Lime, Madder: f.Madder})
		}
		for _, l := range v.Looks {
			if l.Balance {
				l.Number = mirror(l.Number)
			}
			g.Looks = append(g.Looks, l)
		}
		n, e := vat.First(v)
		if m, f := vat.First(g); m != n || f != e || !slices.Equal(leave(t, v), leave(t, g)) {
			t.Fatalf("First or Leave of %v and of %v", v, g)
		}
		if !isRight(v) {
			continue
		}
		all := bounds(t, v)
		for day, b := range bounds(t, g) {
			if b.Balance != mirror(all[day].Balance) || b.Blue != all[day].Blue {
				t.Fatalf("Bounds of %v and of %v", v, g)
			}
		}
		day, dips := r.IntN(v.Last+1), r.IntN(21)
		if !slices.Equal(orders(t, v), orders(t, g)) || shade(t, v, day, dips) != shade(t, g, day, dips) || len(keep(t, v)) != len(keep(t, g)) {
			t.Fatalf("%v and %v", v, g)
		}
	}
}

// P7: looks in another order.
func TestAnyOrder(t *testing.T) {
	for r, v := range randomVats(300, 5) {
		g := v
		g.Looks = slices.Clone(v.Looks)
		r.Shuffle(len(g.Looks), func(i, j int) { g.Looks[i], g.Looks[j] = g.Looks[j], g.Looks[i] })
		if len(leave(t, v)) != len(leave(t, g)) {
			t.Fatalf("Leave of %v and of %v", v, g)
		}
		if !isRight(v) {
			continue
		}
		if !slices.Equal(bounds(t, v), bounds(t, g)) || !slices.Equal(orders(t, v), orders(t, g)) || !slices.Equal(keep(t, v), keep(t, g)) {
			t.Fatalf("%v and %v", v, g)
		}
	}
}

// Rules: a call with equal arguments returns equal results, also where a choice
// is left to it.
func TestAgain(t *testing.T) {
	for _, v := range append(bigVats(), example(), narrow()) {
		l := keep(t, v)
		p, e := vat.Show(v)
		for range 5 {
			q, f := vat.Show(v)
			if !slices.Equal(keep(t, v), l) || e != f || p.Over != q.Over || p.Under != q.Under || !equal(p.Most, q.Most) || !equal(p.Least, q.Least) {
				t.Fatalf("Keep or Show of %v", v)
			}
		}
	}
}

// P1: whatever the arguments are, each call returns.
func TestNoPanic(t *testing.T) {
	odd := []int{math.MinInt, -10, -9, -1, 0, 0, 0, 1, 1, 2, 3, 9, 20, 21, 50, 100, 1000, math.MaxInt}
	r := rand.New(rand.NewPCG(1, 6))
	pick := func() int { return odd[r.IntN(len(odd))] }
	some := func() []int {
		l := make([]int, r.IntN(6))
		for i := range l {
			l[i] = pick()
		}
		return l
	}
	truths := func() vat.Truth {
		if r.IntN(2) == 0 {
			return []vat.Truth{lowest(), highest()}[r.IntN(2)]
		}
		return vat.Truth{Start: pick(), Blue: pick(), Drift: some()}
	}
	for range 20000 {
		v := vat.Vat{Last: pick(), Band: pick(), Start: to(pick(), pick()), Blue: to(pick(), pick()), Gain: pick(), Take: pick(), Dips: some()}
		for range r.IntN(6) {
			v.Drift = append(v.Drift, to(pick(), pick()))
			v.Feeds = append(v.Feeds, vat.Feed{Lime: pick(), Bran: pick(), Madder: pick()})
		}
		if r.IntN(2) == 0 { // a valid vat, with whatever else
			v = []vat.Vat{example(), narrow()}[r.IntN(2)]
		}
		for range r.IntN(3) {
			v.Looks = append(v.Looks, vat.Look{Day: pick(), Balance: r.IntN(2) == 0, Number: to(pick(), pick())})
		}
		a := asked{truth: truths(), day: pick(), dips: pick(), feeding: some(), proof: vat.Proof{Over: pick(), Under: pick(), Most: truths(), Least: truths()}}
		if _, zero := calls(v, a); !zero {
			t.Fatalf("%v, %v: a result together with an error", v, a)
		}
		proves(v, a)
	}
}

// R3, R4: arguments stay as they are, and results are new.
func TestMemory(t *testing.T) {
	v, y, feeding := example(isHigh()), highest(), list(0, -3, -3, 0)
	for range 2 {
		states, dips, all := play(t, v, y), shades(t, v, y, 2, 2), bounds(t, v)
		fed, left := keep(t, example()), leave(t, example(isHigh(), isLow()))
		p, _ := vat.Show(narrow())
		if states[3] != (vat.State{Balance: 6, Blue: 90}) || !slices.Equal(dips, list(4, 4)) || all[0].Balance != to(4, 4) ||
			!vat.ProveKeep(example(), fed) || !slices.Equal(left, list(0)) || !vat.ProveShow(narrow(), p) {
			t.Fatalf("%v, %v, %v, %v, %v, %v", states, dips, all, fed, left, p)
		}
		p.Most.Drift[0] = 9
		if p.Least.Drift[0] == 9 {
			t.Fatal("the truths of a proof share their memory")
		}
		states[0], dips[0], all[0], fed[0], left[0], p.Least.Drift[0] = vat.State{}, 99, vat.Bound{}, 99, 99, 9
		if !vat.ProveTruth(v, y) || !vat.ProveKeep(v, feeding) || !vat.ProveShow(narrow(), plain().proof) {
			t.Fatal("what was proved is not proved again")
		}
	}
	g := example(isHigh())
	if !slices.Equal(v.Drift, g.Drift) || !slices.Equal(v.Feeds, g.Feeds) || !slices.Equal(v.Dips, g.Dips) || !slices.Equal(v.Looks, g.Looks) {
		t.Error("the vat was changed")
	}
	if !equal(y, highest()) || !slices.Equal(feeding, list(0, -3, -3, 0)) {
		t.Error("a truth or a feeding was changed")
	}
	e := example()
	e.Looks = []vat.Look{}
	if !slices.Equal(bounds(t, e), bounds(t, example())) || len(leave(t, e)) > 0 || !vat.ProveKeep(e, list()) {
		t.Error("nothing, and an empty list")
	}
}

// A proof of one truth alone has it twice, each in memory of its own.
func TestMemoryOfOneTruth(t *testing.T) {
	v, y := single(0, 10, 50, vat.Feed{}, 0)
	p, e := vat.Show(v)
	if e != api.OK || !equal(p.Most, y) || !equal(p.Least, y) {
		t.Fatalf("Show: %v, %v", p, e)
	}
	p.Most.Drift[0] = 1
	if p.Least.Drift[0] != 0 {
		t.Error("the truths of a proof share their memory")
	}
}
