package crop_test

import (
	"math"
	"slices"
	"testing"

	"isatis/api"
	"isatis/crop"
	"isatis/oracle"
)

func to(low, high int) crop.Range { return crop.Range{Lo: low, Hi: high} }

func look(week, low, high int) crop.Look { return crop.Look{Week: week, Weight: to(low, high)} }

func list(l ...int) []int { return l }

// example is the field of the chapter's examples, with looks.
func example(looks ...crop.Look) crop.Field {
	return crop.Field{
		Last: 4, Growth: []crop.Range{to(10, 12), to(8, 8), to(6, 6), to(4, 5), to(2, 2)}, Wet: list(0, 2, 0, 1, 0),
		Base: list(20, 15), Ripe: 2, Late: 4, Trod: 50, Looks: looks,
	}
}

func isLook() crop.Look { return look(2, 25, 25) }

// isFalse is a look that contradicts isLook.
func isFalse() crop.Look { return look(1, 18, 18) }

// truth is a truth of the example, with what Wet is in the week 1.
func truth(wet int) crop.Truth {
	return crop.Truth{Growth: list(10, 8, 6, 4, 2), Wet: list(0, wet, 0, 1, 0)}
}

// weeks is a field that grows so in its weeks, all dry and without plan.
func weeks(growth ...crop.Range) crop.Field {
	return crop.Field{Last: len(growth) - 1, Growth: growth, Wet: make([]int, len(growth)), Base: list(1), Ripe: 1}
}

// calls are the errors of all calls with the field, and whether each of them
// returns nothing else together with its error.
func calls(f crop.Field, y crop.Truth, plan []int, week int) (map[string]api.Errno, bool) {
	play, e1 := crop.Play(f, y, plan)
	bounds, e2 := crop.Bounds(f, plan)
	worth, e3 := crop.Worth(f, plan)
	worst, e4 := crop.Worst(f, plan)
	standing, e5 := crop.Standing(f, week)
	best, sure, e6 := crop.Best(f)
	first, e7 := crop.First(f)
	leave, e8 := crop.Leave(f)
	zero := (e1 == 0 || play == nil) && (e2 == 0 || bounds == nil) && (e3 == 0 || worth == to(0, 0)) && (e4 == 0 || worst.Growth == nil && worst.Wet == nil) &&
		(e5 == 0 || standing == to(0, 0)) && (e6 == 0 || best == nil && sure == 0) && (e7 == 0 || first == 0) && (e8 == 0 || leave == nil)
	return map[string]api.Errno{"Play": e1, "Bounds": e2, "Worth": e3, "Worst": e4, "Standing": e5, "Best": e6, "First": e7, "Leave": e8}, zero
}

type change struct {
	name string
	make func(f *crop.Field)
	want api.Errno
}

func weekChanges() []change {
	return []change{
		{"as it is", func(f *crop.Field) {}, api.OK},
		{"1 week", func(f *crop.Field) { f.Last, f.Growth, f.Wet = 0, f.Growth[:1], f.Wet[:1] }, api.OK},
		{"10 weeks", func(f *crop.Field) { f.Last, f.Growth, f.Wet = 9, make([]crop.Range, 10), make([]int, 10) }, api.OK},
		{"11 weeks", func(f *crop.Field) { f.Last, f.Growth, f.Wet = 10, make([]crop.Range, 11), make([]int, 11) }, api.ErrLimit},
		{"no weeks", func(f *crop.Field) { f.Last, f.Growth, f.Wet = -1, nil, nil }, api.ErrArg},
		{"the smallest Last", func(f *crop.Field) { f.Last = math.MinInt }, api.ErrArg},
		{"the greatest Last", func(f *crop.Field) { f.Last = math.MaxInt }, api.ErrLimit},
		{"a week more", func(f *crop.Field) { f.Last = 5 }, api.ErrArg},
		{"a week less", func(f *crop.Field) { f.Last = 3 }, api.ErrArg},
		{"Growth too short", func(f *crop.Field) { f.Growth = f.Growth[:4] }, api.ErrArg},
		{"Growth too long", func(f *crop.Field) { f.Growth = append(f.Growth, to(1, 1)) }, api.ErrArg},
		{"no Growth", func(f *crop.Field) { f.Growth = nil }, api.ErrArg},
		{"Growth to 50", func(f *crop.Field) { f.Growth[4] = to(50, 50) }, api.OK},
		{"Growth above 50", func(f *crop.Field) { f.Growth[4] = to(50, 51) }, api.ErrArg},
		{"Growth from 0", func(f *crop.Field) { f.Growth[4] = to(0, 0) }, api.OK},
		{"Growth below 0", func(f *crop.Field) { f.Growth[4] = to(-1, 0) }, api.ErrArg},
		{"Growth upside down", func(f *crop.Field) { f.Growth[4] = to(2, 1) }, api.ErrArg},
		{"Wet too short", func(f *crop.Field) { f.Wet = f.Wet[:4] }, api.ErrArg},
		{"Wet too long", func(f *crop.Field) { f.Wet = append(f.Wet, 0) }, api.ErrArg},
		{"no Wet", func(f *crop.Field) { f.Wet = nil }, api.ErrArg},
		{"Wet 2", func(f *crop.Field) { f.Wet[4] = 2 }, api.OK},
		{"Wet 3", func(f *crop.Field) { f.Wet[4] = 3 }, api.ErrArg},
		{"Wet below 0", func(f *crop.Field) { f.Wet[4] = -1 }, api.ErrArg},
	}
}

func careChanges() []change {
	return []change{
		{"no Base", func(f *crop.Field) { f.Base = nil }, api.ErrArg},
		{"an empty Base", func(f *crop.Field) { f.Base = list() }, api.ErrArg},
		{"1 strength", func(f *crop.Field) { f.Base = list(7) }, api.OK},
		{"3 strengths", func(f *crop.Field) { f.Base = list(200, 200, 0) }, api.OK},
		{"4 strengths", func(f *crop.Field) { f.Base = list(4, 3, 2, 1) }, api.ErrLimit},
		{"a strength above 200", func(f *crop.Field) { f.Base = list(201) }, api.ErrArg},
		{"a strength below 0", func(f *crop.Field) { f.Base = list(5, -1) }, api.ErrArg},
		{"a greater strength after a smaller one", func(f *crop.Field) { f.Base = list(5, 6) }, api.ErrArg},
		{"a greater strength at the end", func(f *crop.Field) { f.Base = list(5, 4, 5) }, api.ErrArg},
		{"Ripe 0", func(f *crop.Field) { f.Ripe = 0 }, api.ErrArg},
		{"Ripe 1", func(f *crop.Field) { f.Ripe = 1 }, api.OK},
		{"Ripe 10", func(f *crop.Field) { f.Ripe = 10 }, api.OK},
		{"Ripe 11", func(f *crop.Field) { f.Ripe = 11 }, api.ErrArg},
		{"Late below 0", func(f *crop.Field) { f.Late = -1 }, api.ErrArg},
		{"Late 0", func(f *crop.Field) { f.Late = 0 }, api.OK},
		{"Late 50", func(f *crop.Field) { f.Late = 50 }, api.OK},
		{"Late 51", func(f *crop.Field) { f.Late = 51 }, api.ErrArg},
		{"Trod below 0", func(f *crop.Field) { f.Trod = -1 }, api.ErrArg},
		{"Trod 0", func(f *crop.Field) { f.Trod = 0 }, api.OK},
		{"Trod 100", func(f *crop.Field) { f.Trod = 100 }, api.OK},
		{"Trod 101", func(f *crop.Field) { f.Trod = 101 }, api.ErrArg},
		{"a crop in each week there is", func(f *crop.Field) { f.Crops = list(0, 4) }, api.OK},
		{"a crop before the weeks", func(f *crop.Field) { f.Crops = list(-1, 4) }, api.ErrArg},
		{"a crop after the weeks", func(f *crop.Field) { f.Crops = list(0, 5) }, api.ErrArg},
		{"more crops than strengths", func(f *crop.Field) { f.Crops = list(0, 1, 2) }, api.ErrArg},
		{"as many crops as strengths", func(f *crop.Field) { f.Base, f.Crops = list(3, 2, 1), list(0, 1, 2) }, api.OK},
		{"a crop twice", func(f *crop.Field) { f.Crops = list(1, 1) }, api.ErrArg},
		{"crops that fall", func(f *crop.Field) { f.Crops = list(2, 1) }, api.ErrArg},
	}
}

func lookChanges() []change {
	return []change{
		{"5 looks", func(f *crop.Field) { f.Looks = make([]crop.Look, 5) }, api.OK},
		{"6 looks", func(f *crop.Field) { f.Looks = make([]crop.Look, 6) }, api.ErrLimit},
		{"6 looks, no Base", func(f *crop.Field) { f.Base, f.Looks = nil, make([]crop.Look, 6) }, api.ErrLimit},
		{"a look before the weeks", func(f *crop.Field) { f.Looks = []crop.Look{look(0, 1, 1), look(-1, 1, 1)} }, api.ErrArg},
		{"a look after the weeks", func(f *crop.Field) { f.Looks = []crop.Look{look(5, 1, 1)} }, api.ErrArg},
		{"a look in the last week", func(f *crop.Field) { f.Looks = []crop.Look{look(4, 1, 1)} }, api.OK},
		{"Weight from 0 to 1000", func(f *crop.Field) { f.Looks = []crop.Look{look(4, 0, 1000)} }, api.OK},
		{"Weight above 1000", func(f *crop.Field) { f.Looks = []crop.Look{look(4, 0, 1001)} }, api.ErrArg},
		{"Weight below 0", func(f *crop.Field) { f.Looks = []crop.Look{look(4, -1, 1)} }, api.ErrArg},
		{"Weight upside down", func(f *crop.Field) { f.Looks = []crop.Look{look(4, 2, 1)} }, api.ErrArg},
		{"2000 truths", func(f *crop.Field) { *f = weeks(to(0, 49), to(11, 50)) }, api.OK},
		{"2000 truths, some wet", func(f *crop.Field) { *f = weeks(to(0, 49), to(11, 20)); f.Wet = list(2, 2) }, api.OK},
		{"2001 truths", func(f *crop.Field) { *f = weeks(to(0, 2), to(0, 22), to(0, 28)) }, api.ErrLimit},
		{"2002 truths, some wet", func(f *crop.Field) { *f = weeks(to(0, 6), to(0, 10), to(0, 12)); f.Wet = list(2, 0, 0) }, api.ErrLimit},
		{"too many truths, and Ripe", func(f *crop.Field) { *f = weeks(to(0, 50), to(0, 50)); f.Ripe = 0 }, api.ErrArg},
		{"too many truths, and 6 looks", func(f *crop.Field) { *f = weeks(to(0, 50), to(0, 50)); f.Looks = make([]crop.Look, 6) }, api.ErrLimit},
		{"only wet is not known", func(f *crop.Field) {
			*f = weeks(make([]crop.Range, 10)...)
			f.Wet = slices.Repeat(list(2), 10)
		}, api.OK},
	}
}

// P2.1: the errors of a field, in their order.
func TestCheckField(t *testing.T) {
	for _, x := range slices.Concat(weekChanges(), careChanges(), lookChanges()) {
		f := example()
		x.make(&f)
		if e := crop.CheckField(f); e != x.want {
			t.Errorf("%s: CheckField: %v", x.name, e)
		}
		if x.want == api.OK {
			continue
		}
		// No plan and no week of the field: the error of the field comes first.
		errors, zero := calls(f, crop.Truth{}, list(-1), -1)
		for name, e := range errors {
			if e != x.want {
				t.Errorf("%s: %s: %v", x.name, name, e)
			}
		}
		if !zero {
			t.Errorf("%s: a result together with an error", x.name)
		}
		if crop.ProveTruth(f, truth(0)) || crop.ProveTruth(f, crop.Truth{}) || crop.ProveWorth(f, nil, 0) {
			t.Errorf("%s: something is proved of a field that is not valid", x.name)
		}
	}
}

// P2.1: the product of the sizes need not fit into an int.
func TestManyTruths(t *testing.T) {
	for many := 2; many <= 10; many++ {
		for high := 31; high <= api.MaxCropGrowth; high++ {
			f := weeks(slices.Repeat([]crop.Range{to(0, high)}, many)...)
			for _, wet := range list(0, 2) {
				f.Wet = slices.Repeat(list(wet), many)
				want := api.ErrLimit
				if many == 2 && wet == 0 && (high+1)*(high+1) <= api.MaxCropTruths {
					want = api.OK
				}
				if e := crop.CheckField(f); e != want {
					t.Errorf("%d weeks of 0..%d, Wet %d: %v", many, high, wet, e)
				}
			}
		}
	}
}

// P2.1, P2.2, P2.3, P2.4, P2.5: the errors of calls with a valid field.
func TestErrors(t *testing.T) {
	none := example(isLook(), isFalse())
	other := truth(0)
	other.Growth[0] = 13
	for _, x := range []struct {
		name                     string
		f                        crop.Field
		y                        crop.Truth
		plan                     []int
		week                     int
		play, plans, weeks, best api.Errno
	}{
		{"all is there", example(), truth(0), list(0, 4), 4, api.OK, api.OK, api.OK, api.OK},
		{"no crops", example(), truth(1), nil, 0, api.OK, api.OK, api.OK, api.OK},
		{"no truth of the field", example(), other, nil, 0, api.ErrRange, api.OK, api.OK, api.OK},
		{"below", example(), truth(0), list(-1), -1, api.ErrRange, api.ErrRange, api.ErrRange, api.OK},
		{"above", example(), truth(0), list(1, 5), 5, api.ErrRange, api.ErrRange, api.ErrRange, api.OK},
		{"far off", example(), truth(0), list(math.MinInt, math.MaxInt), math.MaxInt, api.ErrRange, api.ErrRange, api.ErrRange, api.OK},
		{"too many crops", example(), truth(0), list(1, 2, 3), 0, api.ErrRange, api.ErrRange, api.OK, api.OK},
		{"a crop twice", example(), truth(0), list(1, 1), 0, api.ErrRange, api.ErrRange, api.OK, api.OK},
		{"crops that fall", example(), truth(0), list(2, 1), 0, api.ErrRange, api.ErrRange, api.OK, api.OK},
		{"no truth", none, truth(0), list(0, 4), 4, api.OK, api.ErrFalse, api.ErrFalse, api.ErrFalse},
		{"no truth, below", none, truth(0), list(-1), -1, api.ErrRange, api.ErrRange, api.ErrRange, api.ErrFalse},
		{"no truth, above", none, truth(0), list(5), 5, api.ErrRange, api.ErrRange, api.ErrRange, api.ErrFalse},
	} {
		first := api.OK
		if isRight(x.f) {
			first = api.ErrNone
		}
		errors, zero := calls(x.f, x.y, x.plan, x.week)
		for name, want := range map[string]api.Errno{"Play": x.play, "Bounds": x.plans, "Worth": x.plans, "Worst": x.plans, "Standing": x.weeks, "Best": x.best, "First": first, "Leave": api.OK} {
			if errors[name] != want {
				t.Errorf("%s: %s: %v", x.name, name, errors[name])
			}
		}
		if !zero {
			t.Errorf("%s: a result together with an error", x.name)
		}
		if crop.ProveWorth(x.f, x.plan, math.MinInt) != (x.plans == api.OK) {
			t.Errorf("%s: ProveWorth", x.name)
		}
	}
}

// P2.1: truths that have not one number of each week as it must be.
func TestNoTruths(t *testing.T) {
	for _, x := range []struct {
		name   string
		change func(y *crop.Truth)
	}{
		{"nothing", func(y *crop.Truth) { *y = crop.Truth{} }},
		{"no Growth", func(y *crop.Truth) { y.Growth = nil }},
		{"no Wet", func(y *crop.Truth) { y.Wet = nil }},
		{"Growth too short", func(y *crop.Truth) { y.Growth = y.Growth[:4] }},
		{"Growth too long", func(y *crop.Truth) { y.Growth = append(y.Growth, 0) }},
		{"Wet too short", func(y *crop.Truth) { y.Wet = y.Wet[:4] }},
		{"Wet too long", func(y *crop.Truth) { y.Wet = append(y.Wet, 0) }},
		{"numbers of Wet in Growth", func(y *crop.Truth) { y.Growth, y.Wet = append(y.Growth, 0), y.Wet[1:] }},
		{"Growth too small", func(y *crop.Truth) { y.Growth[0] = 9 }},
		{"Growth too great", func(y *crop.Truth) { y.Growth[4] = 3 }},
		{"wet, but it is dry", func(y *crop.Truth) { y.Wet[0] = 1 }},
		{"dry, but it is wet", func(y *crop.Truth) { y.Wet[3] = 0 }},
		{"it is not known", func(y *crop.Truth) { y.Wet[1] = 2 }},
		{"Wet below 0", func(y *crop.Truth) { y.Wet[1] = -1 }},
	} {
		y := truth(0)
		x.change(&y)
		if l, e := crop.Play(example(), y, list(1, 3)); l != nil || e != api.ErrRange {
			t.Errorf("%s: Play: %v, %v", x.name, l, e)
		}
		if crop.ProveTruth(example(), y) {
			t.Errorf("%s: ProveTruth", x.name)
		}
	}
	open := weeks(to(0, 1), to(0, 1))
	open.Wet = list(2, 2)
	for growth := range 5 {
		for wet := range 5 {
			y := crop.Truth{Growth: make([]int, growth), Wet: make([]int, wet)}
			want := growth == 2 && wet == 2
			if _, e := crop.Play(open, y, nil); (e == api.OK) != want || crop.ProveTruth(open, y) != want {
				t.Errorf("Play and ProveTruth of %v: %v", y, e)
			}
		}
	}
	if !crop.ProveTruth(example(), truth(0)) || !crop.ProveTruth(example(), truth(1)) {
		t.Error("ProveTruth of the truths of the example")
	}
	if crop.ProveTruth(example(isLook()), truth(0)) || !crop.ProveTruth(example(look(2, 24, 24)), truth(0)) {
		t.Error("ProveTruth with a look")
	}
	if l, e := crop.Play(example(isLook()), truth(0), list(1)); len(l) != 1 || e != api.OK {
		t.Errorf("Play of a truth in which a look is wrong: %v, %v", l, e)
	}
}

// The examples of the chapter.
func TestExamples(t *testing.T) {
	for wet, want := range [][]crop.Crop{{{Weight: 18, Strength: 20, Worth: 360}, {Weight: 5, Strength: 15, Worth: 75}}, {{Weight: 9, Strength: 20, Worth: 180}, {Weight: 5, Strength: 15, Worth: 75}}} {
		if l, e := crop.Play(example(), truth(wet), list(1, 3)); e != api.OK || !slices.Equal(l, want) {
			t.Errorf("Play with Wet %d: %v, %v", wet, l, e)
		}
	}
	want := []crop.Bound{{Weight: to(24, 26), Strength: 16, Worth: to(384, 416)}, {Weight: to(6, 7), Strength: 15, Worth: to(90, 105)}}
	if l, e := crop.Bounds(example(), list(2, 4)); e != api.OK || !slices.Equal(l, want) {
		t.Errorf("Bounds: %v, %v", l, e)
	}
	for _, x := range []struct {
		f    crop.Field
		plan []int
		want crop.Range
	}{{example(), list(2, 4), to(474, 521)}, {example(), list(1, 3), to(255, 490)}, {example(), nil, to(0, 0)}, {example(isLook()), list(2, 4), to(490, 505)}} {
		if r, e := crop.Worth(x.f, x.plan); e != api.OK || r != x.want {
			t.Errorf("Worth of %v, %v: %v, %v", x.f, x.plan, r, e)
		}
	}
	if plan, worth, e := crop.Best(example()); e != api.OK || !slices.Equal(plan, list(2, 4)) || worth != 474 {
		t.Errorf("Best: %v, %d, %v", plan, worth, e)
	}
	for week, want := range map[int]crop.Range{2: to(24, 26), 4: to(30, 33)} {
		if r, e := crop.Standing(example(), week); e != api.OK || r != want {
			t.Errorf("Standing in the week %d: %v, %v", week, r, e)
		}
	}
	if n, e := crop.First(example(isLook(), isFalse())); e != api.OK || n != 1 {
		t.Errorf("First: %d, %v", n, e)
	}
	if l, e := crop.Leave(example(isLook(), isFalse())); e != api.OK || !slices.Equal(l, list(0)) {
		t.Errorf("Leave: %v, %v", l, e)
	}
}

// P2.1: by the oracle.
func TestPlayAndProveTruth(t *testing.T) {
	for r, f := range randomFields(300, 3) {
		for _, y := range anyTruths(f) {
			want := !slices.ContainsFunc(f.Looks, func(l crop.Look) bool { return !right(f, l, y) })
			if crop.ProveTruth(f, y) != want {
				t.Fatalf("ProveTruth of %v, %v: %v", f, y, !want)
			}
			plan := randomPlan(r, f)
			if l, e := crop.Play(f, y, plan); e != api.OK || !slices.Equal(l, cropsOf(f, y, plan)) {
				t.Fatalf("Play of %v, %v, %v: %v, %v; not %v", f, y, plan, l, e, cropsOf(f, y, plan))
			}
		}
	}
}

// P2.1: what a crop is at its edges.
func TestEdgesOfCrops(t *testing.T) {
	f := crop.Field{Last: 9, Growth: slices.Repeat([]crop.Range{to(7, 7)}, 10), Wet: list(0, 1, 0, 1, 0, 1, 0, 1, 0, 1), Base: list(9, 9, 5), Ripe: 3, Late: 2, Trod: 33}
	y := crop.Truth{Growth: slices.Repeat(list(7), 10), Wet: f.Wet}
	for _, x := range []struct {
		plan []int
		want crop.Crop // the last one of the plan
	}{
		{list(0), crop.Crop{Weight: 7, Strength: 9, Worth: 63}},
		{list(2), crop.Crop{Weight: 21, Strength: 9, Worth: 189}},       // just ripe: the age is 3
		{list(3), crop.Crop{Weight: 19, Strength: 7, Worth: 133}},       // 28 less 9.24, rounded down
		{list(8), crop.Crop{Weight: 63, Strength: 0, Worth: 0}},         // 9 less 6 times 2 is not below 0
		{list(0, 3), crop.Crop{Weight: 15, Strength: 9, Worth: 135}},    // 21 less 6.93, rounded down
		{list(0, 4), crop.Crop{Weight: 28, Strength: 7, Worth: 196}},    // one week late
		{list(0, 1, 6), crop.Crop{Weight: 35, Strength: 1, Worth: 35}},  // two weeks late
		{list(0, 1, 2), crop.Crop{Weight: 7, Strength: 5, Worth: 35}},   // the crop before it was wet
		{list(7, 8, 9), crop.Crop{Weight: 5, Strength: 5, Worth: 25}},   // 7 less 2.31, rounded down
		{list(0, 1, 9), crop.Crop{Weight: 38, Strength: 0, Worth: 0}},   // 56 less 18.48, rounded down
		{list(4, 9), crop.Crop{Weight: 24, Strength: 5, Worth: 24 * 5}}, // 35 less 11.55, rounded down
	} {
		l, e := crop.Play(f, y, x.plan)
		if e != api.OK || len(l) != len(x.plan) || l[len(l)-1] != x.want {
			t.Errorf("Play of %v: %v, %v", x.plan, l, e)
		}
	}
	f.Trod = 100
	if l, _ := crop.Play(f, y, list(1, 3)); !slices.Equal(l, []crop.Crop{{Strength: 9}, {Strength: 9}}) {
		t.Errorf("Play if all is trodden: %v", l)
	}
	f.Trod = 0
	if l, _ := crop.Play(f, y, list(1, 3)); !slices.Equal(l, []crop.Crop{{Weight: 14, Strength: 9, Worth: 126}, {Weight: 14, Strength: 9, Worth: 126}}) {
		t.Errorf("Play if nothing is trodden: %v", l)
	}
	if l, e := crop.Play(f, y, nil); e != api.OK || len(l) > 0 {
		t.Errorf("Play without crops: %v, %v", l, e)
	}
}

// P2.2: by the oracle.
func TestBounds(t *testing.T) {
	for r, f := range randomFields(400, 3) {
		truths := truthsOf(f)
		if len(truths) == 0 {
			continue
		}
		plan := randomPlan(r, f)
		bounds, e := crop.Bounds(f, plan)
		if e != api.OK || len(bounds) != len(plan) {
			t.Fatalf("Bounds of %v, %v: %v, %v", f, plan, bounds, e)
		}
		for i, b := range bounds {
			want := crop.Bound{
				Weight:   rangeOf(truths, func(y crop.Truth) int { return cropsOf(f, y, plan)[i].Weight }),
				Strength: cropsOf(f, truths[0], plan)[i].Strength,
				Worth:    rangeOf(truths, func(y crop.Truth) int { return cropsOf(f, y, plan)[i].Worth }),
			}
			if b != want {
				t.Fatalf("Bounds of %v, %v: %v; not %v", f, plan, b, want)
			}
		}
		worth := rangeOf(truths, func(y crop.Truth) int { return worthOf(f, y, plan) })
		if r, e := crop.Worth(f, plan); e != api.OK || r != worth {
			t.Fatalf("Worth of %v, %v: %v, %v; not %v", f, plan, r, e, worth)
		}
		for week := range f.Last + 1 {
			want := rangeOf(truths, func(y crop.Truth) int { return onField(y, f.Crops, week) })
			if r, e := crop.Standing(f, week); e != api.OK || r != want {
				t.Fatalf("Standing of %v, %d: %v, %v; not %v", f, week, r, e, want)
			}
		}
	}
}

// P2.3: by the oracle.
func TestWorst(t *testing.T) {
	for r, f := range randomFields(300, 3) {
		truths := truthsOf(f)
		if len(truths) == 0 {
			continue
		}
		plan := randomPlan(r, f)
		sure := rangeOf(truths, func(y crop.Truth) int { return worthOf(f, y, plan) }).Lo
		y, e := crop.Worst(f, plan)
		if e != api.OK || !slices.ContainsFunc(truths, func(z crop.Truth) bool { return slices.Equal(y.Growth, z.Growth) && slices.Equal(y.Wet, z.Wet) }) {
			t.Fatalf("Worst of %v, %v: %v, %v", f, plan, y, e)
		}
		if worthOf(f, y, plan) != sure {
			t.Fatalf("Worst of %v, %v: %v, not of the worth %d", f, plan, y, sure)
		}
		for worth, want := range map[int]bool{math.MinInt: true, -1: true, sure - 1: true, sure: true, sure + 1: false, math.MaxInt: false} {
			if crop.ProveWorth(f, plan, worth) != want {
				t.Fatalf("ProveWorth of %v, %v, %d: %v", f, plan, worth, !want)
			}
		}
	}
}

// bestOf tries plans in lexicographic order, so that the first one counts.
func bestOf(f crop.Field) (best []int, worth int) {
	truths := truthsOf(f)
	worth = -1
	for _, plan := range plansOf(f) {
		if sure := rangeOf(truths, func(y crop.Truth) int { return worthOf(f, y, plan) }).Lo; sure > worth {
			best, worth = plan, sure
		}
	}
	return best, worth
}

// P2.4: by the oracle, which tries every plan.
func TestBest(t *testing.T) {
	for _, f := range randomFields(300, 2) {
		if !isRight(f) {
			continue
		}
		best, worth := bestOf(f)
		if l, n, e := crop.Best(f); e != api.OK || !slices.Equal(l, best) || n != worth {
			t.Fatalf("Best of %v: %v, %d, %v; not %v, %d", f, l, n, e, best, worth)
		}
	}
}

// P2.4: of several best plans the one that is lexicographically first, whatever
// its length is.
func TestBestOfSeveral(t *testing.T) {
	for _, x := range []struct {
		name string
		make func(f *crop.Field)
		best []int
	}{
		{"nothing grows", func(f *crop.Field) { f.Growth = make([]crop.Range, 4) }, nil},
		{"no strength", func(f *crop.Field) { f.Base = list(0, 0, 0) }, nil},
		{"it grows only at first", func(f *crop.Field) { f.Growth = []crop.Range{to(5, 5), to(0, 0), to(0, 0), to(0, 0)} }, list(0)},
		{"it grows only at last", func(f *crop.Field) { f.Growth = []crop.Range{to(0, 0), to(0, 0), to(0, 0), to(5, 5)} }, list(0, 1, 3)}, // longer than 3 alone, but before it
		{"all is one, whenever it is cropped", func(f *crop.Field) {}, list(0, 1, 3)},
		{"only one crop", func(f *crop.Field) { f.Base = list(9) }, list(3)},
		{"a crop more is worth nothing", func(f *crop.Field) { f.Base = list(9, 0, 0) }, list(3)},
	} {
		f := crop.Field{Last: 3, Growth: slices.Repeat([]crop.Range{to(5, 5)}, 4), Wet: make([]int, 4), Base: list(9, 9, 9), Ripe: 10}
		x.make(&f)
		want, _ := bestOf(f)
		if l, _, e := crop.Best(f); e != api.OK || !slices.Equal(l, x.best) || !slices.Equal(want, x.best) {
			t.Errorf("%s: Best: %v, %v", x.name, l, e)
		}
	}
}

// P2.5: by the oracle, which tries every set of looks.
func TestFirstAndLeave(t *testing.T) {
	wrong := 0
	for _, f := range randomFields(400, 5) {
		first, e := 0, api.ErrNone
		for n := range f.Looks {
			before := f
			before.Looks = f.Looks[:n+1]
			if !isRight(before) {
				first, e, wrong = n, api.OK, wrong+1
				break
			}
		}
		if n, g := crop.First(f); n != first || g != e {
			t.Fatalf("First of %v: %d, %v; not %d, %v", f, n, g, first, e)
		}
		sets := oracle.ShortestFirst(len(f.Looks))
		smallest := sets[slices.IndexFunc(sets, func(l []int) bool { return isRight(without(f, l)) })]
		if l, g := crop.Leave(f); g != api.OK || !slices.Equal(l, smallest) {
			t.Fatalf("Leave of %v: %v, %v; not %v", f, l, g, smallest)
		}
	}
	if wrong < 50 {
		t.Errorf("only %d of the fields have a wrong look", wrong)
	}
}

// P2.5: all looks have to be left out.
func TestLeaveAll(t *testing.T) {
	f := weeks(to(3, 4))
	f.Looks = slices.Repeat([]crop.Look{look(0, 5, 1000)}, 5)
	if l, e := crop.Leave(f); e != api.OK || !slices.Equal(l, list(0, 1, 2, 3, 4)) {
		t.Errorf("Leave: %v, %v", l, e)
	}
	if n, e := crop.First(f); e != api.OK || n != 0 {
		t.Errorf("First: %d, %v", n, e)
	}
}
