package cellar_test

import (
	"slices"
	"testing"

	"isatis/cask"
	"isatis/cellar"
	"isatis/oracle"
)

func to(low, high int) cask.Range { return cask.Range{Lo: low, Hi: high} }

func cellars() []cask.Cellar {
	two := cask.Cellar{Heaps: []cask.Range{to(40, 42), to(60, 63)}, Casks: [][]int{{10, 10}, {5, 15}}}
	tried, wrong := two, two
	tried.Trials = []cask.Trial{{Cask: true, Strength: to(52, 52)}}
	wrong.Trials = []cask.Trial{{Cask: true, Strength: to(52, 52)}, {Strength: to(40, 40)}}
	return []cask.Cellar{
		two, tried, wrong,
		{Heaps: []cask.Range{to(7, 7)}},
		{Heaps: []cask.Range{to(0, 100)}, Casks: [][]int{{30}}, Trials: []cask.Trial{{Strength: to(99, 100)}}},
		{Heaps: []cask.Range{to(1, 3), to(50, 52), to(98, 100)}, Casks: [][]int{{1, 2, 3}, {0, 7, 0}, {30, 30, 30}}},
	}
}

func TestTruths(t *testing.T) {
	for _, c := range cellars() {
		want := oracle.TruthsOf(c)
		for heaps, casks := range cellar.Truths(c) {
			if len(want) == 0 || !slices.Equal(heaps, want[0]) || len(casks) != len(c.Casks) {
				t.Fatalf("Truths of %v: %v, %v; not %v", c, heaps, casks, want)
			}
			for number, weights := range c.Casks {
				if casks[number] != oracle.StrengthOf(weights, heaps) {
					t.Fatalf("Truths of %v: %v, %v", c, heaps, casks)
				}
			}
			want = want[1:]
		}
		if len(want) > 0 {
			t.Errorf("Truths of %v: not %v", c, want)
		}
	}
}

func TestLeaving(t *testing.T) {
	many := 0
	for range cellar.Truths(cellars()[0]) {
		if many++; many == 5 {
			break
		}
	}
	if many != 5 {
		t.Errorf("left after %d truths", many)
	}
}
