package oracle_test

import (
	"fmt"
	"slices"
	"testing"

	"isatis/cask"
	"isatis/oracle"
)

func TestShortestFirst(t *testing.T) {
	for size, want := range [][][]int{
		{{}},
		{{}, {0}},
		{{}, {0}, {1}, {0, 1}},
		{{}, {0}, {1}, {2}, {0, 1}, {0, 2}, {1, 2}, {0, 1, 2}},
	} {
		if got := oracle.ShortestFirst(size); !slices.EqualFunc(got, want, slices.Equal[[]int]) {
			t.Errorf("ShortestFirst of %d: %v", size, got)
		}
	}
}

func TestOneOfEach(t *testing.T) {
	type ends struct{ Lo, Hi int }
	for _, x := range []struct {
		ranges []ends
		want   [][]int
	}{
		{nil, [][]int{{}}},
		{[]ends{{-1, 1}}, [][]int{{-1}, {0}, {1}}},
		{[]ends{{1, 2}, {5, 5}, {0, 1}}, [][]int{{1, 5, 0}, {1, 5, 1}, {2, 5, 0}, {2, 5, 1}}},
		{[]ends{{0, 1}, {1, 0}}, nil},
	} {
		if got := oracle.OneOfEach(x.ranges...); !slices.EqualFunc(got, x.want, slices.Equal[[]int]) {
			t.Errorf("OneOfEach of %v: %v", x.ranges, got)
		}
	}
}

func TestWithout(t *testing.T) {
	list := []string{"a", "b", "c"}
	for _, x := range []struct {
		places []int
		want   []string
	}{
		{nil, []string{"a", "b", "c"}},
		{[]int{1}, []string{"a", "c"}},
		{[]int{2, 0}, []string{"b"}},
		{[]int{0, 1, 2}, nil},
		{[]int{-1, 3}, []string{"a", "b", "c"}},
	} {
		if got := oracle.Without(list, x.places); !slices.Equal(got, x.want) {
			t.Errorf("Without %v: %v", x.places, got)
		}
	}
}

func TestSum(t *testing.T) {
	if oracle.Sum(nil) != 0 || oracle.Sum([]int{3, -5, 1}) != -1 {
		t.Error("Sum")
	}
}

func TestDown(t *testing.T) {
	for _, x := range []struct{ sum, parts, want int }{{0, 3, 0}, {2, 3, 0}, {3, 3, 1}, {8, 3, 2}, {9, 3, 3}, {7, 1, 7}} {
		if got := oracle.Down(x.sum, x.parts); got != x.want {
			t.Errorf("Down of %d, %d: %d", x.sum, x.parts, got)
		}
	}
}

// cellar is that of the examples of layer 5, with trials.
func cellar(trials ...cask.Trial) cask.Cellar {
	return cask.Cellar{Heaps: []cask.Range{{Lo: 40, Hi: 42}, {Lo: 60, Hi: 63}}, Casks: [][]int{{10, 10}, {5, 15}}, Trials: trials}
}

func TestStrengthOf(t *testing.T) {
	for _, x := range []struct {
		weights, heaps []int
		want           int
	}{
		{[]int{10, 10}, []int{40, 61}, 50},
		{[]int{10, 10}, []int{41, 62}, 51},
		{[]int{5, 15}, []int{41, 62}, 56},
		{[]int{0, 1}, []int{100, 7}, 7},
	} {
		if got := oracle.StrengthOf(x.weights, x.heaps); got != x.want {
			t.Errorf("StrengthOf %v, %v: %d", x.weights, x.heaps, got)
		}
	}
}

func TestTruthsOf(t *testing.T) {
	ofCask := cask.Trial{Cask: true, Strength: cask.Range{Lo: 52, Hi: 52}}
	ofHeap := cask.Trial{Number: 1, Strength: cask.Range{Lo: 0, Hi: 62}}
	for _, x := range []struct {
		c    cask.Cellar
		want [][]int
	}{
		{cellar(ofCask), [][]int{{41, 63}, {42, 62}, {42, 63}}},
		{cellar(ofCask, ofHeap), [][]int{{42, 62}}},
		{cellar(ofHeap, cask.Trial{Strength: cask.Range{Lo: 43, Hi: 100}}), nil},
		{cask.Cellar{Heaps: []cask.Range{{Lo: 4, Hi: 6}}}, [][]int{{4}, {5}, {6}}},
	} {
		if got := oracle.TruthsOf(x.c); !slices.EqualFunc(got, x.want, slices.Equal[[]int]) {
			t.Errorf("TruthsOf %v: %v", x.c, got)
		}
		for _, heaps := range oracle.OneOfEach(x.c.Heaps...) {
			is := slices.ContainsFunc(x.want, func(l []int) bool { return slices.Equal(l, heaps) })
			if oracle.AllRight(x.c, heaps) != is {
				t.Errorf("AllRight of %v, %v", x.c, heaps)
			}
		}
	}
}

// heard is a test that remembers what it is told.
type heard []string

func (h *heard) Helper() {}

func (h *heard) Errorf(format string, values ...any) { *h = append(*h, fmt.Sprintf(format, values...)) }

func TestSeen(t *testing.T) {
	s := oracle.Seen{}
	for n := range 5 {
		s.Count("small", n < 2)
		s.Count("odd", n%2 == 1)
		s.Count("any", true)
	}
	var h heard
	s.Need(&h, 3, "small", "any", "none", "odd")
	want := heard{"only 2 of the inputs: small", "only 0 of the inputs: none", "only 2 of the inputs: odd"}
	if !slices.Equal(h, want) {
		t.Errorf("Need: %v", h)
	}
}
