package oracle_test

import (
	"slices"
	"testing"

	"isatis/oracle"
)

func TestShortestFirst(t *testing.T) {
	for size, want := range [][][]int{
		{{}},
		{{}, {0}},
		{{}, {0}, {1}, {0, 1}},
		{{}, {0}, {1}, {2}, {0, 1}, {0, 2}, {1, 2}, {0, 1, 2}},
	} {
		if got := oracle.ShortestFirst(size); !slices.EqualFunc(got, want, slices.Equal[[]int]) {
			t.Errorf("ShortestFirst of %d: %v", size, got)
		}
	}
}

func TestOneOfEach(t *testing.T) {
	type ends struct{ Lo, Hi int }
	for _, x := range []struct {
		ranges []ends
		want   [][]int
	}{
		{nil, [][]int{{}}},
		{[]ends{{-1, 1}}, [][]int{{-1}, {0}, {1}}},
		{[]ends{{1, 2}, {5, 5}, {0, 1}}, [][]int{{1, 5, 0}, {1, 5, 1}, {2, 5, 0}, {2, 5, 1}}},
		{[]ends{{0, 1}, {1, 0}}, nil},
	} {
		if got := oracle.OneOfEach(x.ranges...); !slices.EqualFunc(got, x.want, slices.Equal[[]int]) {
			t.Errorf("OneOfEach of %v: %v", x.ranges, got)
		}
	}
}

func TestWithout(t *testing.T) {
	list := []string{"a", "b", "c"}
	for _, x := range []struct {
		places []int
		want   []string
	}{
		{nil, []string{"a", "b", "c"}},
		{[]int{1}, []string{"a", "c"}},
		{[]int{2, 0}, []string{"b"}},
		{[]int{0, 1, 2}, nil},
		{[]int{-1, 3}, []string{"a", "b", "c"}},
	} {
		if got := oracle.Without(list, x.places); !slices.Equal(got, x.want) {
			t.Errorf("Without %v: %v", x.places, got)
		}
	}
}
