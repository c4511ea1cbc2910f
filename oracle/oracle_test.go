package oracle_test

import (
	"slices"
	"testing"

	"isatis/oracle"
)

func TestShortestFirst(t *testing.T) {
	for size, want := range [][][]int{
		{{}},
		{{}, {0}},
		{{}, {0}, {1}, {0, 1}},
		{{}, {0}, {1}, {2}, {0, 1}, {0, 2}, {1, 2}, {0, 1, 2}},
	} {
		if got := oracle.ShortestFirst(size); !slices.EqualFunc(got, want, slices.Equal[[]int]) {
			t.Errorf("ShortestFirst of %d: %v", size, got)
		}
	}
}
