package lists_test

import (
	"slices"
	"testing"

	"isatis/lists"
)

func TestAll(t *testing.T) {
	even := func(n int) bool { return n%2 == 0 }
	for _, x := range []struct {
		list []int
		want bool
	}{{nil, true}, {[]int{2}, true}, {[]int{2, 4}, true}, {[]int{2, 3}, false}, {[]int{3, 2}, false}} {
		if lists.All(x.list, even) != x.want {
			t.Errorf("All of %v", x.list)
		}
	}
}

func TestRises(t *testing.T) {
	for _, x := range []struct {
		list []int
		want bool
	}{{nil, true}, {[]int{5}, true}, {[]int{-1, 0, 7}, true}, {[]int{1, 1}, false}, {[]int{0, 2, 1}, false}} {
		if lists.Rises(x.list) != x.want {
			t.Errorf("Rises of %v", x.list)
		}
	}
}

func TestLeast(t *testing.T) {
	if lists.Least(3) != 3 || lists.Least(3, 4) != 3 || lists.Least(3, 4, -2, 5) != -2 {
		t.Error("Least")
	}
}

func TestSum(t *testing.T) {
	for _, x := range []struct {
		list []int
		want int
	}{{nil, 0}, {[]int{7}, 7}, {[]int{3, -5, 1}, -1}} {
		if got := lists.Sum(x.list); got != x.want {
			t.Errorf("Sum of %v: %d", x.list, got)
		}
	}
}

func TestWithout(t *testing.T) {
	for _, x := range []struct {
		list   string
		places []int
		want   string
	}{{"abcd", nil, "abcd"}, {"abcd", []int{0}, "bcd"}, {"abcd", []int{1, 3}, "ac"}, {"abcd", []int{0, 1, 2, 3}, ""}, {"aba", []int{0}, "ba"}, {"", nil, ""}, {"ab", []int{-1, 2}, "ab"}} {
		list := []byte(x.list)
		if got := lists.Without(list, x.places); string(got) != x.want || string(list) != x.list {
			t.Errorf("Without of %s, %v: %s", x.list, x.places, got)
		}
	}
}

func TestIncreasing(t *testing.T) {
	for _, x := range []struct {
		size, length int
		want         [][]int
	}{
		{3, 0, [][]int{{}}},
		{0, 0, [][]int{{}}},
		{3, 1, [][]int{{0}, {1}, {2}}},
		{3, 2, [][]int{{0, 1}, {0, 2}, {1, 2}}},
		{3, 3, [][]int{{0, 1, 2}}},
		{3, 4, nil},
	} {
		var got [][]int
		for list := range lists.Increasing(x.size, x.length) {
			got = append(got, slices.Clone(list))
		}
		if !slices.EqualFunc(got, x.want, slices.Equal[[]int]) {
			t.Errorf("Increasing of %d, %d: %v", x.size, x.length, got)
		}
	}
	many := 0
	for range lists.Increasing(5, 2) {
		if many++; many == 3 {
			break
		}
	}
	if many != 3 {
		t.Errorf("left after %d lists", many)
	}
}

func TestFromTo(t *testing.T) {
	for _, x := range []struct {
		low, high int
		want      []int
	}{{0, 2, []int{0, 1, 2}}, {-1, 0, []int{-1, 0}}, {5, 5, []int{5}}, {1, 0, nil}} {
		if got := lists.FromTo(x.low, x.high); !slices.Equal(got, x.want) {
			t.Errorf("FromTo of %d, %d: %v", x.low, x.high, got)
		}
	}
}

func TestChoices(t *testing.T) {
	for _, x := range []struct {
		parts, want []string
	}{
		{nil, []string{""}},
		{[]string{"ba"}, []string{"b", "a"}},
		{[]string{"ab", "c", "de"}, []string{"acd", "ace", "bcd", "bce"}},
		{[]string{"ab", ""}, nil},
	} {
		var parts [][]byte
		for _, part := range x.parts {
			parts = append(parts, []byte(part))
		}
		var got []string
		for list := range lists.Choices(parts) {
			got = append(got, string(list))
		}
		if !slices.Equal(got, x.want) {
			t.Errorf("Choices of %q: %q", x.parts, got)
		}
	}
	many := 0
	for range lists.Choices([][]int{{1, 2}, {3, 4, 5}}) {
		if many++; many == 4 {
			break
		}
	}
	if many != 4 {
		t.Errorf("left after %d lists", many)
	}
}

func TestShortest(t *testing.T) {
	for _, x := range []struct {
		sum  int
		want []int
	}{{0, nil}, {3, []int{3}}, {4, []int{4}}, {5, []int{1, 4}}, {6, []int{2, 4}}, {9, []int{2, 3, 4}}, {11, nil}} {
		s := lists.Search[int]{Of: x.sum, Size: 5, Must: func(sum int, list []int) bool {
			for _, n := range list {
				sum -= n
			}
			return sum == 0
		}}
		if got := s.Shortest(); !slices.Equal(got, x.want) {
			t.Errorf("Shortest of the sum %d: %v", x.sum, got)
		}
	}
}
