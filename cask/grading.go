package cask

import (
	"isatis/api"
	"isatis/lists"
)

// grading is a cellar at work for a grade.
type grading struct {
	*work
	grade int
}

// verdict says which casks are of the grade.
type verdict [api.MaxCaskCasks]bool

func (g grading) judge(own truth) (v verdict) {
	for number := range len(g.Casks) {
		v[number] = g.ofCask(own, number) >= g.grade
	}
	return v
}

// agree is for at least one truth.
func (g grading) agree(truths []truth) bool {
	first := g.judge(truths[0])
	return lists.All(truths, func(own truth) bool { return g.judge(own) == first })
}

func (g grading) decides(things []int) bool { return g.settles(g.truths, things) }

// showing is a thing with what it showed when it was tried exactly.
type showing struct{ thing, strength int }

// settles reports whether these truths agree as far as the things show the same
// in them. It tries one thing, and goes on with those truths that are left
// then.
func (g grading) settles(truths []truth, things []int) bool {
	agreed := g.agree(truths)
	if agreed || len(things) == 0 {
		return agreed
	}
	left := map[showing][]truth{}
	s := g.source(things[0])
	for _, own := range truths {
		shown := showing{thing: things[0], strength: g.strength(own, s)}
		left[shown] = append(left[shown], own)
	}
	for _, same := range left {
		if !g.settles(same, things[1:]) {
			return false
		}
	}
	return true
}
