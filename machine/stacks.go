package machine

import (
	"slices"

	"forthwith/api"
)

// cells is the stack that words take from and put on.
type cells struct {
	cell  [api.MaxDepth]int
	depth int
}

func (c *cells) put(list ...int) { c.depth += copy(c.cell[c.depth:], list) }

func (c *cells) top() int { return c.cell[c.depth-1] }

func (c *cells) take() int {
	c.depth--
	return c.cell[c.depth]
}

// Stack is a copy of the cells, the topmost last.
func (c *cells) Stack() []int { return slices.Clone(c.cell[:c.depth]) }

// loops are those that are entered and not left, the innermost last.
type loops struct {
	entered []loop
}

type loop struct {
	number, end int
}

// enter begins a loop, unless there is no number to do.
func (l *loops) enter(beginning, end int) bool {
	if beginning >= end {
		return false
	}
	l.entered = append(l.entered, loop{beginning, end})
	return true
}

// number is the one that the innermost loop is at.
func (l *loops) number() int { return l.entered[len(l.entered)-1].number }

// again goes on to the innermost loop's next number, or leaves the loop, if that was the last.
func (l *loops) again() bool {
	inner := len(l.entered) - 1
	l.entered[inner].number++
	if l.entered[inner].number < l.entered[inner].end {
		return true
	}
	l.entered = l.entered[:inner]
	return false
}

// calls are where to go on behind the words that are begun and not ended, but for the outermost.
type calls struct {
	places []int
}

func (c *calls) call(place int) { c.places = append(c.places, place) }

// caller forgets the last call and gives its place; there is none in the outermost word.
func (c *calls) caller() (int, bool) {
	last := len(c.places) - 1
	if last < 0 {
		return 0, false
	}
	place := c.places[last]
	c.places = c.places[:last]
	return place, true
}
