// Package effect tells ahead of any run how deep items make the stack, and how many steps they take at most (P6).
package effect

import "forthwith/api"

// Effect is what items do to the stack's depth. The zero Effect is that of no items.
type Effect struct {
	Need, Net, High int
}

func of(takes, puts int) Effect {
	return Effect{Need: takes, Net: puts - takes, High: max(0, puts-takes)}
}

// Then is this, and the next behind it.
func (e Effect) Then(next Effect) Effect {
	return Effect{
		Need: max(e.Need, next.Need-e.Net),
		Net:  e.Net + next.Net,
		High: max(e.High, e.Net+next.High),
	}
}

// Or is this or the other, of the same net.
func (e Effect) Or(other Effect) Effect {
	return Effect{
		Need: max(e.Need, other.Need),
		Net:  e.Net,
		High: max(e.High, other.High),
	}
}

// Agrees tells whether both leave the stack equally deep.
func (e Effect) Agrees(other Effect) bool { return e.Net == other.Net }

// Level tells whether the stack is as deep behind as ahead.
func (e Effect) Level() bool { return e.Net == 0 }

// Timed is an effect with steps, and with whether some `if` is among the items, done or not.
type Timed struct {
	Effect
	Steps    int
	Branches bool
}

// Step is one step that takes and puts so many cells.
func Step(takes, puts int) Timed {
	return Timed{Effect: of(takes, puts), Steps: 1}
}

// Then is this, and the next behind it.
func (t Timed) Then(next Timed) Timed {
	return Timed{
		Effect:   t.Effect.Then(next.Effect),
		Steps:    capped(t.Steps + next.Steps),
		Branches: t.Branches || next.Branches,
	}
}

// Or is this or the other, of the same net.
func (t Timed) Or(other Timed) Timed {
	return Timed{
		Effect:   t.Effect.Or(other.Effect),
		Steps:    max(t.Steps, other.Steps),
		Branches: t.Branches || other.Branches,
	}
}

// Times is this, of net 0, so many times (at most MaxTimes).
func (t Timed) Times(times int) Timed {
	if times == 0 {
		return Timed{Branches: t.Branches}
	}
	t.Steps = capped(t.Steps * times)
	return t
}

// TooLong tells whether the steps are more than a word may take.
func (t Timed) TooLong() bool { return t.Steps > api.MaxSteps }

// capped keeps steps that are too many from growing beyond an int: how far too many they are is never asked.
func capped(steps int) int { return min(steps, api.MaxSteps+1) }
