package rates

import (
	"forthwith/api"
	"forthwith/forth"
)

// load is what a task asks of the machine: so many steps in each period.
type load struct {
	cost, period int
}

// price is the cost of a task, or the error that it has by itself (P11).
func price(s *forth.System, task api.Task) (int, api.Errno) {
	known, err := s.Find(task.Word)
	switch {
	case err != api.OK:
		return 0, err
	case !numbersFit(task):
		return 0, api.ErrTask
	case known.Need > 0 || known.High > api.MaxDepth:
		return 0, api.ErrNeed
	}
	return known.Steps, api.OK
}

func numbersFit(task api.Task) bool {
	return task.Period >= 1 && task.Period <= api.MaxPeriod &&
		task.Deadline >= 1 && task.Deadline <= task.Period &&
		task.Offset >= 0 && task.Offset <= api.MaxPeriod
}

// aheadOf is the loads that go ahead of that one: those of a shorter period, and of the same those with a lesser number.
func aheadOf(loads []load, number int) []load {
	var ahead []load
	for other, l := range loads {
		if l.period < loads[number].period || l.period == loads[number].period && other < number {
			ahead = append(ahead, l)
		}
	}
	return ahead
}

// respond finds the response (P12), if it is at most the deadline.
// The steps never get fewer as the ticks get more. So ticks taken from the steps, from 1 on, only rise, and pass no response by.
func respond(cost int, ahead []load, deadline int) (response int, found bool) {
	for ticks := 1; ticks <= deadline; {
		steps := cost + stepsWithin(ticks, ahead)
		if steps == ticks {
			return ticks, true
		}
		ticks = steps
	}
	return 0, false
}

// stepsWithin is how many steps are asked for at most by what the loads release within so many ticks.
func stepsWithin(ticks int, loads []load) int {
	steps := 0
	for _, l := range loads {
		releases := (ticks + l.period - 1) / l.period
		steps += l.cost * releases
	}
	return steps
}
