package rates_test

import (
	"fmt"
	"math/rand/v2"
	"slices"
	"testing"

	"forthwith/api"
	"forthwith/rates"
)

// turn is one release of a task, and what came of it.
type turn struct {
	released, done int // done is -1, if that lies behind the horizon
	outputs        []int
	end            int
}

// turnsOf parts the events of one task; those of a task that is not released, or released and not done, have no place in it.
func turnsOf(events []api.Event, number int) ([]turn, error) {
	var list []turn
	open := false
	for _, e := range events {
		if e.Task != number {
			continue
		}
		if open == (e.Kind == api.Released) {
			return nil, fmt.Errorf("%+v is out of place", e)
		}
		switch e.Kind {
		case api.Released:
			list, open = append(list, turn{released: e.Tick, done: -1}), true
		case api.Put:
			list[len(list)-1].outputs = append(list[len(list)-1].outputs, e.Value)
		case api.Done:
			list[len(list)-1].done, list[len(list)-1].end, open = e.Tick, e.Value, false
		}
	}
	return list, nil
}

// checkTimes holds the turns of a task against its plan.
func checkTimes(task api.Task, plan api.Plan, list []turn, horizon int) error {
	due := task.Offset
	for _, one := range list {
		switch {
		case one.released != due:
			return fmt.Errorf("released at %d, not at %d", one.released, due)
		case one.done < 0 && one.released+plan.Response <= horizon:
			return fmt.Errorf("released at %d, and not done", one.released)
		case one.done >= one.released+plan.Response:
			return fmt.Errorf("released at %d, and done at %d", one.released, one.done)
		}
		due += task.Period
	}
	if due < horizon {
		return fmt.Errorf("not released at %d", due)
	}
	return nil
}

func TestP14NobodyIsLate(t *testing.T) {
	random := rand.New(rand.NewPCG(51, 52))
	turns, last := 0, 0
	for range 3000 {
		s, words := madeUp(t, random, false)
		tasks, inputs, horizon := anyTasks(t, random, s, len(words)), anyInputs(random), random.IntN(2000)
		plans, err, _ := rates.Admit(s, tasks)
		if err != api.OK {
			continue
		}
		events, _, _ := rates.Simulate(s, tasks, inputs, horizon)
		for number, task := range tasks {
			list, err := turnsOf(events, number)
			if err == nil {
				err = checkTimes(task, plans[number], list, horizon)
			}
			if err != nil {
				t.Fatalf("Simulate(%v, %v, %d): task %d of plan %+v: %v, of %s", tasks, inputs, horizon, number, plans[number], err, textsOf(words))
			}
			turns += len(list)
			for _, one := range list {
				if plans[number].Rank > 0 && one.done == one.released+plans[number].Response-1 {
					last++
				}
			}
		}
	}
	if turns < 50000 || last < 1000 {
		t.Errorf("only %d turns, and only %d that others held up for as long as may be", turns, last)
	}
}

// TestP14ResponsesAreReached: where all are released at once and take all their steps, each takes just its response.
func TestP14ResponsesAreReached(t *testing.T) {
	random := rand.New(rand.NewPCG(53, 54))
	s := priced(t)
	several := 0
	for range 3000 {
		tasks := tasksOf(anyJobs(random))
		together := random.IntN(50)
		for at := range tasks {
			tasks[at].Offset = together
		}
		plans, err, _ := rates.Admit(s, tasks)
		if err != api.OK {
			continue
		}
		if len(tasks) > 2 {
			several++
		}
		events, _, _ := rates.Simulate(s, tasks, nil, 500)
		for number := range tasks {
			list, err := turnsOf(events, number)
			if err != nil || list[0].done != together+plans[number].Response-1 {
				t.Fatalf("Simulate(%v): task %d of plan %+v: %v, %v", tasks, number, plans[number], list, err)
			}
		}
	}
	if several < 300 {
		t.Errorf("only %d of several tasks were admitted", several)
	}
}

func TestP14TheExample(t *testing.T) {
	s := priced(t)
	checkEvents(t, s, []api.Task{each("s8", 20), each("s15", 50)}, nil, 52,
		"0 r0, 0 r1, 7 d0, 20 r0, 27 d0, 30 d1, 40 r0, 47 d0, 50 r1")
	checkEvents(t, s, []api.Task{task("s8", 20, 8, 19), task("s15", 50, 31, 0)}, nil, 52,
		"0 r1, 14 d1, 19 r0, 26 d0, 39 r0, 46 d0, 50 r1")
}

func TestP15WhateverGoesBetween(t *testing.T) {
	random := rand.New(rand.NewPCG(61, 62))
	parted, addresses := 0, 0
	for range 3000 {
		s, words := madeUp(t, random, true)
		tasks := anyTasks(t, random, s, len(words))
		events, err, _ := rates.Simulate(s, tasks, anyInputs(random), 1000)
		if err != api.OK {
			continue
		}
		for number, task := range tasks {
			list, err := turnsOf(events, number)
			want, runErr := s.Run(task.Word, nil, nil, api.MaxFuel)
			if err != nil || runErr != api.OK {
				t.Fatalf("task %d of %v: %v, %d, of %s", number, tasks, err, runErr, textsOf(words))
			}
			for _, one := range list {
				if one.done < 0 {
					continue
				}
				if !slices.Equal(one.outputs, want.Outputs) || one.end != want.End {
					t.Fatalf("task %d of %v: %+v, but a run: %+v, of %s", number, tasks, one, want, textsOf(words))
				}
				if len(want.Outputs) > 0 && one.done-one.released >= want.Steps {
					parted++
				}
				if one.end == api.Address {
					addresses++
				}
			}
		}
	}
	if parted < 3000 || addresses < 500 {
		t.Errorf("only %d turns gave way to others, only %d ended with Address", parted, addresses)
	}
}
