package rates

import (
	"forthwith/api"
	"forthwith/book"
	"forthwith/machine"
)

// job is the machine of a task: a machine with the task that it runs.
type job struct {
	*machine.Machine
	api.Task
	number int
	busy   bool // released, and not done
}

// due tells whether the task is released at that tick.
func (j *job) due(tick int) bool {
	return tick >= j.Offset && (tick-j.Offset)%j.Period == 0
}

// turns is jobs that share a world, and what has happened to them.
type turns struct {
	*machine.World
	byNumber []*job
	byRank   []*job
	events   []api.Event
}

// newTurns is for tasks that are admitted with these plans: their words are known, and no two have the same rank.
func newTurns(words *book.Book, tasks []api.Task, plans []api.Plan, inputs []int) *turns {
	t := &turns{
		World:    machine.NewWorld(words.Variables(), inputs),
		byNumber: make([]*job, len(tasks)),
		byRank:   make([]*job, len(tasks)),
	}
	for number, task := range tasks {
		start, _ := words.Start(task.Word)
		j := &job{
			Machine: machine.New(words.Code(), start, nil, t.World),
			Task:    task,
			number:  number,
		}
		t.byNumber[number] = j
		t.byRank[plans[number].Rank] = j
	}
	return t
}

// release lets the tasks begin anew that are due.
func (t *turns) release(tick int) {
	for _, j := range t.byNumber {
		if j.due(tick) {
			j.Begin()
			j.busy = true
			t.note(api.Released, j, tick, 0)
		}
	}
}

// step makes one step of the task whose turn it is, if there is one.
func (t *turns) step(tick int) {
	for _, j := range t.byRank {
		if j.busy {
			t.stepOf(j, tick)
			return
		}
	}
}

func (t *turns) stepOf(j *job, tick int) {
	end := j.Step()
	for _, cell := range t.Outputs {
		t.note(api.Put, j, tick, cell)
	}
	t.Outputs = t.Outputs[:0] // what is noted is not noted again
	if end != api.Fuel {
		j.busy = false
		t.note(api.Done, j, tick, end)
	}
}

func (t *turns) note(kind int, j *job, tick, value int) {
	t.events = append(t.events, api.Event{Kind: kind, Task: j.number, Tick: tick, Value: value})
}
