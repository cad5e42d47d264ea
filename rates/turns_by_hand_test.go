package rates_test

import (
	"iter"
	"math/rand/v2"
	"slices"
	"testing"

	"forthwith/api"
	"forthwith/rates"
)

// stopped ends a walk that nobody asks for steps any more.
type stopped struct{}

// steps walks over a word, and tells behind each step how it has ended: Fuel, if it has not.
func steps(word item, shared *common) iter.Seq[int] {
	return func(yield func(int) bool) {
		w := &walk{common: shared}
		w.rest = func(end int) {
			if !yield(end) {
				panic(stopped{})
			}
		}
		defer func() {
			if end, ok := recover().(left); ok {
				yield(int(end))
			}
		}()
		word.does(w)
		yield(api.Halted)
	}
}

// running is a task that is walked over step by step.
type running struct {
	next func() (int, bool)
	stop func()
}

// walkedOut is what Simulate must answer.
func walkedOut(words []item, tasks []api.Task, inputs []int, horizon int) []api.Event {
	var jobs []job
	for _, task := range tasks {
		jobs = append(jobs, job{Task: task})
	}
	order, shared := first(jobs), &common{inputs: inputs}
	active := map[int]running{}
	var events []api.Event
	for tick := range horizon {
		for number, task := range tasks {
			if since := tick - task.Offset; since >= 0 && since%task.Period == 0 {
				next, stop := iter.Pull(steps(words[numberOf(task)], shared))
				active[number] = running{next, stop}
				events = append(events, api.Event{Kind: api.Released, Task: number, Tick: tick})
			}
		}
		at := slices.IndexFunc(order, func(number int) bool { return active[number].next != nil })
		if at < 0 {
			continue
		}
		number, before := order[at], len(shared.outputs)
		end, _ := active[number].next()
		for _, cell := range shared.outputs[before:] {
			events = append(events, api.Event{Kind: api.Put, Task: number, Tick: tick, Value: cell})
		}
		if end != api.Fuel {
			events = append(events, api.Event{Kind: api.Done, Task: number, Tick: tick, Value: end})
			active[number].stop()
			delete(active, number)
		}
	}
	for _, r := range active {
		r.stop()
	}
	return events
}

func TestP13ByHand(t *testing.T) {
	random := rand.New(rand.NewPCG(41, 42))
	admitted, kinds, addresses := 0, map[int]int{}, 0
	for range 4000 {
		s, words := madeUp(t, random, false)
		tasks, inputs, horizon := anyTasks(t, random, s, len(words)), anyInputs(random), random.IntN(600)
		got, err, number := rates.Simulate(s, tasks, inputs, horizon)
		_, wantErr, wantNumber := rates.Admit(s, tasks)
		var want []api.Event
		if wantErr == api.OK {
			want = walkedOut(words, tasks, inputs, horizon)
		}
		if err != wantErr || number != wantNumber || !slices.Equal(got, want) {
			t.Fatalf("Simulate(%v, %v, %d) = %s, %d, %d, want %s, %d, %d, of %s", tasks, inputs, horizon, told(got), err, number, told(want), wantErr, wantNumber, textsOf(words))
		}
		if err == api.OK && len(tasks) > 1 {
			admitted++
		}
		for _, e := range got {
			kinds[e.Kind]++
			if e.Kind == api.Done && e.Value == api.Address {
				addresses++
			}
		}
	}
	if admitted < 800 || kinds[api.Done] < 10000 || kinds[api.Put] < 10000 || addresses < 300 {
		t.Errorf("too few: %d admitted, %v, %d of them with Address", admitted, kinds, addresses)
	}
}
