package rates_test

import (
	"math/rand/v2"
	"slices"
	"testing"

	"forthwith/api"
	"forthwith/forth"
	"forthwith/rates"
)

func TestP1SimulateLeavesWhatIsHandedIn(t *testing.T) {
	s := loaded(t, "variable v : ask in dup out v ! ; : say v @ out ;")
	tasks := []api.Task{each("say", 50), each("ask", 20), each("nobody", 9)}
	inputs := []int{5, 6, 7, 8, 9}
	tasksWere, inputsWere := slices.Clone(tasks), slices.Clone(inputs)
	events, err, _ := rates.Simulate(s, tasks[:2], inputs[:2], 90) // the last ones stand behind the lists
	if err != api.OK || !slices.Equal(tasks, tasksWere) || !slices.Equal(inputs, inputsWere) {
		t.Errorf("%d, %v, %v", err, tasks, inputs)
	}
	want := slices.Clone(events)
	clear(tasks)
	clear(inputs)
	if !slices.Equal(events, want) {
		t.Errorf("the answer hangs on what was handed in: %s", told(events))
	}
}

func TestP1EventsAreTheCallers(t *testing.T) {
	s := loaded(t, "variable v : up v @ 1 + dup out v ! ;")
	tasks := []api.Task{each("up", 10)}
	const want = "0 r0, 5 p0=1, 8 d0, 10 r0, 15 p0=2, 18 d0"
	one, _, _ := rates.Simulate(s, tasks, nil, 20)
	other, _, _ := rates.Simulate(s, tasks, nil, 20)
	one = one[:cap(one)]
	for at := range one {
		one[at] = api.Event{Kind: api.Put, Task: -1, Tick: -2, Value: -3}
	}
	if told(other) != want {
		t.Errorf("an answer hangs on another: %s", told(other))
	}
	checkEvents(t, s, tasks, nil, 20, want)
}

func TestP1SimulateChangesNoSystem(t *testing.T) {
	text := "variable v : a v @ 1 + dup v ! out ; : b drop ;"
	s, untouched := loaded(t, text), loaded(t, text)
	for _, tasks := range [][]api.Task{{each("a", 9)}, {each("a", 2)}, {each("b", 9)}, {each("v", 9)}, nil} {
		for _, horizon := range []int{-1, 0, 4, 100} {
			rates.Simulate(s, tasks, []int{3}, horizon)
		}
	}
	checkSame(t, s, untouched)
	ran, err := s.Run("a", nil, nil, 99)
	if err != api.OK || !slices.Equal(ran.Outputs, []int{1}) || !slices.Equal(ran.Store, []int{1}) {
		t.Errorf("Run = %+v, %d", ran, err)
	}
	s.Load(": c a ;")
	checkEvents(t, s, []api.Task{each("c", 20)}, nil, 11, "0 r0, 8 p0=1, 10 d0")
}

func TestP1SimulationsAreApart(t *testing.T) {
	s, other := loaded(t, "variable v : a v @ out 1 v ! ;"), loaded(t, "variable u variable v : a 8 out ;")
	checkEvents(t, s, []api.Task{each("a", 9)}, nil, 9, "0 r0, 2 p0=0, 6 d0")
	checkEvents(t, other, []api.Task{each("a", 9)}, nil, 9, "0 r0, 1 p0=8, 2 d0")
	checkEvents(t, s, []api.Task{each("a", 9)}, nil, 12, "0 r0, 2 p0=0, 6 d0, 9 r0, 11 p0=1")
}

func TestP1SimulateEndsWhereThereIsMuch(t *testing.T) {
	s := loaded(t, ": million 1000 0 do 995 0 do loop loop ; : put 1 out ; : loud 1000 0 do 40 0 do i out loop loop ;")
	events, err, _ := rates.Simulate(s, []api.Task{each("million", api.MaxPeriod)}, nil, api.MaxHorizon)
	if err != api.OK || told(events) != "0 r0" {
		t.Errorf("%d, %s", err, told(events))
	}
	events, err, _ = rates.Simulate(s, []api.Task{each("loud", 200000)}, make([]int, 200000), api.MaxHorizon)
	if err != api.OK || len(events) < 30000 {
		t.Errorf("%d, %d events", err, len(events))
	}
	tasks := slices.Repeat([]api.Task{each("put", 24)}, 8)
	events, err, _ = rates.Simulate(s, tasks, nil, api.MaxHorizon)
	if err != api.OK || len(events) < api.MaxHorizon {
		t.Errorf("%d, %d events", err, len(events))
	}
}

func TestP1WhateverIsSimulated(t *testing.T) {
	random := rand.New(rand.NewPCG(33, 34))
	s := loaded(t, "variable v : a in out ; : b 1 v @ + v ! ; : c 20 0 do v @ @ drop loop ; : needs drop ;")
	words := []string{"a", "a", "b", "b", "c", "a", "b", "c", "a", "needs", "v", "dup", "", "\xff"}
	horizons := []int{0, 1, 9, 50, 300, 1000, api.MaxHorizon + 1, -1, -1 << 63, 1<<63 - 1}
	inputs := [][]int{nil, {}, {1, 2}, {api.MinCell, api.MaxCell}, make([]int, 99), {1 << 31}, {-1 << 63}}
	counts := map[api.Errno]int{}
	for range 5000 {
		tasks := make([]api.Task, random.IntN(9))
		for at := range tasks {
			deadline := anyNumber(random)
			tasks[at] = task(words[random.IntN(len(words))], max(deadline, anyNumber(random)), deadline, anyNumber(random))
		}
		given, horizon := inputs[random.IntN(len(inputs))], horizons[random.IntN(len(horizons))]
		events, err, number := rates.Simulate(s, tasks, given, horizon)
		counts[err]++
		_, wantErr, wantNumber := rates.Admit(s, tasks)
		if horizon < 0 || horizon > api.MaxHorizon || len(given) == 1 {
			wantErr, wantNumber = api.ErrArg, 0
		}
		if err != wantErr || number != wantNumber || err != api.OK && events != nil {
			t.Fatalf("Simulate(%v, %v, %d) = %s, %d, %d, want %d, %d", tasks, given, horizon, told(events), err, number, wantErr, wantNumber)
		}
	}
	for _, err := range []api.Errno{api.OK, api.ErrArg, api.ErrUnknown, api.ErrTask, api.ErrNeed, api.ErrLate} {
		if counts[err] < 50 {
			t.Errorf("%d was answered too seldom: %v", err, counts)
		}
	}
}

func TestP1SimulateOnANewSystem(t *testing.T) {
	checkNotSimulated(t, forth.New(), nil, nil, 9, api.ErrArg, 0)
	checkNotSimulated(t, forth.New(), make([]api.Task, api.MaxTasks), nil, 9, api.ErrUnknown, 0)
}
