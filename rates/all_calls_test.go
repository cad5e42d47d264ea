package rates_test

import (
	"math/rand/v2"
	"slices"
	"testing"

	"forthwith/api"
	"forthwith/forth"
	"forthwith/rates"
)

func TestP1AdmitLeavesWhatIsHandedIn(t *testing.T) {
	s := priced(t)
	for _, tasks := range [][]api.Task{
		{each("s15", 50), each("s8", 20), each("s1", 7), each("nobody", 9)},
		{each("s15", 50), each("s8", 20), each("s9", 7), each("nobody", 9)},
	} {
		was := slices.Clone(tasks)
		rates.Admit(s, tasks[:3]) // the last one stands behind the list
		if !slices.Equal(tasks, was) {
			t.Errorf("%v became %v", was, tasks)
		}
	}
}

func TestP1PlansAreTheCallers(t *testing.T) {
	s := priced(t)
	tasks := []api.Task{each("s15", 50), each("s8", 20)}
	want := []api.Plan{plan(15, 1, 31), plan(8, 0, 8)}
	one, _, _ := rates.Admit(s, tasks)
	other, _, _ := rates.Admit(s, tasks)
	one = one[:cap(one)]
	for at := range one {
		one[at] = plan(-1, -2, -3)
	}
	for at := range tasks {
		tasks[at] = api.Task{}
	}
	if !slices.Equal(other, want) {
		t.Errorf("an answer hangs on another, or on what was handed in: %v", other)
	}
	checkPlans(t, s, []api.Task{each("s15", 50), each("s8", 20)}, want...)
}

func checkSame(t *testing.T, s, untouched *forth.System) {
	t.Helper()
	if !slices.Equal(s.Words(), untouched.Words()) {
		t.Errorf("words: %q", s.Words())
	}
	for _, name := range []string{"v", "a", "b", ""} {
		got, err := s.Find(name)
		if want, wantErr := untouched.Find(name); got != want || err != wantErr {
			t.Errorf("Find(%q) = %+v, %d, want %+v, %d", name, got, err, want, wantErr)
		}
	}
}

func TestP1AdmitChangesNoSystem(t *testing.T) {
	text := "variable v : a 1 v ! ; : b drop ;"
	s, untouched := loaded(t, text), loaded(t, text)
	for _, tasks := range [][]api.Task{{each("a", 9)}, {each("a", 2)}, {each("b", 9)}, {each("v", 9)}, nil} {
		rates.Admit(s, tasks)
	}
	checkSame(t, s, untouched)
}

func TestP1AdmitGoesByWhatIsLoaded(t *testing.T) {
	s, other := loaded(t, ": a 1 ;"), loaded(t, ": a 1 2 3 ;")
	tasks := []api.Task{each("a", 9)}
	checkPlans(t, s, tasks, plan(2, 0, 2))
	checkPlans(t, other, tasks, plan(4, 0, 4))
	s.Load(": a a a ; : broken")
	checkPlans(t, s, tasks, plan(7, 0, 7))
	checkPlans(t, other, tasks, plan(4, 0, 4))
	s.Load("variable a")
	checkRefused(t, s, tasks, api.ErrUnknown, 0)
}

// Each number that is tried is but one more than the last one here: no call may take much longer.
func TestP1AdmitEndsWhereTheWorkGrowsSlowly(t *testing.T) {
	s := priced(t)
	slow := []api.Task{each("s1", api.MaxPeriod), each("s1", 2), each("s1", 4), each("s1", 8), each("s1", 16), each("s1", 32), each("s1", 64), each("s1", 64)}
	checkRefused(t, s, slow, api.ErrLate, 0)
	checkRefused(t, s, []api.Task{each("s1", api.MaxPeriod), each("s1", 1)}, api.ErrLate, 0)
}

func anyNumber(random *rand.Rand) int {
	edges := []int{0, 1, 2, 9, 50, 100, -1, api.MaxPeriod - 1, api.MaxPeriod, api.MaxPeriod + 1, -1 << 63, 1<<63 - 1}
	if random.IntN(8) > 0 {
		edges = edges[1:6]
	}
	return edges[random.IntN(len(edges))]
}

func TestP1WhateverIsAdmitted(t *testing.T) {
	random := rand.New(rand.NewPCG(31, 32))
	s := loaded(t, ": a ; : b 1 2 3 ; : c 20 0 do loop ; : needs drop ; variable v")
	words := []string{"a", "a", "b", "b", "c", "a", "b", "c", "a", "needs", "v", "dup", "", "\xff"}
	counts := map[api.Errno]int{}
	for range 5000 {
		tasks := make([]api.Task, random.IntN(11))
		for at := range tasks {
			deadline := anyNumber(random)
			tasks[at] = task(words[random.IntN(len(words))], max(deadline, anyNumber(random)), deadline, anyNumber(random))
		}
		got, err, number := rates.Admit(s, tasks)
		counts[err]++
		if err == api.OK && (len(got) != len(tasks) || number != 0) || err != api.OK && (got != nil || number < 0 || number > 0 && number >= len(tasks)) {
			t.Fatalf("Admit(%v) = %v, %d, %d", tasks, got, err, number)
		}
	}
	for _, err := range []api.Errno{api.OK, api.ErrArg, api.ErrUnknown, api.ErrTask, api.ErrNeed, api.ErrLate} {
		if counts[err] < 100 {
			t.Errorf("%d was answered too seldom: %v", err, counts)
		}
	}
}

func TestP1AdmitOnANewSystem(t *testing.T) {
	checkRefused(t, forth.New(), nil, api.ErrArg, 0)
	checkRefused(t, forth.New(), make([]api.Task, api.MaxTasks), api.ErrUnknown, 0)
}
