package rates_test

import (
	"fmt"
	"slices"
	"strings"
	"testing"

	"forthwith/api"
	"forthwith/forth"
	"forthwith/rates"
)

// told writes events down: `2 r0` is a release of task 0 at tick 2, `3 p0=7` puts 7 out, `4 d0=3` is done with Address; a Value of 0 of what puts nothing out is left out.
func told(events []api.Event) string {
	var list []string
	for _, e := range events {
		text := fmt.Sprintf("%d %c%d", e.Tick, "?rdp"[e.Kind], e.Task)
		if e.Kind == api.Put || e.Value != 0 {
			text += fmt.Sprintf("=%d", e.Value)
		}
		list = append(list, text)
	}
	return strings.Join(list, ", ")
}

func checkEvents(t *testing.T, s *forth.System, tasks []api.Task, inputs []int, horizon int, want string) {
	t.Helper()
	events, err, number := rates.Simulate(s, tasks, inputs, horizon)
	if err != api.OK || number != 0 || told(events) != want {
		t.Errorf("Simulate(%v, %v, %d) = %s, %d, %d, want %s", tasks, inputs, horizon, told(events), err, number, want)
	}
}

func checkNotSimulated(t *testing.T, s *forth.System, tasks []api.Task, inputs []int, horizon int, wantErr api.Errno, wantNumber int) {
	t.Helper()
	events, err, number := rates.Simulate(s, tasks, inputs, horizon)
	if events != nil || err != wantErr || number != wantNumber {
		t.Errorf("Simulate(%v, %v, %d) = %s, %d, %d, want %d, %d", tasks, inputs, horizon, told(events), err, number, wantErr, wantNumber)
	}
}

func TestP13OneTask(t *testing.T) {
	s := loaded(t, ": f 7 out ; : nothing ;")
	all := []string{"3 r0", "4 p0=7", "5 d0", "7 r0", "8 p0=7", "9 d0", "11 r0", "12 p0=7"}
	for horizon := range 13 + 1 {
		seen := slices.DeleteFunc(slices.Clone(all), func(event string) bool {
			var tick int
			fmt.Sscan(event, &tick)
			return tick >= horizon
		})
		checkEvents(t, s, []api.Task{task("f", 4, 3, 3)}, nil, horizon, strings.Join(seen, ", "))
	}
	checkEvents(t, s, []api.Task{each("nothing", 1)}, nil, 3, "0 r0, 0 d0, 1 r0, 1 d0, 2 r0, 2 d0")
	checkEvents(t, s, []api.Task{each("f", 3)}, nil, 6, "0 r0, 1 p0=7, 2 d0, 3 r0, 4 p0=7, 5 d0")
	checkEvents(t, s, []api.Task{task("f", 3, 3, 8)}, nil, 11, "8 r0, 9 p0=7, 10 d0")
}

func TestP13FarOffsets(t *testing.T) {
	s := loaded(t, ": f 7 out ;")
	const most = api.MaxHorizon
	checkEvents(t, s, []api.Task{task("f", 5, 5, api.MaxPeriod)}, nil, most, "")
	checkEvents(t, s, []api.Task{task("f", 5, 5, most)}, nil, most, "")
	checkEvents(t, s, []api.Task{task("f", 5, 5, most-1)}, nil, most, "99999 r0")
	checkEvents(t, s, []api.Task{task("f", api.MaxPeriod, 3, most-3)}, nil, most, "99997 r0, 99998 p0=7, 99999 d0")
	checkEvents(t, s, []api.Task{task("f", 60000, 3, 1)}, nil, most, "1 r0, 2 p0=7, 3 d0, 60001 r0, 60002 p0=7, 60003 d0")
}

func TestP13Turns(t *testing.T) {
	s := loaded(t, ": a 1 out ; : b 2 out 3 out ;")
	// The shorter period goes ahead, whatever its number, its deadline, and who was released first.
	checkEvents(t, s, []api.Task{each("b", 30), each("a", 20)}, nil, 9, "0 r0, 0 r1, 1 p1=1, 2 d1, 4 p0=2, 6 p0=3, 7 d0")
	checkEvents(t, s, []api.Task{each("a", 20), each("b", 30)}, nil, 9, "0 r0, 0 r1, 1 p0=1, 2 d0, 4 p1=2, 6 p1=3, 7 d1")
	checkEvents(t, s, []api.Task{task("b", 30, 8, 0), task("a", 29, 29, 0)}, nil, 9, "0 r0, 0 r1, 1 p1=1, 2 d1, 4 p0=2, 6 p0=3, 7 d0")
	checkEvents(t, s, []api.Task{each("b", 30), task("a", 20, 20, 1)}, nil, 9, "0 r0, 1 r1, 2 p1=1, 3 d1, 4 p0=2, 6 p0=3, 7 d0")
	checkEvents(t, s, []api.Task{each("b", 30), task("a", 20, 20, 4)}, nil, 9, "0 r0, 1 p0=2, 3 p0=3, 4 r1, 5 p1=1, 6 d1, 7 d0")
	// What is released when the other's last step was just made does not hinder it.
	checkEvents(t, s, []api.Task{each("b", 30), task("a", 20, 20, 5)}, nil, 9, "0 r0, 1 p0=2, 3 p0=3, 4 d0, 5 r1, 6 p1=1, 7 d1")
	// One of the same period with a lesser number goes ahead, even if the other has begun.
	checkEvents(t, s, []api.Task{task("a", 30, 30, 2), each("b", 30)}, nil, 9, "0 r1, 1 p1=2, 2 r0, 3 p0=1, 4 d0, 6 p1=3, 7 d1")
	checkEvents(t, s, []api.Task{each("b", 30), task("a", 30, 30, 2)}, nil, 9, "0 r0, 1 p0=2, 2 r1, 3 p0=3, 4 d0, 6 p1=1, 7 d1")
}

func TestP13ReleasesGoByNumber(t *testing.T) {
	s := loaded(t, ": f ;")
	tasks := []api.Task{each("f", 9), each("f", 8), task("f", 7, 7, 1), each("f", 6), each("f", 9)}
	checkEvents(t, s, tasks, nil, 5, "0 r0, 0 r1, 0 r3, 0 r4, 0 d3, 1 r2, 1 d2, 2 d1, 3 d0, 4 d4")
}

func TestP13AllThatMayBe(t *testing.T) {
	s := loaded(t, ": f ;")
	var tasks []api.Task
	want := ""
	for number := range api.MaxTasks {
		tasks = append(tasks, each("f", api.MaxTasks))
		want += fmt.Sprintf("0 r%d, ", number)
	}
	for number := range api.MaxTasks {
		want += fmt.Sprintf("%d d%d, ", number, number)
	}
	checkEvents(t, s, tasks, nil, api.MaxTasks, strings.TrimSuffix(want, ", "))
	events, err, _ := rates.Simulate(s, tasks, []int{api.MinCell, api.MaxCell}, api.MaxHorizon)
	if err != api.OK || len(events) != 2*api.MaxHorizon {
		t.Errorf("%d, %d events", err, len(events))
	}
}

func TestP13VariablesAreShared(t *testing.T) {
	s := loaded(t, "variable u variable v : up v @ 1 + v ! ; : say v @ out ; : keep 5 u ! v @ u @ + out ;")
	checkEvents(t, s, []api.Task{each("up", 10), task("say", 20, 20, 5)}, nil, 32,
		"0 r0, 5 r1, 6 d0, 9 p1=1, 10 r0, 16 d0, 17 d1, 20 r0, 25 r1, 26 d0, 29 p1=3, 30 r0")
	// What was taken out of a variable is not taken out again, when another has changed it meanwhile.
	checkEvents(t, s, []api.Task{task("up", 10, 10, 2), each("say", 20)}, nil, 11, "0 r1, 2 r0, 8 d0, 9 p1=0, 10 d1")
	checkEvents(t, s, []api.Task{each("keep", 10)}, nil, 20, "0 r0, 8 p0=5, 9 d0, 10 r0, 18 p0=5, 19 d0")
	// A later call finds them 0 again.
	for range 3 {
		checkEvents(t, s, []api.Task{task("up", 20, 20, 0), task("say", 30, 30, 0)}, nil, 11, "0 r0, 0 r1, 6 d0, 9 p1=1, 10 d1")
	}
}

func TestP13InputsAreShared(t *testing.T) {
	s := loaded(t, ": ask in out ; : two in in out out ;")
	checkEvents(t, s, []api.Task{each("ask", 4), each("two", 20)}, []int{8, api.MinCell, api.MaxCell, 6}, 20,
		"0 r0, 0 r1, 1 p0=8, 2 d0, 4 r0, 5 p0=2147483647, 6 d0, 8 r0, 9 p0=0, 10 d0, 11 p1=6, 12 r0, 13 p0=0, 14 d0, 15 p1=-2147483648, 16 r0, 17 p0=0, 18 d0, 19 d1")
	checkEvents(t, s, []api.Task{each("ask", 3)}, nil, 3, "0 r0, 1 p0=0, 2 d0")
}

func TestP13StacksAreOwn(t *testing.T) {
	full := strings.Repeat("7 ", api.MaxDepth)
	s := loaded(t, ": low 1 2 3 + out out ; : high 9 dup out ; : full "+full+";")
	checkEvents(t, s, []api.Task{each("low", 30), task("high", 20, 20, 3)}, nil, 12, "0 r0, 3 r1, 5 p1=9, 6 d1, 8 p0=5, 9 p0=1, 10 d0")
	// What is left on the stack is gone when the task begins anew: else there would soon be no room.
	checkEvents(t, s, []api.Task{each("full", 50), task("full", 150, 150, 10)}, nil, 200,
		"0 r0, 10 r1, 32 d0, 50 r0, 82 d0, 98 d1, 100 r0, 132 d0, 150 r0, 160 r1, 182 d0")
}

func TestP13LoopsAndCallsAreOwn(t *testing.T) {
	s := loaded(t, ": low 2 0 do i out loop ; : high 12 10 do i out loop ; : inner 4 out ; : outer inner 5 out ;")
	// low: 2, 0, do, (high), i, out, loop, i, out, loop, `;`
	checkEvents(t, s, []api.Task{each("low", 60), task("high", 50, 50, 4)}, nil, 25,
		"0 r0, 4 r1, 8 p1=10, 11 p1=11, 13 d1, 14 p0=0, 17 p0=1, 19 d0")
	checkEvents(t, s, []api.Task{each("outer", 60), task("outer", 50, 50, 2)}, nil, 20,
		"0 r0, 2 r1, 4 p1=4, 7 p1=5, 8 d1, 9 p0=4, 12 p0=5, 13 d0")
}

func TestP13Address(t *testing.T) {
	s := loaded(t, `variable v : bad 1 out -1 @ out ; : store 3 9 ! ; : good 5 out ;
		: once v @ 0= if 1 v ! -1 @ drop then ; : outer once 5 out ;
		: round 2 0 do i out v @ 0= if 1 v ! -1 @ drop then loop ;`)
	checkEvents(t, s, []api.Task{each("bad", 6)}, nil, 11, "0 r0, 1 p0=1, 3 d0=3, 6 r0, 7 p0=1, 9 d0=3")
	checkEvents(t, s, []api.Task{each("store", 6), each("good", 12)}, nil, 7, "0 r0, 0 r1, 2 d0=3, 4 p1=5, 5 d1, 6 r0")
	// A task that ended within a word, or within a loop, begins at its own beginning again.
	checkEvents(t, s, []api.Task{each("outer", 20)}, nil, 32, "0 r0, 9 d0=3, 20 r0, 27 p0=5, 28 d0")
	checkEvents(t, s, []api.Task{each("round", 50)}, nil, 99, "0 r0, 4 p0=0, 13 d0=3, 50 r0, 54 p0=0, 61 p0=1, 67 d0")
}

func TestP13WordsOfALongLoadedSystem(t *testing.T) {
	s := loaded(t, ": f 1 out ; : g f ; : f 2 out ; : h f ;")
	checkEvents(t, s, []api.Task{each("f", 20), each("g", 21), each("h", 22)}, nil, 15,
		"0 r0, 0 r1, 0 r2, 1 p0=2, 2 d0, 5 p1=1, 7 d1, 10 p2=2, 12 d2")
	s.Load(": f 3 out ; variable g")
	checkEvents(t, s, []api.Task{each("f", 20)}, nil, 3, "0 r0, 1 p0=3, 2 d0")
	checkNotSimulated(t, s, []api.Task{each("g", 20)}, nil, 3, api.ErrUnknown, 0)
}

func TestP13HorizonAndInputs(t *testing.T) {
	s := loaded(t, ": f ; : needs drop ;")
	good := []api.Task{each("f", api.MaxPeriod)}
	for _, horizon := range []int{-1, -1 << 63, api.MaxHorizon + 1, 1<<63 - 1} {
		checkNotSimulated(t, s, good, nil, horizon, api.ErrArg, 0)
		checkNotSimulated(t, s, []api.Task{good[0], each("nobody", 0)}, nil, horizon, api.ErrArg, 0)
	}
	for _, input := range []int{api.MinCell - 1, api.MaxCell + 1, -1 << 63, 1<<63 - 1} {
		checkNotSimulated(t, s, good, []int{input}, 9, api.ErrArg, 0)
		checkNotSimulated(t, s, good, append(make([]int, 50), input), 0, api.ErrArg, 0)
		checkNotSimulated(t, s, []api.Task{good[0], each("needs", 9)}, []int{1, input, 1}, 9, api.ErrArg, 0)
	}
	checkEvents(t, s, good, []int{api.MinCell, api.MaxCell}, 0, "")
	checkEvents(t, s, good, []int{api.MinCell, api.MaxCell}, 1, "0 r0, 0 d0")
	checkEvents(t, s, good, make([]int, 1000), api.MaxHorizon, "0 r0, 0 d0")
}

func TestP13ErrorsOfAdmit(t *testing.T) {
	s := loaded(t, ": f ; : long 1 2 3 ; : needs drop ; variable v")
	good, late := each("f", 100), task("long", 100, 4, 0)
	for _, k := range []struct {
		tasks  []api.Task
		err    api.Errno
		number int
	}{
		{nil, api.ErrArg, 0},
		{slices.Repeat([]api.Task{good}, api.MaxTasks+1), api.ErrArg, 0},
		{[]api.Task{good, each("v", 9)}, api.ErrUnknown, 1},
		{[]api.Task{good, good, each("dup", 9)}, api.ErrUnknown, 2},
		{[]api.Task{task("f", 9, 10, 0), good}, api.ErrTask, 0},
		{[]api.Task{good, task("f", 9, 9, -1)}, api.ErrTask, 1},
		{[]api.Task{late, good, each("needs", 9)}, api.ErrNeed, 2},
		{[]api.Task{good, late}, api.ErrLate, 1},
		// Nobody would be late here before the horizon, but somebody may be.
		{[]api.Task{good, task("long", 100, 4, 50)}, api.ErrLate, 1},
		{[]api.Task{good, task("long", 100, 4, api.MaxPeriod)}, api.ErrLate, 1},
	} {
		for _, horizon := range []int{0, 1, 50, api.MaxHorizon} {
			checkNotSimulated(t, s, k.tasks, []int{4}, horizon, k.err, k.number)
		}
	}
}
