package rates_test

import (
	"fmt"
	"slices"
	"strings"
	"testing"

	"forthwith/api"
	"forthwith/forth"
	"forthwith/rates"
)

func loaded(t *testing.T, text string) *forth.System {
	t.Helper()
	s := forth.New()
	if err, at := s.Load(text); err != api.OK || at != 0 {
		t.Fatalf("Load(%q) = %d, %d", text, err, at)
	}
	return s
}

// priced has words that take as many steps as their names say, from s1 to s20.
func priced(t *testing.T) *forth.System {
	t.Helper()
	var text strings.Builder
	for cost := range 20 {
		fmt.Fprintf(&text, ": s%d %s;\n", cost+1, strings.Repeat("1 ", cost))
	}
	return loaded(t, text.String())
}

func task(word string, period, deadline, offset int) api.Task {
	return api.Task{Word: word, Period: period, Deadline: deadline, Offset: offset}
}

// each is a task that must be done before it is released again.
func each(word string, period int) api.Task { return task(word, period, period, 0) }

func plan(cost, rank, response int) api.Plan {
	return api.Plan{Cost: cost, Rank: rank, Response: response}
}

func checkPlans(t *testing.T, s *forth.System, tasks []api.Task, want ...api.Plan) {
	t.Helper()
	got, err, number := rates.Admit(s, tasks)
	if err != api.OK || number != 0 || !slices.Equal(got, want) {
		t.Errorf("Admit(%v) = %v, %d, %d, want %v", tasks, got, err, number, want)
	}
}

func checkRefused(t *testing.T, s *forth.System, tasks []api.Task, wantErr api.Errno, wantNumber int) {
	t.Helper()
	got, err, number := rates.Admit(s, tasks)
	if got != nil || err != wantErr || number != wantNumber {
		t.Errorf("Admit(%v) = %v, %d, %d, want %d, %d", tasks, got, err, number, wantErr, wantNumber)
	}
}

func TestP11TheExample(t *testing.T) {
	s := priced(t)
	checkPlans(t, s, []api.Task{each("s8", 20), each("s15", 50)}, plan(8, 0, 8), plan(15, 1, 31))
	checkPlans(t, s, []api.Task{each("s15", 50), each("s8", 20)}, plan(15, 1, 31), plan(8, 0, 8))
}

func TestP11CostIsTheMostSteps(t *testing.T) {
	s := loaded(t, `: a 1 ; : twice a a ; : a 1 2 3 4 ;
		variable v : way v @ if 1 2 + else 3 then ;
		: round 0 5 1 do i + loop ; : never 0 0 do drop 1 loop ;`)
	for _, k := range []struct {
		word string
		cost int
	}{
		{"a", 5}, {"twice", 7}, {"way", 8}, {"round", 17}, {"never", 4},
	} {
		checkPlans(t, s, []api.Task{each(k.word, 99)}, plan(k.cost, 0, k.cost))
	}
}

func TestP11Ranks(t *testing.T) {
	s := priced(t)
	for _, k := range []struct {
		periods []int
		ranks   []int
	}{
		{[]int{50}, []int{0}},
		{[]int{50, 60, 70}, []int{0, 1, 2}},
		{[]int{70, 60, 50}, []int{2, 1, 0}},
		{[]int{60, 60, 60}, []int{0, 1, 2}},
		{[]int{61, 60, 61, 60}, []int{2, 0, 3, 1}},
		{[]int{9, 8, 7, 8, 9, 1000000, 8, 7}, []int{5, 2, 0, 3, 6, 7, 4, 1}},
	} {
		var tasks []api.Task
		for _, period := range k.periods {
			tasks = append(tasks, each("s1", period))
		}
		got, err, number := rates.Admit(s, tasks)
		var ranks []int
		for _, p := range got {
			ranks = append(ranks, p.Rank)
		}
		if err != api.OK || number != 0 || !slices.Equal(ranks, k.ranks) {
			t.Errorf("periods %v: ranks %v, %d, %d, want %v", k.periods, ranks, err, number, k.ranks)
		}
	}
}

func TestP11DeadlinesAndOffsetsChangeNoPlan(t *testing.T) {
	s := priced(t)
	want := []api.Plan{plan(3, 0, 3), plan(2, 1, 5), plan(4, 2, 9)}
	for _, tasks := range [][]api.Task{
		{task("s3", 20, 20, 0), task("s2", 30, 30, 0), task("s4", 40, 40, 0)},
		{task("s3", 20, 3, 0), task("s2", 30, 5, 0), task("s4", 40, 9, 0)},
		{task("s3", 20, 19, 5), task("s2", 30, 7, 1000000), task("s4", 40, 9, 1)},
	} {
		checkPlans(t, s, tasks, want...)
	}
}

func TestP11HowManyTasks(t *testing.T) {
	s := priced(t)
	good, wrong := each("s1", 100), task("nobody", 0, 0, -1)
	checkRefused(t, s, nil, api.ErrArg, 0)
	checkRefused(t, s, []api.Task{}, api.ErrArg, 0)
	checkRefused(t, s, make([]api.Task, 0, 5), api.ErrArg, 0)
	for many := 1; many <= api.MaxTasks; many++ {
		var want []api.Plan
		for rank := range many {
			want = append(want, plan(1, rank, rank+1))
		}
		checkPlans(t, s, slices.Repeat([]api.Task{good}, many), want...)
	}
	for _, many := range []int{api.MaxTasks + 1, 1000, 100000} {
		checkRefused(t, s, slices.Repeat([]api.Task{good}, many), api.ErrArg, 0)
		checkRefused(t, s, slices.Repeat([]api.Task{wrong}, many), api.ErrArg, 0)
	}
}

func TestP11Unknown(t *testing.T) {
	s := loaded(t, "variable v : w ; : x ; variable x variable y : y ;")
	for _, word := range []string{"v", "x", "dup", "i", "", "nobody", ":", "12", "W", "w ", "\xff"} {
		checkRefused(t, s, []api.Task{each(word, 9)}, api.ErrUnknown, 0)
		checkRefused(t, s, []api.Task{each("w", 9), each("y", 9), each(word, 9)}, api.ErrUnknown, 2)
	}
	checkPlans(t, s, []api.Task{each("w", 9), each("y", 9)}, plan(1, 0, 1), plan(1, 1, 2))
	checkRefused(t, forth.New(), []api.Task{each("w", 9)}, api.ErrUnknown, 0)
}

func TestP11Numbers(t *testing.T) {
	const most = api.MaxPeriod
	s := priced(t)
	for _, k := range []api.Task{
		task("s1", 1, 1, 0), task("s1", most, 1, most), task("s1", most, most, 0), task("s1", 2, 2, most), task("s1", 7, 6, 8),
	} {
		checkPlans(t, s, []api.Task{k}, plan(1, 0, 1))
	}
	for _, k := range []api.Task{
		task("s1", 0, 0, 0), task("s1", 0, 1, 0), task("s1", -1, -1, 0), task("s1", -1, 1, 0), task("s1", most+1, 1, 0), task("s1", most+1, most+1, 0), task("s1", -1<<63, 1, 0), task("s1", 1<<63-1, 1, 0),
		task("s1", 9, 0, 0), task("s1", 9, -1, 0), task("s1", 9, 10, 0), task("s1", most, most+1, 0), task("s1", 9, -1<<63, 0), task("s1", 9, 1<<63-1, 0),
		task("s1", 9, 9, -1), task("s1", 9, 9, most+1), task("s1", 9, 9, -1<<63), task("s1", 9, 9, 1<<63-1),
		{Word: "s1"},
	} {
		checkRefused(t, s, []api.Task{k}, api.ErrTask, 0)
		checkRefused(t, s, []api.Task{each("s1", 9), k, k}, api.ErrTask, 1)
	}
}

func TestP11Need(t *testing.T) {
	s := loaded(t, fmt.Sprintf(`: needs dup drop ; : hidden 0 if drop 1 then ; : none 1 drop ; : never 0 0 do drop 1 loop ;
		: full %s; : over %s; : level over drop ; : way 0 if %s else %s then ;`,
		strings.Repeat("1 ", 32), strings.Repeat("1 ", 33),
		strings.Repeat("1 ", 33)+strings.Repeat("drop ", 33), ""))
	for _, word := range []string{"needs", "hidden", "over", "level", "way"} {
		checkRefused(t, s, []api.Task{each(word, 999)}, api.ErrNeed, 0)
		checkRefused(t, s, []api.Task{each("none", 999), each("full", 999), each(word, 999)}, api.ErrNeed, 2)
	}
	checkPlans(t, s, []api.Task{each("none", 999), each("never", 999), each("full", 999)}, plan(3, 0, 3), plan(4, 1, 7), plan(33, 2, 40))
}

func TestP11WhichErrorGoesFirst(t *testing.T) {
	s := loaded(t, ": ok ; : long 1 2 3 ; : needs drop ;")
	unknown, wrong, needy, late := task("nobody", 0, 0, 0), task("needs", 0, 0, 0), task("needs", 1, 1, 0), task("long", 3, 3, 0)
	longWrong, good := task("long", 3, 4, 0), each("ok", 100)
	for _, k := range []struct {
		tasks  []api.Task
		err    api.Errno
		number int
	}{
		{[]api.Task{unknown, wrong, needy, late}, api.ErrUnknown, 0},
		{[]api.Task{wrong, unknown, needy, late}, api.ErrTask, 0},
		{[]api.Task{needy, wrong, unknown, late}, api.ErrNeed, 0},
		{[]api.Task{longWrong, needy}, api.ErrTask, 0},
		{[]api.Task{late, good, needy, wrong, unknown}, api.ErrNeed, 2},
		{[]api.Task{late, good, wrong, needy, unknown}, api.ErrTask, 2},
		{[]api.Task{late, good, unknown, wrong}, api.ErrUnknown, 2},
		{[]api.Task{late, late, late, late, late, late, late, needy}, api.ErrNeed, 7},
		{[]api.Task{late, good}, api.ErrLate, 0},
	} {
		checkRefused(t, s, k.tasks, k.err, k.number)
	}
}

func TestP12Responses(t *testing.T) {
	s := priced(t)
	for _, k := range []struct {
		tasks []api.Task
		want  []api.Plan
	}{
		// What is released just when the other is done does not count.
		{[]api.Task{each("s3", 6), each("s3", 6)}, []api.Plan{plan(3, 0, 3), plan(3, 1, 6)}},
		{[]api.Task{each("s3", 6), each("s6", 12)}, []api.Plan{plan(3, 0, 3), plan(6, 1, 12)}},
		{[]api.Task{each("s3", 5), each("s2", 6)}, []api.Plan{plan(3, 0, 3), plan(2, 1, 5)}},
		// One step more, and one release more counts.
		{[]api.Task{each("s3", 5), each("s3", 20)}, []api.Plan{plan(3, 0, 3), plan(3, 1, 9)}},
		{[]api.Task{each("s1", 2), each("s1", 4), each("s1", 8), each("s1", 8)}, []api.Plan{plan(1, 0, 1), plan(1, 1, 2), plan(1, 2, 4), plan(1, 3, 8)}},
		{[]api.Task{each("s1", 1)}, []api.Plan{plan(1, 0, 1)}},
		{[]api.Task{each("s20", 40), each("s10", 40), each("s10", 40)}, []api.Plan{plan(20, 0, 20), plan(10, 1, 30), plan(10, 2, 40)}},
		{[]api.Task{each("s1", 1000000), each("s19", 20)}, []api.Plan{plan(1, 1, 20), plan(19, 0, 19)}},
		{[]api.Task{each("s2", 1000000), each("s19", 20)}, []api.Plan{plan(2, 1, 40), plan(19, 0, 19)}},
	} {
		checkPlans(t, s, k.tasks, k.want...)
	}
}

func TestP12Late(t *testing.T) {
	s := priced(t)
	for _, k := range []struct {
		tasks []api.Task
		late  int
	}{
		{[]api.Task{each("s2", 1)}, 0},
		{[]api.Task{task("s8", 20, 7, 0)}, 0},
		{[]api.Task{each("s8", 20), task("s15", 50, 30, 0)}, 1},
		{[]api.Task{task("s15", 50, 30, 0), each("s8", 20)}, 0},
		{[]api.Task{each("s3", 5), task("s3", 20, 8, 0)}, 1},
		{[]api.Task{each("s1", 1), each("s1", 1000000)}, 1},
		{[]api.Task{each("s1", 1000000), each("s1", 1)}, 0},
		{[]api.Task{each("s1", 2), each("s1", 2), each("s1", 1000000)}, 2},
		{[]api.Task{each("s1", 8), each("s5", 4), each("s6", 4)}, 0}, // all may be late: the first by number, not by rank
		{[]api.Task{each("s1", 8), each("s1", 9), each("s5", 4), each("s1", 1)}, 0},
		{[]api.Task{each("s1", 3), each("s5", 4)}, 1},
		{[]api.Task{task("s1", 50, 50, 0), task("s1", 50, 50, 25), task("s1", 50, 2, 30)}, 2}, // offsets keep nobody from being late
	} {
		checkRefused(t, s, k.tasks, api.ErrLate, k.late)
	}
	checkPlans(t, s, []api.Task{task("s8", 20, 8, 0), task("s15", 50, 31, 0)}, plan(8, 0, 8), plan(15, 1, 31))
}

func TestP12LongWords(t *testing.T) {
	s := loaded(t, `: billion 1000 0 do 1000 0 do 995 0 do loop loop loop ;
		: million 1000 0 do 995 0 do loop loop ; : thousand 996 0 do loop ; : one ;`)
	known, _ := s.Find("billion")
	if known.Steps < 999000000 {
		t.Fatalf("billion takes only %d steps", known.Steps)
	}
	most := each("billion", api.MaxPeriod)
	checkRefused(t, s, slices.Repeat([]api.Task{most}, 8), api.ErrLate, 0)
	checkRefused(t, s, []api.Task{each("one", 2), most}, api.ErrLate, 1)
	checkRefused(t, s, []api.Task{each("one", api.MaxPeriod), each("billion", 1)}, api.ErrLate, 0)
	checkPlans(t, s, []api.Task{each("million", api.MaxPeriod)}, plan(999004, 0, 999004))
	checkPlans(t, s, []api.Task{each("thousand", api.MaxPeriod), each("one", api.MaxPeriod)}, plan(1000, 0, 1000), plan(1, 1, 1001))
	checkRefused(t, s, []api.Task{each("million", api.MaxPeriod), each("thousand", 250000)}, api.ErrLate, 0)
	checkPlans(t, s, []api.Task{each("million", api.MaxPeriod), each("one", 5000)}, plan(999004, 1, 999204), plan(1, 0, 1))
}
