package rates_test

import (
	"fmt"
	"math/rand/v2"
	"slices"
	"testing"

	"forthwith/api"
	"forthwith/rates"
)

// job is a task with a word of so many steps.
type job struct {
	cost int
	api.Task
}

func tasksOf(jobs []job) []api.Task {
	var tasks []api.Task
	for _, j := range jobs {
		tasks = append(tasks, j.Task)
	}
	return tasks
}

// anyJobs are of few steps and short periods, so that they are late by luck only.
func anyJobs(random *rand.Rand) []job {
	longest := []int{6, 20, 60, 150}[random.IntN(4)]
	jobs := make([]job, 1+random.IntN(api.MaxTasks))
	for at := range jobs {
		cost := 1 + random.IntN(min(20, 1+longest/len(jobs)))
		period := 1 + random.IntN(longest/2) + random.IntN(longest)
		deadline := period
		if random.IntN(3) == 0 {
			deadline = 1 + random.IntN(period)
		}
		jobs[at] = job{cost, task(fmt.Sprintf("s%d", cost), period, deadline, random.IntN(99))}
	}
	return jobs
}

// first tells the jobs' numbers, the one that goes ahead of all others first.
func first(jobs []job) []int {
	var numbers []int
	for number := range jobs {
		numbers = append(numbers, number)
	}
	slices.SortStableFunc(numbers, func(a, b int) int { return jobs[a].Period - jobs[b].Period })
	return numbers
}

// played lets all be released at tick 0, each taking all its steps, and tells how many ticks go by until the last of them is done: 0, if that is not within its deadline.
func played(jobs []job) int {
	own := len(jobs) - 1
	left := make([]int, len(jobs))
	left[own] = jobs[own].cost
	for tick := range jobs[own].Deadline {
		for at := range own {
			if tick%jobs[at].Period == 0 {
				left[at] += jobs[at].cost
			}
		}
		busy := slices.IndexFunc(left, func(steps int) bool { return steps > 0 })
		left[busy]--
		if left[own] == 0 {
			return tick + 1
		}
	}
	return 0
}

// searched tries one number behind the other: 0, if none is the last one's response.
func searched(jobs []job) int {
	own := len(jobs) - 1
	for r := 1; r <= jobs[own].Deadline; r++ {
		sum := jobs[own].cost
		for _, ahead := range jobs[:own] {
			times := r / ahead.Period
			if r%ahead.Period > 0 {
				times++
			}
			sum += ahead.cost * times
		}
		if sum == r {
			return r
		}
	}
	return 0
}

// admitted is what Admit must answer.
func admitted(t *testing.T, jobs []job) ([]api.Plan, api.Errno, int) {
	t.Helper()
	plans := make([]api.Plan, len(jobs))
	var ranked []job
	for rank, number := range first(jobs) {
		ranked = append(ranked, jobs[number])
		response := searched(ranked)
		if other := played(ranked); other != response {
			t.Fatalf("%v: %d by search, %d by play", ranked, response, other)
		}
		plans[number] = plan(jobs[number].cost, rank, response)
	}
	for number, p := range plans {
		if p.Response == 0 {
			return nil, api.ErrLate, number
		}
	}
	return plans, api.OK, 0
}

func TestP11AndP12ByHand(t *testing.T) {
	random := rand.New(rand.NewPCG(21, 22))
	s := priced(t)
	good, bad := 0, 0
	for range 20000 {
		jobs := anyJobs(random)
		want, wantErr, wantNumber := admitted(t, jobs)
		got, err, number := rates.Admit(s, tasksOf(jobs))
		if !slices.Equal(got, want) || err != wantErr || number != wantNumber {
			t.Fatalf("Admit(%v) = %v, %d, %d, want %v, %d, %d", jobs, got, err, number, want, wantErr, wantNumber)
		}
		switch {
		case err == api.OK && len(jobs) > 2:
			good++
		case err == api.ErrLate && number > 0:
			bad++
		}
	}
	if good < 2000 || bad < 2000 {
		t.Errorf("only %d of several tasks were admitted, only %d refused behind the first", good, bad)
	}
}
