package effect

import (
	"testing"

	"forthwith/api"
)

func TestStep(t *testing.T) {
	for _, k := range []struct {
		takes, puts int
		want        Effect
	}{
		{0, 0, Effect{}}, {0, 1, Effect{0, 1, 1}}, {2, 1, Effect{2, -1, 0}}, {2, 3, Effect{2, 1, 1}}, {3, 3, Effect{3, 0, 0}},
	} {
		if got := Step(k.takes, k.puts); got != (Timed{Effect: k.want, Steps: 1}) {
			t.Errorf("Step(%d, %d) = %+v", k.takes, k.puts, got)
		}
	}
}

func TestThen(t *testing.T) {
	put, drop, add := Step(0, 1), Step(1, 0), Step(2, 1)
	for _, k := range []struct {
		got  Timed
		want Timed
	}{
		{put.Then(drop), Timed{Effect{0, 0, 1}, 2, false}},
		{drop.Then(put), Timed{Effect{1, 0, 0}, 2, false}},
		{add.Then(add), Timed{Effect{3, -2, 0}, 2, false}},
		{put.Then(put).Then(add), Timed{Effect{0, 1, 2}, 3, false}},
		{drop.Then(drop).Then(put), Timed{Effect{2, -1, 0}, 3, false}},
		{Timed{Branches: true}.Then(put), Timed{Effect{0, 1, 1}, 1, true}},
		{put.Then(Timed{Branches: true}), Timed{Effect{0, 1, 1}, 1, true}},
		{Timed{}.Then(add), add},
		{add.Then(Timed{}), add},
	} {
		if k.got != k.want {
			t.Errorf("%+v, want %+v", k.got, k.want)
		}
	}
}

func TestOr(t *testing.T) {
	a, b := Timed{Effect{3, 1, 1}, 2, false}, Timed{Effect{0, 1, 5}, 9, true}
	want := Timed{Effect{3, 1, 5}, 9, true}
	if a.Or(b) != want || b.Or(a) != want {
		t.Errorf("%+v, %+v, want %+v", a.Or(b), b.Or(a), want)
	}
}

func TestAgreesAndLevel(t *testing.T) {
	put, swap, drop := Step(0, 1), Step(2, 2), Step(1, 0)
	if !put.Agrees(Step(2, 3).Effect) || put.Agrees(swap.Effect) || put.Agrees(drop.Effect) {
		t.Error("Agrees is not of the net")
	}
	if !swap.Level() || put.Level() || drop.Level() {
		t.Error("Level is not of the net")
	}
}

func TestTimes(t *testing.T) {
	round := Timed{Effect{2, 0, 1}, 7, true}
	if got := round.Times(3); got != (Timed{Effect{2, 0, 1}, 21, true}) {
		t.Errorf("three times: %+v", got)
	}
	if got := round.Times(0); got != (Timed{Branches: true}) {
		t.Errorf("no times: %+v", got)
	}
}

func TestStepsNeverWrapRound(t *testing.T) {
	long := Timed{Steps: api.MaxSteps}
	if long.TooLong() || !long.Then(Step(0, 0)).TooLong() {
		t.Error("the bound is not MaxSteps")
	}
	for range 100 {
		long = long.Times(api.MaxTimes)
		long = long.Then(long)
		if !long.TooLong() || long.Steps < 0 {
			t.Fatalf("%d steps", long.Steps)
		}
	}
	if got := long.Times(0); got.TooLong() {
		t.Errorf("no times: %d steps", got.Steps)
	}
}
