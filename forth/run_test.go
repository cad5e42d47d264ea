package forth_test

import (
	"reflect"
	"slices"
	"strconv"
	"strings"
	"testing"

	"forthwith/api"
	"forthwith/forth"
)

// alike holds outcomes against each other; a list of nothing may be nil or empty.
func alike(a, b api.Outcome) bool {
	return slices.Equal(a.Stack, b.Stack) && slices.Equal(a.Outputs, b.Outputs) && slices.Equal(a.Store, b.Store) && a.Steps == b.Steps && a.End == b.End
}

// trial is a run of f, in a new system with that text.
type trial struct {
	text          string
	stack, inputs []int
	fuel          int
	want          api.Outcome
}

func checkTrials(t *testing.T, trials []trial) {
	t.Helper()
	for _, k := range trials {
		got, err := loaded(t, k.text).Run("f", k.stack, k.inputs, k.fuel)
		if err != api.OK || !alike(got, k.want) {
			t.Errorf("%.70q: Run(f, %v, %v, %d) = %+v, %d, want %+v", k.text, k.stack, k.inputs, k.fuel, got, err, k.want)
		}
	}
}

func cells(many int) []int {
	list := make([]int, many)
	for at := range list {
		list[at] = at + 1
	}
	return list
}

func TestP8WordsThatAreThere(t *testing.T) {
	for _, k := range []struct{ text, leaves string }{
		{"7 5 +", "12"}, {"2147483647 1 +", "-2147483648"}, {"-2147483648 -1 +", "2147483647"},
		{"5 7 -", "-2"}, {"-2147483648 1 -", "2147483647"}, {"0 -2147483648 -", "-2147483648"},
		{"-3 5 *", "-15"}, {"65536 32768 *", "-2147483648"}, {"-2147483648 -1 *", "-2147483648"}, {"2147483647 2147483647 *", "1"},
		{"12 10 and", "8"}, {"12 10 or", "14"}, {"12 10 xor", "6"}, {"-1 -2147483648 and", "-2147483648"}, {"1 -2147483648 or", "-2147483647"}, {"-1 2147483647 xor", "-2147483648"},
		{"7 2 /", "3"}, {"-7 2 /", "-4"}, {"7 -2 /", "-4"}, {"-7 -2 /", "3"}, {"6 -2 /", "-3"}, {"-1 2147483647 /", "-1"}, {"0 -5 /", "0"}, {"-2147483648 -1 /", "-2147483648"},
		{"7 2 mod", "1"}, {"-7 2 mod", "1"}, {"7 -2 mod", "-1"}, {"-7 -2 mod", "-1"}, {"6 -2 mod", "0"}, {"-1 2147483647 mod", "2147483646"}, {"-2147483648 -1 mod", "0"},
		{"7 0 /", "0"}, {"-7 0 /", "0"}, {"0 0 /", "0"}, {"7 0 mod", "7"}, {"-7 0 mod", "-7"}, {"0 0 mod", "0"},
		{"3 3 =", "-1"}, {"3 -3 =", "0"}, {"2 3 <", "-1"}, {"3 3 <", "0"}, {"3 2 <", "0"}, {"3 2 >", "-1"}, {"3 3 >", "0"}, {"2 3 >", "0"}, {"-2147483648 2147483647 <", "-1"}, {"-2147483648 2147483647 >", "0"},
		{"-3 2 min", "-3"}, {"2 -3 min", "-3"}, {"-3 2 max", "2"}, {"2 -3 max", "2"},
		{"5 negate", "-5"}, {"-5 negate", "5"}, {"0 negate", "0"}, {"-2147483648 negate", "-2147483648"}, {"-5 abs", "5"}, {"5 abs", "5"}, {"-2147483648 abs", "-2147483648"}, {"2147483647 abs", "2147483647"},
		{"0 0=", "-1"}, {"1 0=", "0"}, {"-1 0=", "0"},
		{"1 2 dup", "1 2 2"}, {"1 2 drop", "1"}, {"0 1 2 swap", "0 2 1"}, {"0 1 2 over", "0 1 2 1"}, {"0 1 2 3 rot", "0 2 3 1"}, {"0 1 2 nip", "0 2"}, {"0 1 2 tuck", "0 2 1 2"},
		{"in in in in", "8 -9 0 0"}, {"5 6 out", "5"}, {"v w", "0 1"}, {"v @ w @", "0 0"}, {"4 w ! w @ v @", "4 0"}, {"-7", "-7"}, {"2 i *", "42"},
	} {
		got, err := loaded(t, "variable v variable w : i 21 ; : f "+k.text+" ;").Run("f", nil, []int{8, -9}, 99)
		var list []string
		for _, cell := range got.Stack {
			list = append(list, strconv.Itoa(cell))
		}
		if err != api.OK || got.End != api.Halted || strings.Join(list, " ") != k.leaves {
			t.Errorf("%s leaves %v (%d, %d), want %s", k.text, got.Stack, got.End, err, k.leaves)
		}
	}
}

func TestP8Ways(t *testing.T) {
	clip := ": f dup 0 < if drop 0 else 1 + then ;"
	nested := ": f if if 1 else 2 then else if 3 else 4 then then out ;"
	checkTrials(t, []trial{
		{clip, []int{5}, nil, 9, api.Outcome{Stack: []int{6}, Steps: 7}},
		{clip, []int{-5}, nil, 9, api.Outcome{Stack: []int{0}, Steps: 8}},
		{": f if negate then ;", []int{9, 0}, nil, 9, api.Outcome{Stack: []int{9}, Steps: 2}},
		{": f if negate then ;", []int{9, api.MinCell}, nil, 9, api.Outcome{Stack: []int{-9}, Steps: 3}},
		{": f if else negate then ;", []int{9, 0}, nil, 9, api.Outcome{Stack: []int{-9}, Steps: 3}},
		{": f if else negate then ;", []int{9, -1}, nil, 9, api.Outcome{Stack: []int{9}, Steps: 3}},
		{nested, []int{1, 1}, nil, 9, api.Outcome{Outputs: []int{1}, Steps: 7}},
		{nested, []int{0, 1}, nil, 9, api.Outcome{Outputs: []int{2}, Steps: 6}},
		{nested, []int{1, 0}, nil, 9, api.Outcome{Outputs: []int{3}, Steps: 6}},
		{nested, []int{0, 0}, nil, 9, api.Outcome{Outputs: []int{4}, Steps: 5}},
		{": f 0 5 1 do i + loop ;", nil, nil, 99, api.Outcome{Stack: []int{10}, Steps: 17}},
		{": f 1 0 do i out loop ;", nil, nil, 99, api.Outcome{Outputs: []int{0}, Steps: 7}},
		{": f 0 0 do drop 1 loop ;", nil, nil, 99, api.Outcome{Steps: 4}},
		{": f -5 9 do 1 if i out then loop 8 out ;", nil, nil, 99, api.Outcome{Outputs: []int{8}, Steps: 6}},
		{": f 2147483647 2147483645 do i out loop ;", nil, nil, 99, api.Outcome{Outputs: []int{2147483645, 2147483646}, Steps: 10}},
		{": f -2147483647 -2147483648 do i out loop ;", nil, nil, 99, api.Outcome{Outputs: []int{api.MinCell}, Steps: 7}},
		{": f 2 0 do 8 6 do i out loop i out loop ;", nil, nil, 99, api.Outcome{Outputs: []int{6, 7, 0, 6, 7, 1}, Steps: 28}},
		{": g 2 0 do i out loop ; : f 9 7 do g i out loop ;", nil, nil, 99, api.Outcome{Outputs: []int{0, 1, 7, 0, 1, 8}, Steps: 32}},
		{": g 0 0 do loop ; : f 5 4 do g i out loop ;", nil, nil, 99, api.Outcome{Outputs: []int{4}, Steps: 12}},
		{": g out ; : g 7 g g ; : f g ;", []int{5}, nil, 99, api.Outcome{Outputs: []int{7, 5}, Steps: 10}},
		{": f 1 ; : g f f ; : f 2 g ;", nil, nil, 99, api.Outcome{Stack: []int{2, 1, 1}, Steps: 10}},
		{": f ;", []int{4}, []int{5}, 1, api.Outcome{Stack: []int{4}, Steps: 1}},
	})
}

func TestP8Variables(t *testing.T) {
	s := loaded(t, "variable a : f a @ 1 + a ! ; variable a variable b")
	for range 3 {
		got, err := s.Run("f", nil, nil, 99)
		if want := (api.Outcome{Store: []int{1, 0, 0}, Steps: 7}); err != api.OK || !alike(got, want) {
			t.Errorf("Run = %+v, %d, want %+v", got, err, want)
		}
	}
	s = loaded(t, ": f @ ;")
	for variables := range api.MaxCells + 1 {
		for _, number := range []int{api.MinCell, -1, 0, 1, 15, 16, api.MaxCell} {
			got, _ := s.Run("f", []int{number}, nil, 9)
			want := api.Outcome{Stack: []int{number}, Store: make([]int, variables), Steps: 1, End: api.Address}
			if number >= 0 && number < variables {
				want.Stack, want.Steps, want.End = []int{0}, 2, api.Halted
			}
			if !alike(got, want) {
				t.Errorf("%d of %d variables: %+v, want %+v", number, variables, got, want)
			}
		}
		s.Load("variable v")
	}
}

func TestP8Fuel(t *testing.T) {
	text := "variable v : g out ; : f 7 v ! if 4 g else then 2 0 do loop ;"
	after := []api.Outcome{
		{Stack: []int{1}, Store: []int{0}},
		{Stack: []int{1, 7}, Store: []int{0}},
		{Stack: []int{1, 7, 0}, Store: []int{0}},
		{Stack: []int{1}, Store: []int{7}},
		{Store: []int{7}}, // if
		{Stack: []int{4}, Store: []int{7}},
		{Stack: []int{4}, Store: []int{7}}, // g is begun
		{Outputs: []int{4}, Store: []int{7}},
		{Outputs: []int{4}, Store: []int{7}}, // its `;`
		{Outputs: []int{4}, Store: []int{7}}, // else
		{Stack: []int{2}, Outputs: []int{4}, Store: []int{7}},
		{Stack: []int{2, 0}, Outputs: []int{4}, Store: []int{7}},
		{Outputs: []int{4}, Store: []int{7}}, // do
		{Outputs: []int{4}, Store: []int{7}}, // loop
		{Outputs: []int{4}, Store: []int{7}}, // loop
		{Outputs: []int{4}, Store: []int{7}}, // `;`
	}
	var trials []trial
	for steps, want := range after {
		want.Steps, want.End = steps, api.Fuel
		if steps == len(after)-1 {
			want.End = api.Halted
		}
		trials = append(trials, trial{text, []int{1}, nil, steps, want})
	}
	most := after[len(after)-1]
	most.Steps = len(after) - 1
	trials = append(trials, trial{text, []int{1}, nil, api.MaxFuel, most})
	long := ": f 1000 0 do 1000 0 do loop loop ;"
	trials = append(trials, trial{long, nil, nil, api.MaxFuel, api.Outcome{Steps: api.MaxFuel, End: api.Fuel}})
	checkTrials(t, trials)
}

func TestP8Errors(t *testing.T) {
	s := loaded(t, "variable v : f ; : w ; variable w : x ; variable x : x 1 ;")
	refused := func(name string, stack, inputs []int, fuel int, want api.Errno) {
		t.Helper()
		if got, err := s.Run(name, stack, inputs, fuel); err != want || !reflect.DeepEqual(got, api.Outcome{}) {
			t.Errorf("Run(%q, %v, %v, %d) = %+v, %d, want %d", name, stack, inputs, fuel, got, err, want)
		}
	}
	for _, name := range []string{"", "v", "w", "dup", "i", "f ", "F", ":", "7", "nobody", "\xff"} {
		refused(name, nil, nil, 9, api.ErrUnknown)
		refused(name, cells(99), []int{1 << 40}, -1, api.ErrUnknown)
	}
	refused("f", cells(api.MaxDepth+1), nil, 9, api.ErrArg)
	refused("f", nil, nil, -1, api.ErrArg)
	refused("f", nil, nil, api.MaxFuel+1, api.ErrArg)
	refused("f", nil, nil, -1<<63, api.ErrArg)
	refused("f", nil, nil, 1<<63-1, api.ErrArg)
	for _, n := range []int{api.MinCell - 1, api.MaxCell + 1, 1 << 32, -1 << 63, 1<<63 - 1} {
		refused("f", []int{n}, nil, 9, api.ErrArg)
		refused("f", []int{0, n, 0}, nil, 9, api.ErrArg)
		refused("f", nil, []int{n}, 9, api.ErrArg)
		refused("f", nil, append(make([]int, 50), n), 0, api.ErrArg)
	}
}

func TestP8MostThatMayBeHandedIn(t *testing.T) {
	edges := []int{api.MinCell, api.MaxCell}
	checkTrials(t, []trial{
		{": f ;", cells(api.MaxDepth), make([]int, 1000), api.MaxFuel, api.Outcome{Stack: cells(api.MaxDepth), Steps: 1}},
		{": f in in ;", edges, edges, 99, api.Outcome{Stack: append(edges, edges...), Steps: 3}},
	})
	if got, err := loaded(t, "variable f : f 1 ;").Run("f", nil, nil, 2); err != api.OK || got.Steps != 2 {
		t.Errorf("a word that was a variable: %+v, %d", got, err)
	}
}

func TestP9Under(t *testing.T) {
	var trials []trial
	for need, words := range map[int]string{
		1: "negate abs 0= dup drop @ out",
		2: "+ - * and or xor / mod = < > min max swap over nip tuck !",
		3: "rot",
	} {
		for _, word := range strings.Fields(words) {
			for depth := range need {
				trials = append(trials, trial{": f " + word + " ;", cells(depth), nil, 9, api.Outcome{Stack: cells(depth), Steps: 1, End: api.Under}})
			}
		}
	}
	trials = append(trials,
		trial{": f if then ;", nil, nil, 9, api.Outcome{Steps: 1, End: api.Under}},
		trial{": g drop drop ; : f g ;", []int{1}, nil, 9, api.Outcome{Steps: 3, End: api.Under}},
		trial{": f out out ;", []int{5}, nil, 9, api.Outcome{Outputs: []int{5}, Steps: 2, End: api.Under}},
		trial{": f out out ;", []int{5}, nil, 2, api.Outcome{Outputs: []int{5}, Steps: 2, End: api.Under}},
		trial{": f out out ;", []int{5}, nil, 1, api.Outcome{Outputs: []int{5}, Steps: 1, End: api.Fuel}},
		trial{": f 2 0 do + 1 loop ;", []int{9}, nil, 99, api.Outcome{Stack: []int{9}, Steps: 4, End: api.Under}},
	)
	checkTrials(t, trials)
}

func TestP9Address(t *testing.T) {
	store := func(cells ...int) []int { return cells }
	checkTrials(t, []trial{
		{": f @ ;", []int{0}, nil, 9, api.Outcome{Stack: []int{0}, Steps: 1, End: api.Address}},
		{": f ! ;", []int{4, 0}, nil, 9, api.Outcome{Stack: []int{4, 0}, Steps: 1, End: api.Address}},
		{": f ! ;", []int{0}, nil, 9, api.Outcome{Stack: []int{0}, Steps: 1, End: api.Under}},
		{": f @ ;", nil, nil, 9, api.Outcome{Steps: 1, End: api.Under}},
		{"variable v : f ! ;", []int{0, 1}, nil, 9, api.Outcome{Stack: []int{0, 1}, Store: store(0), Steps: 1, End: api.Address}},
		{"variable v : f ! ;", []int{0, -1}, nil, 9, api.Outcome{Stack: []int{0, -1}, Store: store(0), Steps: 1, End: api.Address}},
		{"variable v : f ! ;", []int{-1, 0}, nil, 9, api.Outcome{Store: store(-1), Steps: 2}},
		{"variable v variable w : f 3 v ! -1 ! ;", []int{6}, nil, 9, api.Outcome{Stack: []int{6, -1}, Store: store(3, 0), Steps: 5, End: api.Address}},
		{": g @ ; : f g ;", cells(api.MaxDepth), nil, 9, api.Outcome{Stack: cells(api.MaxDepth), Steps: 2, End: api.Address}},
		{"variable v : f @ ;", []int{api.MinCell}, nil, 1, api.Outcome{Stack: []int{api.MinCell}, Store: store(0), Steps: 1, End: api.Address}},
		{"variable v : f @ ;", []int{9}, nil, 0, api.Outcome{Stack: []int{9}, Store: store(0), End: api.Fuel}},
	})
}

func TestP9Over(t *testing.T) {
	full, almost := cells(api.MaxDepth), cells(api.MaxDepth-1)
	var trials []trial
	for _, word := range strings.Fields("7 v in dup over tuck") {
		text := "variable v : f " + word + " ;"
		trials = append(trials, trial{text, full, []int{3}, 9, api.Outcome{Stack: full, Store: []int{0}, Steps: 1, End: api.Over}})
		if got, err := loaded(t, text).Run("f", almost, []int{3}, 9); err != api.OK || got.End != api.Halted || len(got.Stack) != api.MaxDepth {
			t.Errorf("%s fills the stack: %+v, %d", word, got, err)
		}
	}
	trials = append(trials,
		trial{": f in drop ;", full, []int{3}, 9, api.Outcome{Stack: full, Steps: 1, End: api.Over}},
		trial{": f swap rot nip ;", full, nil, 9, api.Outcome{Stack: append(cells(29), 32, 30), Steps: 4}},
		trial{": f 3 0 do loop ;", almost, nil, 9, api.Outcome{Stack: append(cells(31), 3), Steps: 2, End: api.Over}},
		trial{": f out 3 0 do i drop loop ;", full, nil, 9, api.Outcome{Stack: append(cells(31), 3), Outputs: []int{32}, Steps: 3, End: api.Over}},
		trial{": f drop drop 3 0 do i i drop drop loop ;", full, nil, 99, api.Outcome{Stack: cells(30), Steps: 21}},
		trial{": f drop 1 0 ;", full, nil, 99, api.Outcome{Stack: append(cells(31), 1), Steps: 3, End: api.Over}},
		trial{": g 1 ; : f g ;", full, nil, 1, api.Outcome{Stack: full, Steps: 1, End: api.Fuel}},
		trial{": g 1 ; : f g ;", full, nil, 2, api.Outcome{Stack: full, Steps: 2, End: api.Over}},
	)
	checkTrials(t, trials)
}

func TestP8DeepWords(t *testing.T) {
	s := loaded(t, ": w0 1 ;")
	for at := range api.MaxWords - 1 {
		s.Load(": w" + strconv.Itoa(at+1) + " w" + strconv.Itoa(at) + " ;")
	}
	got, err := s.Run("w39", nil, nil, 99)
	if want := (api.Outcome{Stack: []int{1}, Steps: 80}); err != api.OK || !alike(got, want) {
		t.Errorf("calls: %+v, %d", got, err)
	}
	const nested = 98
	s = loaded(t, ": f "+strings.Repeat("1 0 do ", nested)+"i out "+strings.Repeat("loop ", nested)+";")
	got, err = s.Run("f", nil, nil, 999)
	if want := (api.Outcome{Outputs: []int{0}, Steps: 4*nested + 3}); err != api.OK || !alike(got, want) {
		t.Errorf("loops: %+v, %d", got, err)
	}
}

func TestP1RunLeavesWhatIsHandedIn(t *testing.T) {
	s := loaded(t, "variable v : f drop 9 8 in in v ! out ;")
	stack, inputs := cells(12), cells(12)
	first, _ := s.Run("f", stack[:3], inputs[:2], 99)
	if !slices.Equal(stack, cells(12)) || !slices.Equal(inputs, cells(12)) {
		t.Errorf("became %v, %v", stack, inputs)
	}
	want := api.Outcome{Stack: []int{1, 2, 9, 8}, Outputs: []int{1}, Store: []int{2}, Steps: 9}
	for at := range stack {
		stack[at], inputs[at] = -1, -1
	}
	if !alike(first, want) {
		t.Errorf("the answer hangs on what was handed in: %+v, want %+v", first, want)
	}
}

func TestP1OutcomesAreTheCallers(t *testing.T) {
	s := loaded(t, "variable v variable w : f 3 v ! 4 w ! out out 7 ; : g 5 0 do i out loop ;")
	given := cells(4)
	want := api.Outcome{Stack: []int{1, 2, 7}, Outputs: []int{4, 3}, Store: []int{3, 4}, Steps: 10}
	for which := range 3 {
		got, _ := s.Run("f", given, nil, 99)
		other, _ := s.Run("f", given, nil, 99)
		for at, list := range [][]int{got.Stack, got.Outputs, got.Store} {
			if at == which {
				list = list[:cap(list)]
				for n := range list {
					list[n] = -77
				}
			}
		}
		kept := [][]int{got.Stack, got.Outputs, got.Store}
		wants := [][]int{want.Stack, want.Outputs, want.Store}
		for at := range kept {
			if at != which && !slices.Equal(kept[at], wants[at]) {
				t.Errorf("list %d hangs on list %d: %v", at, which, kept[at])
			}
		}
		again, _ := s.Run("f", given, nil, 99)
		if !alike(other, want) || !alike(again, want) || !slices.Equal(given, cells(4)) {
			t.Errorf("an answer hangs on another: %+v, %+v, %v", other, again, given)
		}
	}
}

func TestP1RunChangesNoSystem(t *testing.T) {
	text := "variable v : f v @ 1 + dup v ! out ; : g 3 0 do f loop ;"
	s, fresh := loaded(t, text), loaded(t, text)
	for _, fuel := range []int{99, 3, 0, -1} {
		for _, name := range []string{"g", "f", "v", "nobody"} {
			s.Run(name, nil, nil, fuel)
		}
	}
	checkSame(t, s, fresh, []string{"v", "f", "g"})
	s.Load(": h g g ;")
	fresh.Load(": h g g ;")
	checkSame(t, s, fresh, []string{"v", "f", "g", "h"})
}

// checkSame holds two systems' words against each other, by all that can be told of them.
func checkSame(t *testing.T, a, b *forth.System, names []string) {
	t.Helper()
	if !slices.Equal(a.Words(), b.Words()) {
		t.Fatalf("Words: %q, %q", a.Words(), b.Words())
	}
	for _, name := range names {
		one, oneErr := a.Find(name)
		two, twoErr := b.Find(name)
		if one != two || oneErr != twoErr {
			t.Errorf("Find(%q): %+v, %d, and %+v, %d", name, one, oneErr, two, twoErr)
		}
		for depth := range 4 {
			one, oneErr := a.Run(name, cells(depth), cells(3), 200)
			two, twoErr := b.Run(name, cells(depth), cells(3), 200)
			if !alike(one, two) || oneErr != twoErr {
				t.Errorf("Run(%q): %+v, %d, and %+v, %d", name, one, oneErr, two, twoErr)
			}
		}
	}
}
