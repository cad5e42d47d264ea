package forth_test

import (
	"math/rand/v2"
	"reflect"
	"slices"
	"strings"
	"testing"

	"forthwith/api"
	"forthwith/forth"
)

func TestP1AnswersAreTheCallers(t *testing.T) {
	s := loaded(t, ": a 1 ; variable v : b a ;")
	first, second := s.Words(), s.Words()
	first = first[:cap(first)]
	for at := range first {
		first[at] = "x"
	}
	_ = append(second[:1], "y")
	checkWords(t, s, "a v b")
	s.Load(": c ;")
	checkWords(t, s, "a v b c")
	if second[0] != "a" || second[2] != "b" {
		t.Errorf("an answer hangs on another: %q", second)
	}
}

func TestP1OnlyLoadChanges(t *testing.T) {
	s := loaded(t, ": a 1 ;")
	for _, name := range []string{"a", "b", "", ": c ;"} {
		s.Find(name)
		s.Words()
	}
	checkWords(t, s, "a")
	if got, err := s.Find("a"); got != info(0, 1, 1, 2) || err != api.OK {
		t.Errorf("Find = %+v, %d", got, err)
	}
}

func TestP1SystemsAreApart(t *testing.T) {
	a, b := forth.New(), forth.New()
	a.Load("variable v : x 1 ;")
	b.Load(": x 1 2 ; : y x ;")
	a.Load(": z x ;")
	checkWords(t, a, "v x z")
	checkWords(t, b, "x y")
	if got, _ := a.Find("z"); got.Net != 1 {
		t.Errorf("z: %+v", got)
	}
	if got, _ := b.Find("y"); got.Net != 2 {
		t.Errorf("y: %+v", got)
	}
}

func TestP1LongTexts(t *testing.T) {
	const many = 200000
	for _, part := range []string{"if ", "1 0 do ", "1 if else ", "1 ", "i ", "nobody ", ": ", "; ", "\\ ", "\\\n", " ", "x", "9", "0"} {
		text := ": a 1 0 do " + strings.Repeat(part, many)
		if err, at := forth.New().Load(text); err == api.OK || at < 0 || at > len(text) {
			t.Errorf("many %q: %d, %d", part, err, at)
		}
	}
	text := ": a " + strings.Repeat("1 if ", many) + strings.Repeat("then ", many) + ";"
	if err, at := forth.New().Load(text); err != api.ErrFull || at != len(text)-1 {
		t.Errorf("deep: %d, %d", err, at)
	}
}

// mixed makes a text of tokens, most of them where they may stand by luck only.
func mixed(random *rand.Rand) string {
	tokens := strings.Fields(`: : : ; ; ; ; variable if if else then then do do loop loop \ 0 0 1 2 3 -1 1000 2147483647 99999999999 a b c i v dup drop swap + ! @ in out rot é ` + "\xff \xe4\xb8")
	tokens = append(tokens, "\n", "\t", "\r", "")
	var text strings.Builder
	for range random.IntN(30) {
		text.WriteString(tokens[random.IntN(len(tokens))])
		if random.IntN(20) > 0 {
			text.WriteString(" ")
		}
	}
	return text.String()
}

func TestP1WhateverIsLoaded(t *testing.T) {
	random := rand.New(rand.NewPCG(1, 2))
	counts := map[api.Errno]int{}
	for range 3000 {
		s := forth.New()
		for range 4 {
			text := mixed(random)
			before := s.Words()
			err, at := s.Load(text)
			counts[err]++
			if at < 0 || at > len(text) || err == api.OK && at != 0 {
				t.Fatalf("Load(%q) = %d, %d", text, err, at)
			}
			after := s.Words()
			if len(after) < len(before) || !slices.Equal(after[:len(before)], before) {
				t.Fatalf("Load(%q): %q became %q", text, before, after)
			}
			for _, name := range after {
				if got, err := s.Find(name); err != api.OK && got != (api.Info{}) {
					t.Fatalf("Find(%q) = %+v, %d", name, got, err)
				}
			}
		}
	}
	for _, err := range []api.Errno{api.OK, api.ErrText, api.ErrUnknown, api.ErrName, api.ErrNest} {
		if counts[err] == 0 {
			t.Errorf("%d was never answered: %v", err, counts)
		}
	}
}

func TestP1WhateverIsRun(t *testing.T) {
	random := rand.New(rand.NewPCG(11, 12))
	numbers := []int{0, 1, 2, 31, 32, 33, 99, -1, api.MaxFuel, api.MaxFuel + 1, api.MinCell, api.MaxCell, api.MinCell - 1, api.MaxCell + 1, -1 << 63, 1<<63 - 1}
	counts := map[api.Errno]int{}
	for range 2000 {
		s, d, all := made(t, random)
		for _, name := range append(d.names(), "", "dup", "nobody", "\xff", ":") {
			stack, inputs := anyCells(random, random.IntN(40)), anyCells(random, random.IntN(40))
			if random.IntN(4) == 0 {
				inputs = append(inputs, numbers[random.IntN(len(numbers))])
			}
			fuel := numbers[random.IntN(len(numbers))]
			stackWas, inputsWas := slices.Clone(stack), slices.Clone(inputs)
			got, err := s.Run(name, stack, inputs, fuel)
			counts[err]++
			if err != api.OK && !reflect.DeepEqual(got, api.Outcome{}) || err == api.OK && (got.Steps > fuel || len(got.Stack) > api.MaxDepth || len(got.Store) != d.variables) {
				t.Fatalf("Run(%q, %v, %v, %d) = %+v, %d, in %q", name, stack, inputs, fuel, got, err, all)
			}
			if !slices.Equal(stack, stackWas) || !slices.Equal(inputs, inputsWas) {
				t.Fatalf("Run(%q) wrote into what was handed in", name)
			}
		}
	}
	for _, err := range []api.Errno{api.OK, api.ErrUnknown, api.ErrArg} {
		if counts[err] < 500 {
			t.Errorf("%d was answered too seldom: %v", err, counts)
		}
	}
}
