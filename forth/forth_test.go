package forth_test

import (
	"slices"
	"strings"
	"testing"

	"forthwith/api"
	"forthwith/forth"
)

// answer is what Load is to say of a text, in a new system.
type answer struct {
	text string
	err  api.Errno
	at   int
}

func checkLoads(t *testing.T, answers []answer) {
	t.Helper()
	for _, k := range answers {
		if err, at := forth.New().Load(k.text); err != k.err || at != k.at {
			t.Errorf("Load(%.70q) = %d, %d, want %d, %d", k.text, err, at, k.err, k.at)
		}
	}
}

func loaded(t *testing.T, text string) *forth.System {
	t.Helper()
	s := forth.New()
	if err, at := s.Load(text); err != api.OK || at != 0 {
		t.Fatalf("Load(%.70q) = %d, %d", text, err, at)
	}
	return s
}

func checkWords(t *testing.T, s *forth.System, names string) {
	t.Helper()
	if got := s.Words(); !slices.Equal(got, strings.Fields(names)) {
		t.Errorf("Words() = %q, want %s", got, names)
	}
}

func info(need, net, high, steps int) api.Info {
	return api.Info{Need: need, Net: net, High: high, Steps: steps, Straight: true}
}

func branching(need, net, high, steps int) api.Info {
	return api.Info{Need: need, Net: net, High: high, Steps: steps}
}

func TestP2NewHasNothing(t *testing.T) {
	s := forth.New()
	checkWords(t, s, "")
	for _, name := range []string{"", "dup", "a", "0"} {
		if got, err := s.Find(name); got != (api.Info{}) || err != api.ErrUnknown {
			t.Errorf("Find(%q) = %+v, %d", name, got, err)
		}
	}
	for range api.MaxCells {
		if err, at := s.Load("variable v"); err != api.OK || at != 0 {
			t.Errorf("a variable: %d, %d", err, at)
		}
	}
}

func TestP3BrokenTextGoesAheadOfAll(t *testing.T) {
	checkLoads(t, []answer{
		{"\xff", api.ErrText, 0},
		{"nobody \xc3", api.ErrText, 7},
		{": a 1 ; \xe4\xb8", api.ErrText, 8},
		{": \ufffd \ufffd\xbf", api.ErrText, 9},
		{"\\ \xf5", api.ErrText, 2},
		{": a\xed\xa0\x80 ;", api.ErrText, 3},
		{": \ufffd ; : b \ufffd ;", api.OK, 0},
	})
	s := forth.New()
	s.Load(": a 1 ; \x80")
	checkWords(t, s, "")
}

func TestP3Tokens(t *testing.T) {
	checkLoads(t, []answer{
		{"", api.OK, 0},
		{"\n\t ", api.OK, 0},
		{`\`, api.OK, 0},
		{"\\ : if \xc3\xa9 ;", api.OK, 0},
		{"\\\n:\\ \na ;", api.ErrUnknown, 2},
		{": \\ name\n\ta \\ items\n1 \\ end\n;", api.OK, 0},
		{": a \\ 1 ;", api.ErrNest, 9},
		{": \\ a ;", api.ErrName, 7},
		{": é 世 ;", api.ErrUnknown, 5},
		{": a\u00a0 ;", api.OK, 0},
		{": a 1\u00a0 ;", api.ErrUnknown, 4},
		{": a\r1 ;\r", api.ErrUnknown, 6},
	})
}

func TestP3Definitions(t *testing.T) {
	checkLoads(t, []answer{
		{": a ; variable b : c b @ a ;", api.OK, 0},
		{"a", api.ErrUnknown, 0},
		{": a ; a", api.ErrUnknown, 6},
		{": a ; 7", api.ErrUnknown, 6},
		{": a ; dup", api.ErrUnknown, 6},
		{"then", api.ErrUnknown, 0},
		{" ; : a ;", api.ErrUnknown, 1},
		{": a ; loop", api.ErrUnknown, 6},
	})
}

func TestP3Names(t *testing.T) {
	answers := []answer{
		{":", api.ErrName, 1},
		{":  ", api.ErrName, 3},
		{"variable \\ v", api.ErrName, 12},
		{": -2147483648 ;", api.ErrName, 2},
		{": -2147483649 ;", api.OK, 0},
		{"variable 2147483647", api.ErrName, 9},
		{"variable 2147483648", api.OK, 0},
		{": - ; : -- ; : +1 ;", api.OK, 0},
		{"variable " + strings.Repeat("世", 16), api.OK, 0},
		{"variable " + strings.Repeat("世", 17), api.ErrName, 9},
		{": " + strings.Repeat("0", 17) + " ;", api.ErrName, 2},
	}
	for _, token := range strings.Fields(": ; variable if else then do loop") {
		answers = append(answers, answer{": " + token + " ;", api.ErrName, 2}, answer{"variable " + token, api.ErrName, 9})
	}
	checkLoads(t, answers)
}

func TestP3Full(t *testing.T) {
	s := forth.New()
	s.Load(strings.Repeat("variable v ", api.MaxCells))
	if err, at := s.Load(": a ; variable v"); err != api.ErrFull || at != 15 {
		t.Errorf("one variable too many: %d, %d", err, at)
	}
	if err, at := s.Load("variable 1"); err != api.ErrName || at != 9 {
		t.Errorf("no name, and one variable too many: %d, %d", err, at)
	}
	s.Load(strings.Repeat(": a ; ", api.MaxWords-api.MaxCells-2))
	if err, at := s.Load(": b ;"); err != api.OK || at != 0 {
		t.Errorf("the last name that there is room for: %d, %d", err, at)
	}
	for _, k := range []answer{
		{": a ;", api.ErrFull, 2}, {": ab nobody", api.ErrFull, 2}, {": 1 ;", api.ErrName, 2}, {"variable w", api.ErrFull, 9}, {"variable", api.ErrName, 8}, {"x", api.ErrUnknown, 0},
	} {
		if err, at := s.Load(k.text); err != k.err || at != k.at {
			t.Errorf("with no room: Load(%q) = %d, %d, want %d, %d", k.text, err, at, k.err, k.at)
		}
	}
	few := loaded(t, strings.Repeat(": a ; ", api.MaxWords-1)+"variable v")
	if err, at := few.Load("variable w"); err != api.ErrFull || at != 9 {
		t.Errorf("no room for a variable's name: %d, %d", err, at)
	}
}

func TestP3TokensOfAllDefinitions(t *testing.T) {
	s := loaded(t, "variable v : l "+strings.Repeat("v drop ", 98)+";") // 199 tokens
	for _, text := range []string{": m 1 1 1 if", ": m " + strings.Repeat("1 ", 200) + ";", ": m nobody ;"} {
		if err, _ := s.Load(text); err == api.OK {
			t.Errorf("Load(%.20q) = OK", text)
		}
	}
	rest := ": m " + strings.Repeat("1 \\ one\n", 198)
	if err, at := s.Load(rest + "1 ;"); err != api.ErrFull || at != len(rest)+2 {
		t.Errorf("401 tokens: %d, %d", err, at)
	}
	if err, at := s.Load(rest + ";"); err != api.OK || at != 0 {
		t.Errorf("400 tokens: %d, %d", err, at)
	}
	if err, at := s.Load("variable w : m ;"); err != api.ErrFull || at != 15 {
		t.Errorf("403 tokens: %d, %d", err, at)
	}
	checkWords(t, s, "v l m w")
}

// billion takes 999,999,007 steps, and one more for each time of the first loop.
func billion(times string) string {
	return ": a " + times + " 0 do loop 1000 0 do 992 0 do loop 1000 0 do 995 0 do loop loop loop ;"
}

func TestP3TooManySteps(t *testing.T) {
	if got, err := loaded(t, billion("993")).Find("a"); got != info(0, 0, 2, api.MaxSteps) || err != api.OK {
		t.Errorf("MaxSteps: %+v, %d", got, err)
	}
	more := billion("994")
	nested := func(depth int) string {
		return strings.Repeat("1000 0 do ", depth) + strings.Repeat("loop ", depth)
	}
	checkLoads(t, []answer{
		{more, api.ErrLimit, len(more) - 1},
		{billion("993") + " : b a ;", api.ErrLimit, len(more) + 7},
		{": a " + nested(22) + ";", api.ErrLimit, 4 + len(nested(22))},
		{": a " + nested(99) + ";", api.ErrLimit, 4 + len(nested(99))},
		{": a " + nested(100) + ";", api.ErrLimit, 4 + len(nested(100))}, // and too many tokens
		{": a 0 0 do " + nested(22) + "loop ;", api.OK, 0},
	})
}

func TestP3RefusedDefinitionIsNotKept(t *testing.T) {
	s := forth.New()
	if err, at := s.Load("variable v : a 1 ; : b a nobody ; : c ;"); err != api.ErrUnknown || at != 25 {
		t.Errorf("Load = %d, %d", err, at)
	}
	checkWords(t, s, "v a")
	for _, k := range []answer{{": a 1 2", api.ErrNest, 7}, {": a b ;", api.ErrUnknown, 4}, {": a 1 if ;", api.ErrNest, 9}} {
		if err, at := s.Load(k.text); err != k.err || at != k.at {
			t.Errorf("Load(%q) = %d, %d, want %d, %d", k.text, err, at, k.err, k.at)
		}
	}
	if got, _ := s.Find("a"); got != info(0, 1, 1, 2) {
		t.Errorf("a is now %+v", got)
	}
	checkWords(t, s, "v a")
}

func TestP3DefinedAgain(t *testing.T) {
	s := loaded(t, ": a 1 ; : b a ; : a a a ; : c a ;")
	for name, want := range map[string]api.Info{"a": info(0, 2, 2, 7), "b": info(0, 1, 1, 4), "c": info(0, 2, 2, 9)} {
		if got, err := s.Find(name); got != want || err != api.OK {
			t.Errorf("%s: %+v, %d, want %+v", name, got, err, want)
		}
	}
	checkLoads(t, []answer{
		{": a a ;", api.ErrUnknown, 4},
		{": i i ;", api.ErrNest, 4},
		{": dup dup ; : f 1 dup + ;", api.OK, 0},
	})
}

func TestP4Items(t *testing.T) {
	checkLoads(t, []answer{
		{": f 2147483647 -2147483648 00 -00 ;", api.OK, 0},
		{": f 2147483648 ;", api.ErrUnknown, 4},
		{": 2147483648 1 ; : f 2147483648 ;", api.OK, 0},
		{": f + - * and or xor / mod = < > min max negate abs 0= ;", api.OK, 0},
		{": f dup drop swap over rot nip tuck @ ! in out ;", api.OK, 0},
		{": f DUP ;", api.ErrUnknown, 4},
		{": f 1+ ;", api.ErrUnknown, 4},
		{": f " + strings.Repeat("x", 17) + " ;", api.ErrUnknown, 4},
		{": f if dup else dup then ;", api.OK, 0},
		{": f if if else then then ;", api.ErrEffect, 20},
		{": f if if else then else drop then ;", api.OK, 0},
		{": f if drop then ;", api.ErrEffect, 12},
		{": f if 1 2 else 1 then ;", api.ErrEffect, 18},
		{": f if 1 else 1 2 nobody then ;", api.ErrUnknown, 18},
	})
	own := loaded(t, ": + drop drop drop ; variable @ : f + @ ;")
	if got, _ := own.Find("f"); got != info(3, -2, 0, 7) {
		t.Errorf("one's own go ahead: %+v", got)
	}
}

func TestP4Nest(t *testing.T) {
	checkLoads(t, []answer{
		{": f else", api.ErrNest, 4}, {": f then", api.ErrNest, 4}, {": f loop", api.ErrNest, 4}, {": f :", api.ErrNest, 4}, {": f variable", api.ErrNest, 4},
		{": f if loop", api.ErrNest, 7}, {": f if ;", api.ErrNest, 7}, {": f if :", api.ErrNest, 7}, {": f if variable", api.ErrNest, 7},
		{": f if else else", api.ErrNest, 12}, {": f if else loop", api.ErrNest, 12}, {": f if else ;", api.ErrNest, 12},
		{": f 1 0 do else", api.ErrNest, 11}, {": f 1 0 do then", api.ErrNest, 11}, {": f 1 0 do ;", api.ErrNest, 11}, {": f 1 0 do :", api.ErrNest, 11},
		{": f 1 0 do if loop then", api.ErrNest, 14}, {": f if 1 0 do then loop", api.ErrNest, 14},
		{": f if then then ;", api.ErrNest, 12}, {": f 1 0 do loop loop ;", api.ErrNest, 16},
		{": f", api.ErrNest, 3}, {": f \n", api.ErrNest, 5}, {": f if else ", api.ErrNest, 12}, {": f 1 0 do", api.ErrNest, 10}, {": f if 1 then", api.ErrEffect, 9},
	})
}

func TestP4NumbersOfDo(t *testing.T) {
	checkLoads(t, []answer{
		{": f do loop ;", api.ErrNest, 4},
		{": f 1 do loop ;", api.ErrNest, 6},
		{": f 1 0 drop do loop ;", api.ErrNest, 13},
		{": f 1 dup 0 do loop ;", api.ErrNest, 12},
		{"variable v : f 1 v do loop ;", api.ErrNest, 19},
		{": one 1 ; : f one 0 do loop ;", api.ErrNest, 20},
		{": f 2 1 0 do loop do loop ;", api.ErrNest, 18},
		{": f 5 4 1 0 do loop 3 do loop ;", api.ErrNest, 22},
		{": f 1 0 do do loop loop ;", api.ErrNest, 11},
		{": f 1 0 if do loop then ;", api.ErrNest, 11},
		{": f if 1 0 else do loop then ;", api.ErrNest, 16},
		{": f 1 0 if then do loop ;", api.ErrNest, 16},
		{": f 1 0 \\ c\n do loop ;", api.OK, 0},
		{": f 9 8 7 1 0 do loop ;", api.OK, 0},
		{": f if 1 0 do loop else 1 0 do loop then ;", api.OK, 0},
	})
}

func TestP4Index(t *testing.T) {
	checkLoads(t, []answer{
		{": f i ;", api.ErrNest, 4},
		{": f 1 0 do loop i ;", api.ErrNest, 16},
		{": f 1 0 do i drop loop i ;", api.ErrNest, 23},
		{": f 1 0 do if i else i then loop ;", api.OK, 0},
		{": f 1 0 do i if i else i then drop loop ;", api.OK, 0},
		{": f if i then ;", api.ErrNest, 7},
		{": f 1 0 do 1 0 do loop i drop loop ;", api.OK, 0},
		{": i 1 ; : f i ;", api.OK, 0},
		{"variable i : f i ;", api.OK, 0},
	})
	if got, _ := loaded(t, ": i drop ; : f 2 0 do 1 i loop ;").Find("f"); got != info(0, 0, 2, 14) {
		t.Errorf("one's own i: %+v", got)
	}
}

func TestP5(t *testing.T) {
	checkLoads(t, []answer{
		{": f 1000 0 do loop ;", api.OK, 0},
		{": f 1001 0 do loop ;", api.ErrLimit, 11},
		{": f 1001 1 do loop ;", api.OK, 0},
		{": f 0 -1000 do loop ;", api.OK, 0},
		{": f 0 -1001 do loop ;", api.ErrLimit, 12},
		{": f 2147483647 2147482647 do loop ;", api.OK, 0},
		{": f 2147483647 -2147483648 do loop ;", api.ErrLimit, 27},
		{": f -2147483648 2147483647 do loop ;", api.OK, 0},
		{": f 5 0 do 1 loop ;", api.ErrEffect, 13},
		{": f 5 0 do drop loop ;", api.ErrEffect, 16},
		{": f 0 0 do drop loop ;", api.ErrEffect, 16},
		{": f 0 5 do i loop ;", api.ErrEffect, 13},
		{": f 0 0 do 1001 0 do loop loop ;", api.ErrLimit, 18},
	})
	for _, k := range []struct {
		numbers string
		steps   int
	}{
		{"5 1", 4}, {"1 5", 0}, {"3 3", 0}, {"0 -1", 1}, {"1000 0", 1000}, {"-3 -5", 2},
	} {
		want := info(0, 0, 2, 4+3*k.steps)
		if k.steps > 0 {
			want.Need = 1
		}
		if got, _ := loaded(t, ": f "+k.numbers+" do drop i loop ;").Find("f"); got != want {
			t.Errorf("%s do: %+v, want %+v", k.numbers, got, want)
		}
	}
}

func TestP6(t *testing.T) {
	for _, k := range []struct {
		text string
		want api.Info
	}{
		{": f ;", info(0, 0, 0, 1)},
		{": f dup * ;", info(1, 0, 1, 3)},
		{": f 0 5 1 do i + loop ;", info(0, 1, 3, 17)},
		{": f dup 0 < if drop 0 else 1 + then ;", branching(1, 0, 2, 8)},
		{": f 0 0 do drop 1 loop ;", info(0, 0, 2, 4)},
		{": a 1 ; : f a a + ;", info(0, 1, 2, 8)},
		{": f drop drop 1 ;", info(2, -1, 0, 4)},
		{": f drop drop 1 1 1 ;", info(2, 1, 1, 6)},
		{": f rot rot ;", info(3, 0, 0, 3)},
		{": f in out in in ! ;", info(0, 0, 2, 6)},
		{"variable v : f v v ;", info(0, 2, 2, 3)},
		{": f if then ;", branching(1, -1, 0, 2)},
		{": f if else then ;", branching(1, -1, 0, 3)},
		{": f if 1 1 1 drop drop drop then ;", branching(1, -1, 2, 8)},
		{": f if dup else rot dup then ;", branching(4, 0, 0, 4)},
		{": f if 1 + else rot rot nip 1 then ;", branching(4, -1, 0, 6)},
		{": f 1 if 2 0 do 2 0 do loop loop else 1 drop then ;", branching(0, 0, 2, 19)},
		{": f 2 0 do 1 if 1 drop then loop ;", branching(0, 0, 2, 14)},
		{": f 0 0 do 1 if then loop ;", branching(0, 0, 2, 4)},
		{": a 1 if then ; : b a ; : f 0 0 do b loop ;", branching(0, 0, 2, 4)},
		{": a 1 if then ; : a ; : f a ;", info(0, 0, 0, 3)},
		{": a drop drop 1 1 1 1 ; : f 5 a drop ;", info(1, 2, 3, 11)},
	} {
		if got, err := loaded(t, k.text).Find("f"); got != k.want || err != api.OK {
			t.Errorf("of f in %q: %+v, %d, want %+v", k.text, got, err, k.want)
		}
	}
}

func TestP7(t *testing.T) {
	s := loaded(t, "variable b : a 1 ; : dup ; variable a : c 1 ; variable c : c 1 2 ;")
	checkWords(t, s, "b a dup a c c c")
	s.Load(": e ; : g nobody ;")
	checkWords(t, s, "b a dup a c c c e")
	for _, name := range []string{"b", "a", "g", "nobody", "", " ", "C", "c ", "drop", "1", ":", "+", strings.Repeat("c", 100), "\xff"} {
		if got, err := s.Find(name); got != (api.Info{}) || err != api.ErrUnknown {
			t.Errorf("Find(%q) = %+v, %d", name, got, err)
		}
	}
	for name, want := range map[string]api.Info{"dup": info(0, 0, 0, 1), "c": info(0, 2, 2, 3), "e": info(0, 0, 0, 1)} {
		if got, err := s.Find(name); got != want || err != api.OK {
			t.Errorf("Find(%q) = %+v, %d, want %+v", name, got, err, want)
		}
	}
}
