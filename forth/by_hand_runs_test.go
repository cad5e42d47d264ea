package forth_test

import (
	"math/rand/v2"
	"strconv"
	"strings"
	"testing"

	"forthwith/api"
	"forthwith/forth"
)

// maker makes definitions that Load takes, and keeps how much deeper each word makes the stack.
type maker struct {
	random *rand.Rand
	nets   map[string]int
	own    []string
}

func newMaker(random *rand.Rand) *maker {
	m := &maker{random: random, nets: map[string]int{}}
	for net, words := range map[int]string{
		-2: "!",
		-1: "+ - * and or xor / mod = < > min max nip drop out",
		0:  "negate abs 0= swap rot @",
		1:  "dup over tuck in",
	} {
		for _, word := range strings.Fields(words) {
			m.nets[word] = net
		}
	}
	return m
}

var plainWords = strings.Fields("+ - * and or xor / mod = < > min max nip drop out negate abs 0= swap rot @ dup over tuck in !")

func (m *maker) number() string {
	edges := []int{api.MinCell, -7, -2, -1, 0, 0, 1, 1, 2, 3, 9, 100, api.MaxCell}
	return strconv.Itoa(edges[m.random.IntN(len(edges))])
}

// level puts drops or numbers behind a text of that net, so that it has the net that is wanted.
func level(text string, net, wanted int) string {
	return text + strings.Repeat("drop ", max(0, net-wanted)) + strings.Repeat("1 ", max(0, wanted-net))
}

func (m *maker) items(depth int, inDo bool) (string, int) {
	text, net := "", 0
	for range m.random.IntN(6) {
		more, adds := m.item(depth, inDo)
		text, net = text+more, net+adds
	}
	return text, net
}

func (m *maker) item(depth int, inDo bool) (string, int) {
	kind := m.random.IntN(12)
	if depth == 0 {
		kind += 3
	}
	switch {
	case kind == 0:
		first, net := m.items(depth-1, inDo)
		return m.number() + " if " + level(first, net, 0) + "then ", 0
	case kind == 1:
		first, net := m.items(depth-1, inDo)
		second, other := m.items(depth-1, inDo)
		return "if " + first + "else " + level(second, other, net) + "then ", net - 1
	case kind == 2:
		body, net := m.items(depth-1, true)
		beginning := m.random.IntN(5) - 2
		end := beginning + m.random.IntN(5) - 1
		return strconv.Itoa(end) + " " + strconv.Itoa(beginning) + " do " + level(body, net, 0) + "loop ", 0
	case kind <= 5:
		return m.number() + " ", 1
	case kind <= 7 && len(m.own) > 0:
		word := m.own[m.random.IntN(len(m.own))]
		return word + " ", m.nets[word]
	case kind == 8 && inDo:
		return "i ", 1
	default:
		word := plainWords[m.random.IntN(len(plainWords))]
		return word + " ", m.nets[word]
	}
}

// definition makes one of a name that may be there already.
func (m *maker) definition() string {
	names := strings.Fields("a b c d e")
	name := names[m.random.IntN(len(names))]
	text, net := "variable "+name+" ", 1
	if m.random.IntN(4) > 0 {
		text, net = m.items(3, false)
		text = ": " + name + " " + text + "; "
	}
	m.own = append(m.own, name)
	m.nets[name] = net
	return text
}

// made loads some definitions into a system, and into a dictionary.
func made(t *testing.T, random *rand.Rand) (*forth.System, *dictionary, []string) {
	t.Helper()
	m, s, d := newMaker(random), forth.New(), &dictionary{things: map[string]node{}}
	var all []string
	for range 1 + random.IntN(5) {
		text := m.definition()
		err, at := s.Load(text)
		if err == api.ErrFull {
			break
		}
		if err != api.OK {
			t.Fatalf("Load(%q) = %d, %d, behind %q", text, err, at, all)
		}
		d.learn(text)
		all = append(all, text)
	}
	return s, d, all
}

func anyCells(random *rand.Rand, many int) []int {
	list := make([]int, many)
	for at := range list {
		list[at] = random.IntN(7) - 2
		if random.IntN(4) == 0 {
			list[at] = int(int32(random.Uint32()))
		}
	}
	return list
}

func anyDepth(random *rand.Rand, need int) int {
	switch random.IntN(4) {
	case 0:
		return random.IntN(api.MaxDepth + 1)
	case 1:
		return api.MaxDepth - random.IntN(4)
	default:
		return max(0, min(api.MaxDepth, need+random.IntN(4)-1))
	}
}

func TestP8AndP9ByHand(t *testing.T) {
	random := rand.New(rand.NewPCG(5, 6))
	ends := map[int]int{}
	for range 8000 {
		s, d, all := made(t, random)
		for _, name := range d.names() {
			known, found := s.Find(name)
			if found == api.OK != (d.things[name].token == "own") {
				t.Fatalf("Find(%q) = %d in %q", name, found, all)
			}
			if found != api.OK || known.Steps > 5000 {
				continue
			}
			stack, inputs := anyCells(random, anyDepth(random, known.Need)), anyCells(random, random.IntN(4))
			for _, fuel := range []int{random.IntN(known.Steps + 2), api.MaxFuel} {
				got, err := s.Run(name, stack, inputs, fuel)
				want := d.walkOver(name, stack, inputs, fuel)
				if err != api.OK || !alike(got, want) {
					t.Fatalf("Run(%q, %v, %v, %d) = %+v, %d, want %+v, in %q", name, stack, inputs, fuel, got, err, want, all)
				}
				ends[got.End]++
			}
		}
	}
	for _, end := range []int{api.Halted, api.Under, api.Over, api.Address, api.Fuel} {
		if ends[end] < 500 {
			t.Errorf("too few ended with %d: %v", end, ends)
		}
	}
}

// checkKnown holds a run with enough cells, and room enough, against what is known of the word.
func checkKnown(t *testing.T, known api.Info, depth int, got api.Outcome) {
	t.Helper()
	switch {
	case got.End != api.Halted && got.End != api.Address && got.End != api.Fuel:
		t.Errorf("ended with %d", got.End)
	case got.Steps > known.Steps || got.End == api.Fuel && got.Steps == known.Steps:
		t.Errorf("%d steps, and ended with %d", got.Steps, got.End)
	case got.End == api.Halted && len(got.Stack) != depth+known.Net:
		t.Errorf("%d cells are left", len(got.Stack))
	case got.End == api.Halted && known.Straight && got.Steps != known.Steps:
		t.Errorf("took %d steps", got.Steps)
	}
}

func TestP10WhatIsKnownHolds(t *testing.T) {
	random := rand.New(rand.NewPCG(7, 8))
	ends := map[int]int{}
	straight := 0
	for range 8000 {
		s, d, all := made(t, random)
		for _, name := range d.names() {
			known, found := s.Find(name)
			most := api.MaxDepth - known.High
			if found != api.OK || known.Need > most || known.Steps > api.MaxFuel {
				continue
			}
			for _, depth := range []int{known.Need, most, known.Need + random.IntN(most-known.Need+1)} {
				for _, fuel := range []int{known.Steps, random.IntN(known.Steps)} {
					stack, inputs := anyCells(random, depth), anyCells(random, 2)
					got, err := s.Run(name, stack, inputs, fuel)
					checkKnown(t, known, depth, got)
					if err != api.OK || t.Failed() {
						t.Fatalf("Run(%q, %v, %v, %d) = %+v, %d, but %+v is known, in %q", name, stack, inputs, fuel, got, err, known, all)
					}
					ends[got.End]++
					if got.End == api.Halted && known.Straight {
						straight++
					}
				}
			}
		}
	}
	if ends[api.Halted] < 1000 || ends[api.Address] < 1000 || ends[api.Fuel] < 1000 || straight < 1000 {
		t.Errorf("too few: %v, %d of them straight", ends, straight)
	}
}

// TestP10Edges: with a cell less than Need, or with one more than High has room for, a straight word without variables cannot halt.
func TestP10Edges(t *testing.T) {
	for _, items := range []string{"dup *", "rot rot", "1 2 3 4", "drop drop 5 6 7", "3 0 do swap over + loop", "0 0 do drop 1 loop", "in out", "over over < drop", "pair pair + + +"} {
		s := loaded(t, ": pair 1 2 ; : f "+items+" ;")
		known, _ := s.Find("f")
		for depth := range api.MaxDepth + 1 {
			want := api.Halted
			if depth+known.High > api.MaxDepth {
				want = api.Over
			}
			if depth < known.Need {
				want = api.Under
			}
			got, err := s.Run("f", cells(depth), nil, 99)
			if err != api.OK || got.End != want {
				t.Errorf("%s with %d cells: %+v, %d, want %d", items, depth, got, err, want)
			}
			if want == api.Halted {
				checkKnown(t, known, depth, got)
			}
		}
	}
}

func TestP16TwoPieces(t *testing.T) {
	random := rand.New(rand.NewPCG(9, 10))
	between := []string{"", "\n", "\t ", "\\ : a 1 ;\n", "\n\\ é\n"}
	for range 1500 {
		_, d, all := made(t, random)
		for at := range all {
			all[at] += between[random.IntN(len(between))]
		}
		whole := loaded(t, strings.Join(all, ""))
		for cut := range len(all) + 1 {
			first, second := strings.Join(all[:cut], ""), strings.Join(all[cut:], "")
			parted := loaded(t, strings.TrimRight(first, " \t"))
			if err, at := parted.Load(second); err != api.OK || at != 0 {
				t.Fatalf("Load(%q) = %d, %d behind %q", second, err, at, first)
			}
			checkSame(t, parted, whole, d.names())
			if t.Failed() {
				t.Fatalf("%q and %q", first, second)
			}
		}
	}
}

func TestP16FullSystems(t *testing.T) {
	variables := strings.Repeat("variable v ", api.MaxCells)
	for _, all := range [][]string{
		{variables, ": a v @ ; ", ": b a v ! ; "},
		{": a " + strings.Repeat("1 drop ", 98) + "; ", ": b a " + strings.Repeat("1 drop ", 98) + "; "},
		{strings.Repeat(": a 1 ; : a a ; ", api.MaxWords/4), strings.Repeat(": b a ; : a b ; ", api.MaxWords/4)},
	} {
		whole := loaded(t, strings.Join(all, ""))
		parted := forth.New()
		for _, text := range all {
			if err, at := parted.Load(text); err != api.OK || at != 0 {
				t.Fatalf("Load(%.70q) = %d, %d", text, err, at)
			}
		}
		checkSame(t, parted, whole, []string{"v", "a", "b"})
		for _, more := range []string{"variable v", ": c 1 2 ;", ": c 1 ;"} {
			one, oneAt := whole.Load(more)
			two, twoAt := parted.Load(more)
			if one != two || oneAt != twoAt {
				t.Errorf("%q: %d, %d, and %d, %d", more, one, oneAt, two, twoAt)
			}
		}
	}
}
