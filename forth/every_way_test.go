package forth_test

import (
	"math/rand/v2"
	"strconv"
	"testing"

	"forthwith/api"
)

// step takes and puts so many cells; a way is steps, one behind the other.
type step struct{ takes, puts int }
type way []step

// items are a text, and every way through it, written out step by step.
type items struct {
	text     string
	ways     []way
	branches bool
	unsound  bool // two ways, or two rounds, leave the stack differently
}

func net(w way) int {
	sum := 0
	for _, s := range w {
		sum += s.puts - s.takes
	}
	return sum
}

func plain(text string, steps ...step) items { return items{text: text + " ", ways: []way{steps}} }

func joined(a, b items) items {
	both := items{text: a.text + b.text, branches: a.branches || b.branches, unsound: a.unsound || b.unsound}
	for _, x := range a.ways {
		for _, y := range b.ways {
			both.ways = append(both.ways, append(append(way{}, x...), y...))
		}
	}
	return both
}

func choice(first, second items, hasElse bool) items {
	text := "if " + first.text
	if hasElse {
		text += "else " + second.text
		first = joined(first, plain("", step{0, 0}))
	}
	all := items{text: text + "then ", branches: true, unsound: first.unsound || second.unsound}
	for _, w := range append(append([]way{}, first.ways...), second.ways...) {
		all.unsound = all.unsound || net(w) != net(first.ways[0])
		all.ways = append(all.ways, append(way{{1, 0}}, w...))
	}
	return all
}

func rounds(body items, beginning, times int) items {
	numbers := strconv.Itoa(beginning+times) + " " + strconv.Itoa(beginning) + " do "
	all := plain("", step{0, 1}, step{0, 1}, step{2, 0})
	for range times {
		all = joined(all, joined(body, plain("", step{0, 0})))
	}
	all.text, all.branches, all.unsound = numbers+body.text+"loop ", body.branches, body.unsound
	for _, w := range body.ways {
		all.unsound = all.unsound || net(w) != 0
	}
	return all
}

const ownWords = "variable v : pair 1 2 ; : pick if drop else nip then ; "

func anyPlain(random *rand.Rand) items {
	list := []items{
		plain("7", step{0, 1}), plain("v", step{0, 1}), plain("in", step{0, 1}), plain("dup", step{1, 2}), plain("drop", step{1, 0}), plain("out", step{1, 0}), plain("negate", step{1, 1}), plain("@", step{1, 1}), plain("+", step{2, 1}), plain("nip", step{2, 1}), plain("swap", step{2, 2}), plain("over", step{2, 3}), plain("!", step{2, 0}), plain("rot", step{3, 3}),
		plain("pair", step{0, 0}, step{0, 1}, step{0, 1}, step{0, 0}),
		{text: "pick ", branches: true, ways: []way{{{0, 0}, {1, 0}, {1, 0}, {0, 0}, {0, 0}}, {{0, 0}, {1, 0}, {2, 1}, {0, 0}}}},
	}
	return list[random.IntN(len(list))]
}

func anyItems(random *rand.Rand, depth int) items {
	all := plain("")
	for range random.IntN(4) {
		next := anyPlain(random)
		if depth > 0 {
			switch random.IntN(6) {
			case 0:
				next = choice(anyItems(random, depth-1), plain(""), false)
			case 1:
				next = choice(anyItems(random, depth-1), anyItems(random, depth-1), true)
			case 2:
				next = rounds(anyItems(random, depth-1), random.IntN(5)-2, random.IntN(3))
			}
		}
		if len(all.ways)*len(next.ways) < 500 {
			all = joined(all, next)
		}
	}
	return all
}

// reckon follows each way by itself, and takes the most of each.
func (all items) reckon() api.Info {
	got := api.Info{Net: net(all.ways[0]), Straight: !all.branches}
	for _, w := range all.ways {
		depth := 0
		for _, s := range w {
			got.Need = max(got.Need, s.takes-depth)
			depth += s.puts - s.takes
			got.High = max(got.High, depth)
		}
		got.Steps = max(got.Steps, len(w)+1)
	}
	return got
}

func TestP6ByEveryWay(t *testing.T) {
	random := rand.New(rand.NewPCG(3, 4))
	sound, branching, refused := 0, 0, 0
	for range 20000 {
		all := anyItems(random, 3)
		s := loaded(t, ownWords)
		err, _ := s.Load(": f " + all.text + ";")
		if all.unsound {
			refused++
			if err != api.ErrEffect {
				t.Fatalf("Load of %q = %d, want ErrEffect", all.text, err)
			}
			continue
		}
		sound++
		if all.branches {
			branching++
		}
		if got, found := s.Find("f"); err != api.OK || found != api.OK || got != all.reckon() {
			t.Fatalf("%q: %d, %+v, %d, want %+v", all.text, err, got, found, all.reckon())
		}
	}
	if sound < 1000 || branching < 500 || refused < 1000 {
		t.Errorf("%d were sound, %d of them with an if, %d refused", sound, branching, refused)
	}
}
