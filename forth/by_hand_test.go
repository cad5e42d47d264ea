package forth_test

import (
	"maps"
	"math"
	"slices"
	"strconv"
	"strings"

	"forthwith/api"
)

// node is an item, as the text has it: nothing of it is turned into code.
type node struct {
	token  string
	number int    // of a number, or of a variable
	first  []node // of an `if`, a `do`, or a word of one's own
	second []node // of an `else`
}

// dictionary has the last thing of each name.
type dictionary struct {
	things    map[string]node
	variables int
}

func (d *dictionary) names() []string { return slices.Sorted(maps.Keys(d.things)) }

// learn reads definitions that are known to be sound.
func (d *dictionary) learn(text string) {
	tokens := strings.Fields(text)
	for len(tokens) > 0 {
		name := tokens[1]
		if tokens[0] == "variable" {
			d.things[name] = node{token: "number", number: d.variables}
			d.variables++
			tokens = tokens[2:]
			continue
		}
		var items []node
		items, tokens = d.items(tokens[2:])
		d.things[name] = node{token: "own", first: items}
		tokens = tokens[1:]
	}
}

// items reads up to the token that ends them, and leaves that one.
func (d *dictionary) items(tokens []string) ([]node, []string) {
	var list []node
	for {
		token := tokens[0]
		thing, own := d.things[token]
		number, err := strconv.Atoi(token)
		switch {
		case slices.Contains([]string{"else", "then", "loop", ";"}, token):
			return list, tokens
		case own:
			list = append(list, thing)
		case err == nil:
			list = append(list, node{token: "number", number: number})
		case token == "if" || token == "do":
			item := node{token: token}
			item.first, tokens = d.items(tokens[1:])
			if tokens[0] == "else" {
				item.token = "if else"
				item.second, tokens = d.items(tokens[1:])
			}
			list = append(list, item)
		default:
			list = append(list, node{token: token})
		}
		tokens = tokens[1:]
	}
}

// walk is a run that goes over items.
type walk struct {
	api.Outcome
	inputs  []int
	numbers []int // of the loops that are entered
	fuel    int
}

type ended int

// walkOver runs a word of one's own by going over its items.
func (d *dictionary) walkOver(name string, stack, inputs []int, fuel int) (left api.Outcome) {
	w := &walk{inputs: inputs, fuel: fuel}
	w.Stack, w.Store = slices.Clone(stack), make([]int, d.variables)
	defer func() {
		left = w.Outcome
		left.End = int(recover().(ended))
	}()
	w.all(d.things[name].first)
	w.step(0, nothing)
	panic(ended(api.Halted))
}

func nothing([]int) []int { return nil }

func puts(cells ...int) func([]int) []int { return func([]int) []int { return cells } }

// step takes so many cells, and puts what is made of them.
func (w *walk) step(takes int, does func([]int) []int) {
	if w.Steps == w.fuel {
		panic(ended(api.Fuel))
	}
	w.Steps++
	kept := len(w.Stack) - takes
	if kept < 0 {
		panic(ended(api.Under))
	}
	made := does(slices.Clone(w.Stack[kept:]))
	if kept+len(made) > api.MaxDepth {
		panic(ended(api.Over))
	}
	w.Stack = append(slices.Clone(w.Stack[:kept]), made...)
}

func (w *walk) all(list []node) {
	for _, n := range list {
		w.one(n)
	}
}

func (w *walk) one(n node) {
	var got []int
	takes := func(cells []int) []int { got = cells; return nil }
	switch n.token {
	case "number":
		w.step(0, puts(n.number))
	case "own":
		w.step(0, nothing)
		outer := w.numbers
		w.numbers = nil
		w.all(n.first)
		w.numbers = outer
		w.step(0, nothing)
	case "if", "if else":
		w.step(1, takes)
		if got[0] == 0 {
			w.all(n.second)
			return
		}
		w.all(n.first)
		if n.token == "if else" {
			w.step(0, nothing)
		}
	case "do":
		w.step(2, takes)
		for number := got[1]; number < got[0]; number++ {
			w.numbers = append(w.numbers, number)
			w.all(n.first)
			w.numbers = w.numbers[:len(w.numbers)-1]
			w.step(0, nothing)
		}
	case "i":
		w.step(0, puts(w.numbers[len(w.numbers)-1]))
	case "in":
		next := append(slices.Clone(w.inputs), 0)
		w.step(0, puts(next[0]))
		w.inputs = next[1:]
	default:
		w.there(n.token)
	}
}

// there does the other words that are there.
func (w *walk) there(word string) {
	variable := func(number int) *int {
		if number < 0 || number >= len(w.Store) {
			panic(ended(api.Address))
		}
		return &w.Store[number]
	}
	for takes, words := range []map[string]func(c []int) []int{
		1: {
			"negate": func(c []int) []int { return []int{wrap(0 - c[0])} },
			"abs":    func(c []int) []int { return []int{wrap(int(math.Abs(float64(c[0]))))} },
			"0=":     func(c []int) []int { return []int{truth(c[0] == 0)} },
			"dup":    func(c []int) []int { return []int{c[0], c[0]} },
			"drop":   nothing,
			"@":      func(c []int) []int { return []int{*variable(c[0])} },
			"out":    func(c []int) []int { w.Outputs = append(w.Outputs, c[0]); return nil },
		},
		2: {
			"+":    func(c []int) []int { return []int{wrap(c[0] + c[1])} },
			"-":    func(c []int) []int { return []int{wrap(c[0] - c[1])} },
			"*":    func(c []int) []int { return []int{wrap(c[0] * c[1])} },
			"and":  func(c []int) []int { return []int{c[0] & c[1]} },
			"or":   func(c []int) []int { return []int{c[0] | c[1]} },
			"xor":  func(c []int) []int { return []int{c[0] ^ c[1]} },
			"/":    func(c []int) []int { return []int{wrap(by(c[0], c[1]))} },
			"mod":  func(c []int) []int { return []int{wrap(c[0] - c[1]*wrap(by(c[0], c[1])))} },
			"=":    func(c []int) []int { return []int{truth(c[0] == c[1])} },
			"<":    func(c []int) []int { return []int{truth(c[0] < c[1])} },
			">":    func(c []int) []int { return []int{truth(c[0] > c[1])} },
			"min":  func(c []int) []int { return []int{min(c[0], c[1])} },
			"max":  func(c []int) []int { return []int{max(c[0], c[1])} },
			"swap": func(c []int) []int { return []int{c[1], c[0]} },
			"over": func(c []int) []int { return []int{c[0], c[1], c[0]} },
			"nip":  func(c []int) []int { return []int{c[1]} },
			"tuck": func(c []int) []int { return []int{c[1], c[0], c[1]} },
			"!":    func(c []int) []int { *variable(c[1]) = c[0]; return nil },
		},
		3: {
			"rot": func(c []int) []int { return []int{c[1], c[2], c[0]} },
		},
	} {
		if does := words[word]; does != nil {
			w.step(takes, does)
		}
	}
}

func truth(holds bool) int { return map[bool]int{true: -1}[holds] }

func wrap(n int) int {
	const size = 1 << 32
	n = ((n % size) + size) % size
	if n >= size/2 {
		n -= size
	}
	return n
}

func by(a, b int) int {
	if b == 0 {
		return 0
	}
	return int(math.Floor(float64(a) / float64(b)))
}
