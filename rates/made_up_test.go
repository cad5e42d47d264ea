package rates_test

import (
	"fmt"
	"math/rand/v2"
	"strings"
	"testing"

	"forthwith/api"
	"forthwith/forth"
)

// walk does what items say, and rests behind each step until the next one is asked for.
type walk struct {
	*common
	stack   []int
	numbers []int // of the loops that are entered
	rest    func(end int)
}

// common is what walks share.
type common struct {
	variables [2]int
	inputs    []int
	outputs   []int
}

// left ends a walk ahead of its end.
type left int

func (w *walk) step(does func()) {
	does()
	w.rest(api.Fuel)
}

func (w *walk) put(cell int) { w.step(func() { w.stack = append(w.stack, cell) }) }

func (w *walk) take() int {
	last := len(w.stack) - 1
	cell := w.stack[last]
	w.stack = w.stack[:last]
	return cell
}

// add is the word `+`.
func (w *walk) add() { w.step(func() { w.stack = append(w.stack, w.take()+w.take()) }) }

func (w *walk) drop() { w.step(func() { w.take() }) }

func (w *walk) out() { w.step(func() { w.outputs = append(w.outputs, w.take()) }) }

func (w *walk) in() {
	cell := 0
	if len(w.inputs) > 0 {
		cell, w.inputs = w.inputs[0], w.inputs[1:]
	}
	w.put(cell)
}

// variable is the one whose number is on the stack.
func (w *walk) variable() *int {
	if number := w.take(); number >= 0 && number < len(w.variables) {
		return &w.variables[number]
	}
	panic(left(api.Address))
}

func (w *walk) fetch() { w.step(func() { w.stack = append(w.stack, *w.variable()) }) }

func (w *walk) store() {
	w.step(func() {
		variable := w.variable()
		*variable = w.take()
	})
}

// item is a text that needs nothing on the stack, and what it does.
type item struct {
	text string
	does func(*walk)
}

func (w *walk) choose(first, second item) {
	taken := 0
	w.step(func() { taken = w.take() })
	if taken == 0 {
		second.does(w)
		return
	}
	first.does(w)
	if second.text != "" {
		w.step(func() {}) // the `else`
	}
}

func (w *walk) round(end, beginning int, items item) {
	w.put(end)
	w.put(beginning)
	w.step(func() { w.stack = w.stack[:len(w.stack)-2] })
	for number := beginning; number < end; number++ {
		w.numbers = append(w.numbers, number)
		items.does(w)
		w.numbers = w.numbers[:len(w.numbers)-1]
		w.step(func() {}) // the `loop`
	}
}

func (w *walk) call(items item) {
	w.step(func() {})
	items.does(w)
	w.step(func() {}) // the `;`
}

// maker makes up words of level items.
type maker struct {
	*rand.Rand
	alone bool // no word uses variables or inputs
	known []item
}

func joined(list ...item) item {
	var all item
	for _, one := range list {
		all.text += one.text
	}
	all.does = func(w *walk) {
		for _, one := range list {
			one.does(w)
		}
	}
	return all
}

func (m *maker) number() item {
	cell := m.IntN(5) - 1
	return item{fmt.Sprintf("%d ", cell), func(w *walk) { w.put(cell) }}
}

// value puts one cell.
func (m *maker) value(inDo bool) item {
	kind := m.IntN(4)
	if inDo && kind == 0 {
		return item{"i ", func(w *walk) { w.put(w.numbers[len(w.numbers)-1]) }}
	}
	if m.alone || kind == 1 {
		return m.number()
	}
	if kind == 2 {
		return item{"in ", (*walk).in}
	}
	return joined(m.address(), item{"@ ", (*walk).fetch})
}

// address puts the number of a variable.
func (m *maker) address() item {
	number := m.IntN(2)
	return item{"uv"[number:number+1] + " ", func(w *walk) { w.put(number) }}
}

func (m *maker) items(depth int, inDo bool) item {
	all := []item{{"", func(*walk) {}}}
	for range m.IntN(4) {
		all = append(all, m.item(depth, inDo))
	}
	return joined(all...)
}

func (m *maker) item(depth int, inDo bool) item {
	kind := m.IntN(12)
	value := m.value(inDo)
	switch {
	case kind <= 1 && depth > 0:
		first, second := m.items(depth-1, inDo), item{"", func(*walk) {}}
		if kind == 0 {
			second = joined(item{"else ", func(*walk) {}}, m.items(depth-1, inDo))
		}
		choice := func(w *walk) { w.choose(first, second) }
		return joined(value, item{"if " + first.text + second.text + "then ", choice})
	case kind == 2 && depth > 0:
		beginning := m.IntN(3) - 1
		end := beginning + m.IntN(4)
		items := m.items(depth-1, true)
		text := fmt.Sprintf("%d %d do %sloop ", end, beginning, items.text)
		return item{text, func(w *walk) { w.round(end, beginning, items) }}
	case kind == 3 && len(m.known) > 0:
		number := m.IntN(len(m.known))
		word := m.known[number]
		return item{fmt.Sprintf("w%d ", number), func(w *walk) { w.call(word) }}
	case kind == 4 && m.IntN(4) == 0:
		return joined(value, item{"@ ", (*walk).fetch}, item{"drop ", (*walk).drop})
	case kind <= 6 && !m.alone:
		return joined(value, m.address(), item{"! ", (*walk).store})
	case kind == 7:
		return joined(value, m.number(), item{"+ ", (*walk).add}, item{"out ", (*walk).out})
	case kind == 8:
		return joined(value, item{"drop ", (*walk).drop})
	default:
		return joined(value, item{"out ", (*walk).out})
	}
}

// madeUp loads words that are made up, w0 and so on.
func madeUp(t *testing.T, random *rand.Rand, alone bool) (*forth.System, []item) {
	t.Helper()
	s := loaded(t, "variable u variable v")
	m := &maker{Rand: random, alone: alone}
	for range 1 + random.IntN(5) {
		word := m.items(3, false)
		text := fmt.Sprintf(": w%d %s;", len(m.known), word.text)
		err, at := s.Load(text)
		if err == api.ErrFull && len(m.known) > 0 {
			break
		}
		if err != api.OK {
			t.Fatalf("Load(%q) = %d, %d", text, err, at)
		}
		m.known = append(m.known, word)
	}
	return s, m.known
}

// anyTasks run these words, and many of them are admitted.
func anyTasks(t *testing.T, random *rand.Rand, s *forth.System, words int) []api.Task {
	t.Helper()
	tasks := make([]api.Task, 1+random.IntN(4))
	slack := 1 + random.IntN(3)
	for at := range tasks {
		word := fmt.Sprintf("w%d", random.IntN(words))
		known, err := s.Find(word)
		if err != api.OK || known.Need != 0 {
			t.Fatalf("Find(%q) = %+v, %d", word, known, err)
		}
		period := known.Steps*(1+random.IntN(len(tasks)*slack)) + random.IntN(9)
		tasks[at] = task(word, period, period-random.IntN(1+period/8), random.IntN(40))
	}
	return tasks
}

// numberOf is that of a task's word.
func numberOf(t api.Task) int {
	number := 0
	fmt.Sscanf(t.Word, "w%d", &number)
	return number
}

// textsOf are for telling which words were made up.
func textsOf(words []item) string {
	var list []string
	for number, word := range words {
		list = append(list, fmt.Sprintf(": w%d %s;", number, word.text))
	}
	return strings.Join(list, " ")
}

func anyInputs(random *rand.Rand) []int {
	list := make([]int, random.IntN(30))
	for at := range list {
		list[at] = random.IntN(6) - 2
	}
	return list
}
