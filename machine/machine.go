// Package machine runs code, one step at a time.
package machine

import (
	"forthwith/api"
	"forthwith/code"
)

// Machine runs one word. It is made of its stacks, and of a world that it may share with others.
type Machine struct {
	cells
	loops
	calls
	*World
	row   []int // of codes and cells
	start int   // where the word's code begins
	at    int   // where the next step's code stands
}

// New makes a machine that is about to run the word that begins at start in the row, with these cells (at most MaxDepth) on its stack.
func New(row []int, start int, stack []int, world *World) *Machine {
	m := &Machine{World: world, row: row, start: start}
	m.Begin(stack...)
	return m
}

// Begin lets the word begin anew, with just these cells (at most MaxDepth) on the stack. The world stays as it is.
func (m *Machine) Begin(stack ...int) {
	m.cells, m.loops, m.calls = cells{}, loops{}, calls{}
	m.at = m.start
	m.put(stack...)
}

// Run makes steps until the word has ended, but no more than fuel.
func (m *Machine) Run(fuel int) (steps, end int) {
	end = api.Fuel
	for end == api.Fuel && steps < fuel {
		end = m.Step()
		steps++
	}
	return steps, end
}

// Step makes one step, of a word that has not ended, and tells how it has ended by that: Fuel, if it has not.
func (m *Machine) Step() int {
	op := m.row[m.at]
	if end := m.hindrance(op); end != api.Fuel {
		return end
	}
	m.at++
	switch {
	case op <= code.LastOfTwo:
		b, a := m.take(), m.take()
		m.put(ofTwo(op, a, b))
	case op <= code.LastOfOne:
		m.put(ofOne(op, m.take()))
	case op <= code.LastOfStack:
		m.arrange(op)
	case op <= code.LastOfWorld:
		m.deal(op)
	case op == code.Index:
		m.put(m.number())
	case op == code.Push:
		m.put(m.operand())
	case op == code.End:
		return m.leave()
	default:
		m.jump(op)
	}
	return api.Fuel
}

// hindrance tells how the word ends if a step cannot be made (P9): Fuel, if it can.
func (m *Machine) hindrance(op int) int {
	known := code.Effect(op)
	switch {
	case m.depth < known.Need:
		return api.Under
	case (op == code.Fetch || op == code.Store) && !m.has(m.top()):
		return api.Address
	case m.depth+known.Net > api.MaxDepth:
		return api.Over
	}
	return api.Fuel
}

// arrange is for the words that only move cells on the stack.
func (m *Machine) arrange(op int) {
	c := m.take()
	if op == code.Dup {
		m.put(c, c)
		return
	}
	if op == code.Drop {
		return
	}
	b := m.take()
	switch op {
	case code.Swap:
		m.put(c, b)
	case code.Over:
		m.put(b, c, b)
	case code.Nip:
		m.put(c)
	case code.Tuck:
		m.put(c, b, c)
	case code.Rot:
		a := m.take()
		m.put(b, c, a)
	}
}

// deal is for the words that reach out to the world.
func (m *Machine) deal(op int) {
	switch op {
	case code.Fetch:
		m.put(m.fetch(m.take()))
	case code.Store:
		variable, cell := m.take(), m.take()
		m.store(variable, cell)
	case code.In:
		m.put(m.next())
	case code.Out:
		m.tell(m.take())
	}
}

// jump is for what chooses the step that comes next.
func (m *Machine) jump(op int) {
	target := m.operand()
	goes := true
	switch op {
	case code.If:
		goes = m.take() == 0
	case code.Do:
		beginning, end := m.take(), m.take()
		goes = !m.enter(beginning, end)
	case code.Loop:
		goes = m.again()
	case code.Call:
		m.call(m.at)
	}
	if goes {
		m.at = target
	}
}

// operand is the cell behind the step's code.
func (m *Machine) operand() int {
	m.at++
	return m.row[m.at-1]
}

// leave ends a word of one's own, and with the outermost the run.
func (m *Machine) leave() int {
	back, called := m.caller()
	if !called {
		return api.Halted
	}
	m.at = back
	return api.Fuel
}
