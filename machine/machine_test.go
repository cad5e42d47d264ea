package machine

import (
	"math/big"
	"reflect"
	"slices"
	"testing"

	"forthwith/api"
	"forthwith/code"
)

// standing is a copy of all that a step may change.
type standing struct {
	Stack, Variables, Outputs, inputs, places []int
	entered                                   []loop
	at                                        int
}

func stand(m *Machine) standing {
	return standing{m.Stack(), slices.Clone(m.Variables), slices.Clone(m.Outputs), slices.Clone(m.inputs), slices.Clone(m.places), slices.Clone(m.entered), m.at}
}

func counted(cells int) []int {
	list := make([]int, cells)
	for at := range list {
		list[at] = at + 100
	}
	return list
}

// hinders tells what the document says of a step of that number with so many cells, of which none is a variable's number.
func hinders(op, depth int) int {
	takes := code.Effect(op).Need
	puts := takes + code.Effect(op).Net
	switch {
	case depth < takes:
		return api.Under
	case op == code.Fetch || op == code.Store:
		return api.Address
	case depth-takes+puts > api.MaxDepth:
		return api.Over
	}
	return api.Fuel
}

func TestStepThatCannotBeMadeChangesNothing(t *testing.T) {
	seen := map[int]int{}
	for op := range code.End {
		for depth := range api.MaxDepth + 1 {
			m := New([]int{op, 0, code.End}, 0, counted(depth), NewWorld(2, []int{8}))
			m.Outputs = []int{6}
			m.enter(4, 9)
			before := stand(m)
			want := hinders(op, depth)
			seen[want]++
			if got := m.Step(); got != want {
				t.Errorf("%d with %d cells: %d, want %d", op, depth, got, want)
			}
			if want != api.Fuel && !reflect.DeepEqual(stand(m), before) {
				t.Errorf("%d with %d cells: %+v became %+v", op, depth, before, stand(m))
			}
		}
	}
	for _, end := range []int{api.Under, api.Address, api.Over, api.Fuel} {
		if seen[end] == 0 {
			t.Errorf("no step told %d", end)
		}
	}
}

func TestStepsOneByOne(t *testing.T) {
	row := []int{code.Out, code.End, code.Push, 7, code.Dup, code.Call, 0, code.If, 10, code.Negate, code.End}
	m := New(row, 2, []int{5}, NewWorld(0, nil))
	for _, k := range []struct {
		at    int
		stack []int
	}{{4, []int{5, 7}}, {5, []int{5, 7, 7}}, {0, []int{5, 7, 7}}, {1, []int{5, 7}}, {7, []int{5, 7}}, {9, []int{5}}, {10, []int{-5}}} {
		if end := m.Step(); end != api.Fuel || m.at != k.at || !slices.Equal(m.Stack(), k.stack) {
			t.Fatalf("%d, at %d, %v, want at %d, %v", end, m.at, m.Stack(), k.at, k.stack)
		}
	}
	if end := m.Step(); end != api.Halted || !slices.Equal(m.Outputs, []int{7}) {
		t.Errorf("the end: %d, %v", end, m.Outputs)
	}
}

func TestRunCountsSteps(t *testing.T) {
	row := []int{code.Push, 3, code.Drop, code.End, code.Drop, code.End}
	for _, k := range []struct{ start, fuel, steps, end int }{
		{0, 0, 0, api.Fuel}, {0, 2, 2, api.Fuel}, {0, 3, 3, api.Halted}, {0, 9, 3, api.Halted}, {4, 9, 1, api.Under}, {4, 1, 1, api.Under}, {4, 0, 0, api.Fuel},
	} {
		steps, end := New(row, k.start, nil, NewWorld(0, nil)).Run(k.fuel)
		if steps != k.steps || end != k.end {
			t.Errorf("from %d with %d: %d, %d, want %d, %d", k.start, k.fuel, steps, end, k.steps, k.end)
		}
	}
}

func TestBeginAnew(t *testing.T) {
	row := []int{code.In, code.Dup, code.Push, 0, code.Store, code.Out, code.End, code.Push, 2, code.Push, 0, code.Do, 17, code.Call, 0, code.Loop, 13, code.End}
	for steps := range 7 {
		m := New(row, 7, []int{3, 4}, NewWorld(1, []int{8, 9}))
		m.Run(steps)
		world := *m.World
		m.Begin(5)
		want := stand(New(row, 7, []int{5}, &world))
		if !reflect.DeepEqual(stand(m), want) {
			t.Errorf("behind %d steps: %+v, want %+v", steps, stand(m), want)
		}
		m.Begin()
		if m.depth != 0 {
			t.Errorf("behind %d steps: %v", steps, m.Stack())
		}
	}
}

func TestWorldIsShared(t *testing.T) {
	world := NewWorld(1, []int{8, 9})
	row := []int{code.In, code.Dup, code.Out, code.Push, 0, code.Store, code.End, code.Push, 0, code.Fetch, code.In, code.End}
	first, second := New(row, 0, nil, world), New(row, 7, []int{4}, world)
	first.Run(9)
	second.Run(9)
	if !slices.Equal(second.Stack(), []int{4, 8, 9}) || first.depth != 0 || !slices.Equal(world.Outputs, []int{8}) {
		t.Errorf("%v, %v, %v", first.Stack(), second.Stack(), world.Outputs)
	}
}

func TestLoops(t *testing.T) {
	var l loops
	for _, k := range []struct{ beginning, end int }{{0, 0}, {1, 0}, {-1, -1}, {api.MaxCell, api.MinCell}} {
		if l.enter(k.beginning, k.end) || len(l.entered) != 0 {
			t.Errorf("%v is entered", k)
		}
	}
	l.enter(-1, 1)
	l.enter(7, 8)
	var numbers []int
	for len(l.entered) > 0 {
		numbers = append(numbers, l.number())
		l.again()
	}
	if !slices.Equal(numbers, []int{7, -1, 0}) {
		t.Errorf("numbers: %v", numbers)
	}
}

func TestCalls(t *testing.T) {
	var c calls
	c.call(3)
	c.call(9)
	for _, want := range []int{9, 3} {
		if place, called := c.caller(); place != want || !called {
			t.Errorf("%d, %t, want %d", place, called, want)
		}
	}
	if place, called := c.caller(); place != 0 || called {
		t.Errorf("the outermost: %d, %t", place, called)
	}
}

func TestAreCells(t *testing.T) {
	for _, k := range []struct {
		list []int
		want bool
	}{
		{nil, true}, {[]int{api.MinCell, 0, api.MaxCell}, true}, {[]int{0, api.MaxCell + 1}, false}, {[]int{api.MinCell - 1, 0}, false}, {[]int{1 << 62}, false},
	} {
		if got := AreCells(k.list); got != k.want {
			t.Errorf("AreCells(%v) = %t", k.list, got)
		}
	}
}

// folded takes a number modulo 2^32 into the cells.
func folded(n *big.Int) int {
	size := new(big.Int).Lsh(big.NewInt(1), 32)
	rest := int(new(big.Int).Mod(n, size).Int64())
	if rest > api.MaxCell {
		rest -= 1 << 32
	}
	return rest
}

// floor is a by b, rounded down: the exact rest, which has a's sign, is made to have b's.
func floor(a, b *big.Int) *big.Int {
	quotient, rest := new(big.Int).QuoRem(a, b, new(big.Int))
	if rest.Sign()*b.Sign() < 0 {
		quotient.Sub(quotient, big.NewInt(1))
	}
	return quotient
}

func TestReckoning(t *testing.T) {
	edges := []int{api.MinCell, api.MinCell + 1, -65536, -46341, -7, -2, -1, 0, 1, 2, 3, 7, 46341, 65535, api.MaxCell - 1, api.MaxCell}
	for _, a := range edges {
		x := big.NewInt(int64(a))
		for _, b := range edges {
			y := big.NewInt(int64(b))
			want := map[int]int{
				code.Plus:   folded(new(big.Int).Add(x, y)),
				code.Minus:  folded(new(big.Int).Sub(x, y)),
				code.Times:  folded(new(big.Int).Mul(x, y)),
				code.And:    folded(new(big.Int).And(x, y)),
				code.Or:     folded(new(big.Int).Or(x, y)),
				code.Xor:    folded(new(big.Int).Xor(x, y)),
				code.Divide: 0,
				code.Mod:    a,
			}
			if b != 0 {
				quotient := floor(x, y)
				want[code.Divide] = folded(quotient)
				want[code.Mod] = folded(new(big.Int).Sub(x, quotient.Mul(quotient, y)))
			}
			for op, cell := range want {
				if got := ofTwo(op, a, b); got != cell {
					t.Errorf("%d of %d and %d: %d, want %d", op, a, b, got, cell)
				}
			}
		}
		negated := folded(new(big.Int).Neg(x))
		if got := ofOne(code.Negate, a); got != negated {
			t.Errorf("negate of %d: %d", a, got)
		}
		if got := ofOne(code.Abs, a); a < 0 && got != negated || a >= 0 && got != a {
			t.Errorf("abs of %d: %d", a, got)
		}
	}
}
