package machine

// World is what machines may share: variables, inputs that are still to come, and what was put out.
type World struct {
	Variables []int
	Outputs   []int
	inputs    []int
}

// NewWorld makes one with so many variables, which are 0.
func NewWorld(variables int, inputs []int) *World {
	return &World{Variables: make([]int, variables), inputs: inputs}
}

func (w *World) has(variable int) bool { return variable >= 0 && variable < len(w.Variables) }

func (w *World) fetch(variable int) int { return w.Variables[variable] }

func (w *World) store(variable, cell int) { w.Variables[variable] = cell }

// next is the next input; 0, if there is none any more.
func (w *World) next() int {
	if len(w.inputs) == 0 {
		return 0
	}
	input := w.inputs[0]
	w.inputs = w.inputs[1:]
	return input
}

func (w *World) tell(cell int) { w.Outputs = append(w.Outputs, cell) }
