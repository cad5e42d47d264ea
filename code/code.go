// Package code numbers what the machine does. Code is a row of such numbers, some with a cell behind them.
package code

import "forthwith/effect"

// What one step does. Each is one step of P6, so that a run takes just the steps that were counted ahead of it. Those of a kind stand together, up to the last of it.
const (
	Plus = iota
	Minus
	Times
	And
	Or
	Xor
	Divide
	Mod
	Equal
	Less
	Greater
	Min
	Max
	Negate
	Abs
	IsZero
	Dup
	Drop
	Swap
	Over
	Rot
	Nip
	Tuck
	Fetch
	Store
	In
	Out
	Index
	Push // the cell behind it
	If   // else goes on at the cell behind it
	Else // goes on at the cell behind it
	Do   // if there is no number to do, goes on at the cell behind it
	Loop // if there is a further number to do, goes on at the cell behind it
	Call // begins the word at the cell behind it
	End
)

// The last ones of a kind.
const (
	LastOfTwo   = Max    // makes one cell of two
	LastOfOne   = IsZero // makes one cell of one
	LastOfStack = Tuck   // moves cells on the stack
	LastOfWorld = Out    // reaches variables, inputs or outputs
)

type row struct {
	name        string
	takes, puts int
}

// Those without a name are no words: other tokens stand for them.
var rows = [...]row{
	Plus:    {"+", 2, 1},
	Minus:   {"-", 2, 1},
	Times:   {"*", 2, 1},
	And:     {"and", 2, 1},
	Or:      {"or", 2, 1},
	Xor:     {"xor", 2, 1},
	Divide:  {"/", 2, 1},
	Mod:     {"mod", 2, 1},
	Equal:   {"=", 2, 1},
	Less:    {"<", 2, 1},
	Greater: {">", 2, 1},
	Min:     {"min", 2, 1},
	Max:     {"max", 2, 1},
	Negate:  {"negate", 1, 1},
	Abs:     {"abs", 1, 1},
	IsZero:  {"0=", 1, 1},
	Dup:     {"dup", 1, 2},
	Drop:    {"drop", 1, 0},
	Swap:    {"swap", 2, 2},
	Over:    {"over", 2, 3},
	Rot:     {"rot", 3, 3},
	Nip:     {"nip", 2, 1},
	Tuck:    {"tuck", 2, 3},
	Fetch:   {"@", 1, 1},
	Store:   {"!", 2, 0},
	In:      {"in", 0, 1},
	Out:     {"out", 1, 0},
	Index:   {"i", 0, 1},
	Push:    {"", 0, 1},
	If:      {"", 1, 0},
	Else:    {"", 0, 0},
	Do:      {"", 2, 0},
	Loop:    {"", 0, 0},
	Call:    {"", 0, 0},
	End:     {"", 0, 0},
}

// Find gives the number of a word that is there.
func Find(name string) (int, bool) {
	for op, r := range rows {
		if r.name == name && name != "" {
			return op, true
		}
	}
	return 0, false
}

// Effect is that of the one step.
func Effect(op int) effect.Timed {
	step := effect.Step(rows[op].takes, rows[op].puts)
	step.Branches = op == If
	return step
}
