// Package forth: words, and a machine that runs them: see DOC.md.
package forth

import (
	"forthwith/api"
	"forthwith/book"
	"forthwith/machine"
)

// System is words. It is a book under another name: package rates, which needs the words' code, can take it for a book again, and nothing more has to be exported here.
type System book.Book

// New makes a system without words of its own (P2).
func New() *System { return &System{} }

func (s *System) book() *book.Book { return (*book.Book)(s) }

// Load reads definitions (P3 to P6).
func (s *System) Load(text string) (api.Errno, int) { return s.book().Load(text) }

// Words tells the names (P7).
func (s *System) Words() []string { return s.book().Words() }

// Find tells what is known of a word (P7).
func (s *System) Find(name string) (api.Info, api.Errno) { return s.book().Find(name) }

// Run runs a word (P8 to P10).
func (s *System) Run(name string, stack []int, inputs []int, fuel int) (api.Outcome, api.Errno) {
	words := s.book()
	start, err := words.Start(name)
	if err != api.OK {
		return api.Outcome{}, err
	}
	if !mayRun(stack, inputs, fuel) {
		return api.Outcome{}, api.ErrArg
	}
	world := machine.NewWorld(words.Variables(), inputs)
	m := machine.New(words.Code(), start, stack, world)
	steps, end := m.Run(fuel)
	return api.Outcome{
		Stack:   m.Stack(),
		Outputs: m.Outputs,
		Store:   m.Variables,
		Steps:   steps,
		End:     end,
	}, api.OK
}

func mayRun(stack, inputs []int, fuel int) bool {
	return len(stack) <= api.MaxDepth &&
		machine.AreCells(stack) && machine.AreCells(inputs) &&
		fuel >= 0 && fuel <= api.MaxFuel
}
