// Package forth: words, and a machine that runs them: see DOC.md.
package forth

import (
	"forthwith/api"
	"forthwith/book"
)

// System is words.
type System struct {
	words book.Book
}

// New makes a system without words of its own (P2).
func New() *System { return &System{} }

// Load reads definitions (P3 to P6).
func (s *System) Load(text string) (api.Errno, int) { return s.words.Load(text) }

// Words tells the names (P7).
func (s *System) Words() []string { return s.words.Words() }

// Find tells what is known of a word (P7).
func (s *System) Find(name string) (api.Info, api.Errno) { return s.words.Find(name) }

// Run runs a word (P8 to P10).
func (s *System) Run(name string, stack []int, inputs []int, fuel int) (api.Outcome, api.Errno) {
	return api.Outcome{}, api.OK
}
