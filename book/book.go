// Package book keeps the words and variables of one system, and reads their definitions.
package book

import (
	"strings"

	"forthwith/api"
	"forthwith/code"
	"forthwith/effect"
	"forthwith/token"
)

// Book is the words of one's own. The zero Book has none.
type Book struct {
	entries   []entry
	variables int
	tokens    int // of all definitions that were made by `:`
	code      []int
}

// entry is a variable, or a word that was made by `:`.
type entry struct {
	name     string
	variable bool
	place    int // the variable's number, or where the word's code begins
	known    effect.Timed
}

// Load reads definitions (P3).
func (b *Book) Load(text string) (api.Errno, int) {
	if at, broken := token.Broken(text); broken {
		return api.ErrText, at
	}
	tokens := token.NewReader(text)
	for {
		err, at := api.OK, 0
		switch first := tokens.Next(); first.Text {
		case "":
			return api.OK, 0
		case "variable":
			err, at = b.loadVariable(tokens)
		case ":":
			err, at = b.loadWord(tokens)
		default:
			err, at = api.ErrUnknown, first.At
		}
		if err != api.OK {
			return err, at
		}
	}
}

func (b *Book) loadVariable(tokens *token.Reader) (api.Errno, int) {
	name := tokens.Next()
	if err := b.refuse(name); err != api.OK {
		return err, name.At
	}
	if b.variables == api.MaxCells {
		return api.ErrFull, name.At
	}
	b.keep(entry{name: name.Text, variable: true, place: b.variables})
	b.variables++
	return api.OK, 0
}

func (b *Book) loadWord(tokens *token.Reader) (api.Errno, int) {
	name := tokens.Next()
	if err := b.refuse(name); err != api.OK {
		return err, name.At
	}
	made := define(b)
	for !made.ended() {
		next := tokens.Next()
		if err := made.read(next.Text); err != api.OK {
			return err, next.At
		}
	}
	b.keep(entry{name: name.Text, place: len(b.code), known: made.known})
	b.tokens += made.tokens
	b.code = made.code
	return api.OK, 0
}

// refuse tells what forbids a name.
func (b *Book) refuse(name token.Token) api.Errno {
	switch {
	case !token.IsName(name.Text):
		return api.ErrName
	case len(b.entries) == api.MaxWords:
		return api.ErrFull
	}
	return api.OK
}

func (b *Book) keep(e entry) {
	e.name = strings.Clone(e.name) // a piece of the text would keep the whole of it
	b.entries = append(b.entries, e)
}

// last finds the last thing of that name.
func (b *Book) last(name string) (entry, bool) {
	for at := len(b.entries) - 1; at >= 0; at-- {
		if b.entries[at].name == name {
			return b.entries[at], true
		}
	}
	return entry{}, false
}

// word finds the last thing of that name, if it was made by `:`.
func (b *Book) word(name string) (entry, bool) {
	e, found := b.last(name)
	return e, found && !e.variable
}

// Words tells the names in their order (P7).
func (b *Book) Words() []string {
	names := make([]string, len(b.entries))
	for at, e := range b.entries {
		names[at] = e.name
	}
	return names
}

// Find tells what is known of a word (P7).
func (b *Book) Find(name string) (api.Info, api.Errno) {
	e, found := b.word(name)
	if !found {
		return api.Info{}, api.ErrUnknown
	}
	return api.Info{
		Need:     e.known.Need,
		Net:      e.known.Net,
		High:     e.known.High,
		Steps:    e.known.Steps,
		Straight: !e.known.Branches,
	}, api.OK
}

// Start tells where the code of a word begins.
func (b *Book) Start(name string) (int, api.Errno) {
	e, found := b.word(name)
	if !found {
		return 0, api.ErrUnknown
	}
	return e.place, api.OK
}

// Code is that of all words, for reading alone.
func (b *Book) Code() []int { return b.code }

// Variables tells how many there are.
func (b *Book) Variables() int { return b.variables }

// use is what happens where the name is an item.
func (e entry) use() (op int, does effect.Timed) {
	if e.variable {
		return code.Push, code.Effect(code.Push)
	}
	return code.Call, code.Effect(code.Call).Then(e.known)
}
