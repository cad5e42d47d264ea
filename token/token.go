// Package token parts a text into tokens, and tells numbers and names among them.
package token

import (
	"strconv"
	"strings"
	"unicode/utf8"

	"forthwith/api"
)

// Token is characters without a blank between them, and the place of their first byte. At the text's end Text is empty.
type Token struct {
	Text string
	At   int
}

// Reader goes through a text, token by token.
type Reader struct {
	text string
	at   int
}

// NewReader begins at the text's first byte.
func NewReader(text string) *Reader { return &Reader{text: text} }

// Next gives the next token; at the text's end, a token of no characters, as often as it is asked.
func (r *Reader) Next() Token {
	for {
		next := r.cut()
		if next.Text != `\` {
			return next
		}
		r.pass(endsLine)
	}
}

func (r *Reader) cut() Token {
	r.pass(isInk)
	start := r.at
	r.pass(isBlank)
	return Token{Text: r.text[start:r.at], At: start}
}

// pass goes on to the next character of the kind, or to the text's end.
func (r *Reader) pass(kind func(rune) bool) {
	for ahead, char := range r.text[r.at:] {
		if kind(char) {
			r.at += ahead
			return
		}
	}
	r.at = len(r.text)
}

// The character 13 and the wide blanks of other alphabets are ink here: the document names three blanks only.
func isBlank(char rune) bool { return char == ' ' || char == '\t' || char == '\n' }

func isInk(char rune) bool { return !isBlank(char) }

func endsLine(char rune) bool { return char == '\n' }

// Broken tells the first byte at which a character would have to begin and none does.
func Broken(text string) (int, bool) {
	for at, char := range text {
		// The text may have this character itself: only where its bytes are missing does it stand for a fault.
		if char == utf8.RuneError && !strings.HasPrefix(text[at:], string(utf8.RuneError)) {
			return at, true
		}
	}
	return 0, false
}

// Number tells the cell that a token says, and whether it is a number at all.
func Number(text string) (int, bool) {
	// A cell has 32 bits, so what ParseInt lets pass is a cell; but it would let pass a plus sign, too.
	cell, err := strconv.ParseInt(text, 10, 32)
	if err != nil || strings.HasPrefix(text, "+") {
		return 0, false
	}
	return int(cell), true
}

// IsName tells whether a word or a variable may be named so.
func IsName(text string) bool {
	if text == "" || utf8.RuneCountInString(text) > api.MaxName {
		return false
	}
	switch text {
	case ":", ";", "variable", "if", "else", "then", "do", "loop", `\`:
		return false
	}
	_, number := Number(text)
	return !number
}
