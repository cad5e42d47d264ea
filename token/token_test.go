package token

import (
	"slices"
	"strings"
	"testing"
)

func all(text string) []Token {
	var list []Token
	tokens := NewReader(text)
	for next := tokens.Next(); next.Text != ""; next = tokens.Next() {
		list = append(list, next)
	}
	return list
}

func TestNext(t *testing.T) {
	for _, k := range []struct {
		text string
		want []Token
	}{
		{"", nil},
		{" \t\n", nil},
		{"a", []Token{{"a", 0}}},
		{" a\tbc\nd ", []Token{{"a", 1}, {"bc", 3}, {"d", 6}}},
		{"é 世\u00a0x y", []Token{{"é", 0}, {"世\u00a0x", 3}, {"y", 10}}},
		{"a\rb\v\f\x00 c", []Token{{"a\rb\v\f\x00", 0}, {"c", 7}}},
		{`\`, nil},
		{`a \`, []Token{{"a", 0}}},
		{"\\\na", []Token{{"a", 2}}},
		{"\\ b \\ c\na \\\tb", []Token{{"a", 8}}},
		{"\\ b\r still\nc", []Token{{"c", 11}}},
		{`\a a\ \\ b`, []Token{{`\a`, 0}, {`a\`, 3}, {`\\`, 6}, {"b", 9}}},
	} {
		if got := all(k.text); !slices.Equal(got, k.want) {
			t.Errorf("tokens of %q: %v, want %v", k.text, got, k.want)
		}
	}
}

func TestNextAtTheEnd(t *testing.T) {
	for _, text := range []string{"", "a", "a ", `a \ b`, "é\n"} {
		tokens := NewReader(text)
		for range 3 {
			tokens.Next()
		}
		if got := tokens.Next(); got != (Token{At: len(text)}) {
			t.Errorf("behind %q: %v", text, got)
		}
	}
}

func TestBroken(t *testing.T) {
	for _, text := range []string{"", "a", "é世😀", "\ufffd", "\x00\x7f", "\U0010ffff"} {
		if at, broken := Broken(text); broken || at != 0 {
			t.Errorf("Broken(%q) = %d, %t", text, at, broken)
		}
	}
	for _, k := range []struct {
		text string
		at   int
	}{
		{"\x80", 0}, {"ab\xff", 2}, {"é\xe4\xb8", 2}, {"\ufffd\xbf", 3}, {"\xe2\x28\xa1", 0}, {"a\xc1\xbf", 1}, {"\xed\xbf\xbf", 0}, {"\xf4\x90\x80\x80", 0}, {"\xf0\x80\x80\x80", 0},
	} {
		if at, broken := Broken(k.text); !broken || at != k.at {
			t.Errorf("Broken(%q) = %d, %t, want %d", k.text, at, broken, k.at)
		}
	}
}

func TestNumber(t *testing.T) {
	for _, k := range []struct {
		text string
		want int
	}{
		{"0", 0}, {"-0", 0}, {"007", 7}, {"-12", -12}, {"2147483647", 2147483647}, {"-2147483648", -2147483648}, {strings.Repeat("0", 100) + "5", 5},
	} {
		if got, ok := Number(k.text); !ok || got != k.want {
			t.Errorf("Number(%q) = %d, %t", k.text, got, ok)
		}
	}
	for _, text := range []string{"", "-", "+", "+5", "--5", "5-", "1_000", "0x1", "1e3", "1.0", " 1", "٣", "2147483648", "-2147483649", "4294967296", "18446744073709551617", strings.Repeat("9", 100)} {
		if got, ok := Number(text); ok || got != 0 {
			t.Errorf("Number(%q) = %d, %t", text, got, ok)
		}
	}
}

func TestIsName(t *testing.T) {
	for _, text := range []string{"a", "dup", "+", "-", "+5", "2147483648", "::", "If", "\r", "i", `\a`, "variables", strings.Repeat("x", 16), strings.Repeat("世", 16), strings.Repeat("9", 16)} {
		if !IsName(text) {
			t.Errorf("IsName(%q) = false", text)
		}
	}
	for _, text := range []string{"", "0", "-7", "00000000000000001", ":", ";", "variable", "if", "else", "then", "do", "loop", `\`, strings.Repeat("x", 17), strings.Repeat("世", 17), strings.Repeat("9", 17)} {
		if IsName(text) {
			t.Errorf("IsName(%q) = true", text)
		}
	}
}
