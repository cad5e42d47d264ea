package code

import (
	"strings"
	"testing"

	"forthwith/effect"
)

func TestWordsThatAreThere(t *testing.T) {
	seen := map[int]string{}
	for _, k := range []struct {
		names       string
		takes, puts int
	}{
		{"+ - * and or xor / mod = < > min max nip", 2, 1},
		{"negate abs 0= @", 1, 1},
		{"dup", 1, 2}, {"drop out", 1, 0}, {"swap", 2, 2}, {"over tuck", 2, 3}, {"rot", 3, 3}, {"!", 2, 0}, {"in i", 0, 1},
	} {
		for _, name := range strings.Fields(k.names) {
			op, found := Find(name)
			if !found || Effect(op) != effect.Step(k.takes, k.puts) {
				t.Errorf("%s: %d, %t, %+v", name, op, found, Effect(op))
			}
			if seen[op] != "" {
				t.Errorf("%s is %s", name, seen[op])
			}
			seen[op] = name
		}
	}
	if len(seen) != Push {
		t.Errorf("%d words, want %d", len(seen), Push)
	}
}

func TestNoWords(t *testing.T) {
	for _, name := range []string{"", ":", ";", "if", "else", "then", "do", "loop", "variable", "DUP", "0", "dup ", "1+", "0<"} {
		if op, found := Find(name); found {
			t.Errorf("Find(%q) = %d", name, op)
		}
	}
}

func TestOnlyIfBranches(t *testing.T) {
	for op := range End + 1 {
		if Effect(op).Branches != (op == If) {
			t.Errorf("%d: %+v", op, Effect(op))
		}
	}
}
