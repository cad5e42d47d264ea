package book

import (
	"slices"
	"testing"

	"forthwith/api"
	"forthwith/code"
)

func loaded(t *testing.T, text string) *Book {
	t.Helper()
	b := &Book{}
	if err, at := b.Load(text); err != api.OK || at != 0 {
		t.Fatalf("Load(%q) = %d, %d", text, err, at)
	}
	return b
}

func TestCode(t *testing.T) {
	for _, k := range []struct {
		text string
		want []int
	}{
		{"", nil},
		{": a ;", []int{code.End}},
		{": a -7 dup * ;", []int{code.Push, -7, code.Dup, code.Times, code.End}},
		{"variable u variable v : a v @ ;", []int{code.Push, 1, code.Fetch, code.End}},
		{": a if negate then ;", []int{code.If, 3, code.Negate, code.End}},
		{": a if drop else nip then ;", []int{code.If, 5, code.Drop, code.Else, 6, code.Nip, code.End}},
		{": a 3 0 do i drop loop ;", []int{code.Push, 3, code.Push, 0, code.Do, 10, code.Index, code.Drop, code.Loop, 6, code.End}},
		{": a 1 ; : a a ; : b a ;", []int{code.Push, 1, code.End, code.Call, 0, code.End, code.Call, 3, code.End}},
		{": a ; : b if then ;", []int{code.End, code.If, 3, code.End}},
	} {
		if got := loaded(t, k.text).code; !slices.Equal(got, k.want) {
			t.Errorf("code of %q: %v, want %v", k.text, got, k.want)
		}
	}
}

func TestRefusedDefinitionLeavesNoCode(t *testing.T) {
	b := loaded(t, ": a 1 ;")
	for _, text := range []string{": b 1 2 3 if", ": b if else then 1 2 nobody", ": b 1 0 do 1 loop", "variable", ": b 4 5 ; 9"} {
		b.Load(text)
	}
	b.Load(": c a ;")
	want := []int{code.Push, 1, code.End, code.Push, 4, code.Push, 5, code.End, code.Call, 0, code.End}
	if !slices.Equal(b.code, want) {
		t.Errorf("code: %v, want %v", b.code, want)
	}
}

func TestStart(t *testing.T) {
	b := loaded(t, ": a 1 ; variable v : b a ; : a 2 ; : w ; variable w variable x")
	for _, k := range []struct {
		name  string
		start int
		err   api.Errno
	}{
		{"b", 3, api.OK}, {"a", 6, api.OK}, {"v", 0, api.ErrUnknown}, {"w", 0, api.ErrUnknown}, {"dup", 0, api.ErrUnknown}, {"", 0, api.ErrUnknown},
	} {
		if start, err := b.Start(k.name); start != k.start || err != k.err {
			t.Errorf("Start(%q) = %d, %d, want %d, %d", k.name, start, err, k.start, k.err)
		}
	}
	if b.Variables() != 3 || len(b.Code()) != 10 {
		t.Errorf("%d variables, code %v", b.Variables(), b.Code())
	}
}
