package book

import (
	"forthwith/api"
	"forthwith/code"
	"forthwith/effect"
	"forthwith/token"
)

// definition is a word of which not all is read yet. The book knows nothing of it before it has ended.
type definition struct {
	book   *Book
	tokens int
	code   []int   // the book's, and this one's behind it
	blocks []block // the innermost last; a row, since a text may nest deeper than calls can
	known  effect.Timed
}

// block is items of which the last is not read yet.
type block struct {
	opener  int // what they stand behind: If, Else or Do; End, if they are the definition's own
	inDo    bool
	hole    int // where the opener's cell stands, which is filled in when the block is closed
	times   int // behind Do
	does    effect.Timed
	other   effect.Timed // behind Else, the first way; behind If, the way of no items
	numbers int          // how many numbers stand last, at most 2
	ahead   [2]int       // these numbers
}

func define(b *Book) *definition {
	return &definition{
		book:   b,
		tokens: 2, // the `:` and the name
		code:   b.code,
		blocks: []block{{opener: code.End}},
	}
}

func (d *definition) ended() bool { return len(d.blocks) == 0 }

// read takes the next token (P4); the text's end is an empty one.
func (d *definition) read(text string) api.Errno {
	d.tokens++
	switch text {
	case "", ":", "variable":
		return api.ErrNest
	case ";":
		return d.readEnd()
	case "if":
		return d.readIf()
	case "else":
		return d.readElse()
	case "then":
		return d.readThen()
	case "do":
		return d.readDo()
	case "loop":
		return d.readLoop()
	}
	if number, ok := token.Number(text); ok {
		return d.readNumber(number)
	}
	return d.readWord(text)
}

func (d *definition) readNumber(number int) api.Errno {
	inner := d.inner()
	numbers := min(inner.numbers+1, 2)
	d.emit(code.Push, number)
	d.add(code.Effect(code.Push))
	inner.numbers = numbers
	inner.ahead = [2]int{inner.ahead[1], number}
	return api.OK
}

func (d *definition) readWord(name string) api.Errno {
	if own, found := d.book.last(name); found {
		op, does := own.use()
		d.emit(op, own.place)
		d.add(does)
		return api.OK
	}
	op, found := code.Find(name)
	if !found {
		return api.ErrUnknown
	}
	if op == code.Index && !d.inner().inDo {
		return api.ErrNest
	}
	d.emit(op)
	d.add(code.Effect(op))
	return api.OK
}

func (d *definition) readIf() api.Errno {
	d.emit(code.If, 0)
	d.add(code.Effect(code.If))
	d.open(block{opener: code.If})
	return api.OK
}

func (d *definition) readElse() api.Errno {
	if d.inner().opener != code.If {
		return api.ErrNest
	}
	d.emit(code.Else, 0)
	d.add(code.Effect(code.Else))
	first := d.close()
	d.open(block{opener: code.Else, other: first.does})
	return api.OK
}

func (d *definition) readThen() api.Errno {
	inner := d.inner()
	if inner.opener != code.If && inner.opener != code.Else {
		return api.ErrNest
	}
	if !inner.does.Agrees(inner.other.Effect) {
		return api.ErrEffect
	}
	last := d.close()
	d.add(last.does.Or(last.other))
	return api.OK
}

func (d *definition) readDo() api.Errno {
	inner := d.inner()
	if inner.numbers < 2 {
		return api.ErrNest
	}
	end, beginning := inner.ahead[0], inner.ahead[1]
	times := max(0, end-beginning)
	if times > api.MaxTimes {
		return api.ErrLimit
	}
	d.emit(code.Do, 0)
	d.add(code.Effect(code.Do))
	d.open(block{opener: code.Do, times: times})
	return api.OK
}

func (d *definition) readLoop() api.Errno {
	inner := d.inner()
	if inner.opener != code.Do {
		return api.ErrNest
	}
	if !inner.does.Level() {
		return api.ErrEffect
	}
	d.emit(code.Loop, inner.hole+1)
	d.add(code.Effect(code.Loop))
	round := d.close()
	d.add(round.does.Times(round.times))
	return api.OK
}

func (d *definition) readEnd() api.Errno {
	if d.inner().opener != code.End {
		return api.ErrNest
	}
	d.emit(code.End)
	d.add(code.Effect(code.End))
	d.known = d.inner().does
	if d.known.TooLong() {
		return api.ErrLimit
	}
	if d.book.tokens+d.tokens > api.MaxCode {
		return api.ErrFull
	}
	d.blocks = nil
	return api.OK
}

func (d *definition) inner() *block { return &d.blocks[len(d.blocks)-1] }

// open begins a block; the cell of its opener must be the last one of the code.
func (d *definition) open(b block) {
	b.hole = len(d.code) - 1
	b.inDo = b.opener == code.Do || d.inner().inDo
	d.blocks = append(d.blocks, b)
}

// close ends the innermost block, and lets its opener go on at what comes next.
func (d *definition) close() block {
	closed := *d.inner()
	d.blocks = d.blocks[:len(d.blocks)-1]
	d.code[closed.hole] = len(d.code)
	return closed
}

func (d *definition) emit(op int, cells ...int) {
	d.code = append(append(d.code, op), cells...)
}

// add puts what an item does, or a part of one, behind the innermost items.
func (d *definition) add(does effect.Timed) {
	inner := d.inner()
	inner.does = inner.does.Then(does)
	inner.numbers = 0
}
