package ones

import "layby/parks"

// Result of what was unparked.
type Result struct {
	Many   int  // how many are unparked
	Moved  int  // how many are moved
	More   bool // others are left at the address
	Fair   bool // the bucket's timer fired
	Thread int  // the first one; -1: nobody
}

// Answer to a result.
type Answer interface {
	Begin(r Result) parks.Part
	Token() uint64
}

// Token as an answer.
type Token uint64

// Begin: no steps. (P19.2)
func (k Token) Begin(r Result) parks.Part { return nil }

// Token that counts. (P19.2)
func (k Token) Token() uint64 { return uint64(k) }

// there: an answer as it is, or Token 0, if there is none.
func there(a Answer) Answer {
	switch p := a.(type) {
	case nil:
		return Token(0)
	case *Token:
		// Of this one nothing can be asked where the pointer is nil.
		if p == nil {
			return Token(0)
		}
	}
	return a
}
