package parks

import (
	"layby/api"
	"layby/worlds"
)

// Part of an operation: steps, till one answers true.
type Part interface {
	Step(w *worlds.World) bool
}

// Look is a part that tells whether all is well.
type Look interface {
	Part
	Ok() bool
}

// Hooks of a park.
type Hooks interface {
	Validate() Look
	Before() Part
	Late(key api.Addr, last bool) Part
}

// there: hooks as they are, or Plain's, if there are none.
func there(h Hooks) Hooks {
	switch p := h.(type) {
	case nil:
		return Plain{}
	// Of these two nothing can be asked where the pointer is nil.
	case *Plain:
		return Plain{}
	case *Check:
		if p == nil {
			return Plain{}
		}
	}
	return h
}

// Plain hooks: nothing.
type Plain struct{}

// Validate: nothing. (P18.3)
func (p Plain) Validate() Look { return nil }

// Before: nothing. (P18.3)
func (p Plain) Before() Part { return nil }

// Late: nothing. (P18.3)
func (p Plain) Late(key api.Addr, last bool) Part { return nil }

// Check of a cell's bits.
type Check struct {
	Addr  api.Addr
	All   uint64
	Any   uint64
	Clear uint64
}

// Validate: are the bits there? (P18.3)
func (c Check) Validate() Look {
	x := &look{check: c}
	x.does = func(w *worlds.World) { x.found = w.Cells.Load(c.Addr) }
	return x
}

// Before: nothing. (P18.3)
func (c Check) Before() Part { return nil }

// Late: some bits go. (P18.3)
func (c Check) Late(key api.Addr, last bool) Part {
	if !last || c.Clear == 0 {
		return nil
	}
	return &one{does: func(w *worlds.World) { w.Cells.And(c.Addr, ^c.Clear) }}
}

// holds: are the bits in what was found?
func (c Check) holds(found uint64) bool {
	return found&c.All == c.All && (c.Any == 0 || found&c.Any != 0)
}

// one step, that does this.
type one struct {
	does func(w *worlds.World)
	over bool
}

// Step of it: there is no second one.
func (x *one) Step(w *worlds.World) bool {
	if !x.over && w != nil {
		x.does(w)
		x.over = true
	}
	return x.over
}

// look of a Check at its cell: one step.
type look struct {
	one
	check Check
	found uint64
}

// Ok: did it find the bits?
func (x *look) Ok() bool {
	return x.over && x.check.holds(x.found)
}
