package fault_test

import (
	"errors"
	"math"
	"testing"

	"astrarium/api"
	"astrarium/fault"
)

// kinds: all faults but OK, and numbers that have no name.
func kinds() []api.Fault {
	list := []api.Fault{-1, 18, 1000, math.MinInt, math.MaxInt}
	for kind := api.BadArg; kind <= api.Big; kind++ {
		list = append(list, kind)
	}
	return list
}

func places() []int {
	return []int{0, 1, 5, 9, 1<<31 - 1, -1, -2, math.MinInt, math.MaxInt}
}

func same[T comparable](t *testing.T, what string, got, want T) {
	t.Helper()
	if got != want {
		t.Errorf("%s: %v, not %v", what, got, want)
	}
}

func told(t *testing.T, what string, err error, kind api.Fault, at int) {
	t.Helper()
	gotKind, gotAt := fault.Told(err)
	if gotKind != kind || gotAt != at {
		t.Errorf("%s: Told %d, %d, not %d, %d", what, gotKind, gotAt, kind, at)
	}
}

// only: of all kinds, OK too, just that one lies under err.
func only(t *testing.T, what string, err error, kind api.Fault) {
	t.Helper()
	for _, other := range append(kinds(), api.OK) {
		if got := fault.Is(err, other); got != (other == kind) {
			t.Errorf("%s: Is of %d: %v", what, other, got)
		}
	}
}

// never: no kind lies under err.
func never(t *testing.T, what string, err error) {
	t.Helper()
	for _, kind := range append(kinds(), api.OK) {
		same(t, what+": Is", fault.Is(err, kind), false)
	}
}

// layer: err as an error of this package, with these fields.
func layer(t *testing.T, what string, err error, kind api.Fault, at int, under error) {
	t.Helper()
	e, ok := err.(*fault.Error)
	if !ok || e == nil {
		t.Fatalf("%s: no error of this package", what)
	}
	same(t, what+": Kind", e.Kind, kind)
	same(t, what+": At", e.At, at)
	same(t, what+": Under", e.Under, under)
	same(t, what+": Unwrap", e.Unwrap(), under)
}

// TestP201New: of that kind, at that place, over the api.Fault.
func TestP201New(t *testing.T) {
	for _, kind := range kinds() {
		for _, at := range places() {
			err := fault.New(kind, at)
			layer(t, "New", err, kind, at, kind)
			same(t, "errors.Is", errors.Is(err, kind), true)
			var under api.Fault
			same(t, "errors.As", errors.As(err, &under) && under == kind, true)
		}
	}
	for _, at := range places() {
		same(t, "New of OK", fault.New(api.OK, at), nil)
	}
}

// TestP201Wrap: at that place, over what was there, of its kind.
func TestP201Wrap(t *testing.T) {
	for _, kind := range kinds() {
		for _, at := range places() {
			err := fault.New(kind, 5)
			once := fault.Wrap(err, at)
			layer(t, "Wrap", once, kind, at, err)
			layer(t, "what was wrapped", err, kind, 5, kind)

			twice := fault.Wrap(once, 77)
			layer(t, "Wrap of Wrap", twice, kind, 77, once)
			same(t, "errors.Is", errors.Is(twice, kind), true)

			layer(t, "Wrap of an api.Fault", fault.Wrap(kind, at), kind, at, kind)
		}
	}
	for _, at := range places() {
		same(t, "Wrap of nil", fault.Wrap(nil, at), nil)
		same(t, "Wrap of New of OK", fault.Wrap(fault.New(api.OK, 3), at), nil)
		layer(t, "Wrap of OK, which is not nil", fault.Wrap(api.OK, at), api.OK, at, api.OK)
	}
}

// TestP201Anew: each call makes an error of its own.
func TestP201Anew(t *testing.T) {
	err := fault.New(api.Cycle, 5)
	same(t, "New, again", fault.New(api.Cycle, 5) == err, false)
	same(t, "Wrap, again", fault.Wrap(err, 9) == fault.Wrap(err, 9), false)

	wrapped := fault.Wrap(err, 9)
	wrapped.(*fault.Error).Kind = api.Width
	wrapped.(*fault.Error).At = 1
	layer(t, "what was wrapped, when what wraps it is written to", err, api.Cycle, 5, api.Cycle)
}

// TestP202Nil: OK and -1, nothing over nothing.
func TestP202Nil(t *testing.T) {
	told(t, "nil", nil, api.OK, -1)
	only(t, "nil", nil, api.OK)
	same(t, "Depth of nil", fault.Depth(nil), 0)
}

// TestP202Fault: an api.Fault of its own has no place, and is no error of this package.
func TestP202Fault(t *testing.T) {
	for _, kind := range append(kinds(), api.OK) {
		told(t, "an api.Fault", kind, kind, -1)
		only(t, "an api.Fault", kind, kind)
		same(t, "Depth of an api.Fault", fault.Depth(kind), 0)
	}
}

// TestP202Innermost: the innermost error's kind and place, how many lie over it, and what lies under all.
func TestP202Innermost(t *testing.T) {
	for _, kind := range kinds() {
		for _, at := range places() {
			err := fault.New(kind, at)
			told(t, "New", err, kind, at)
			only(t, "New", err, kind)
			same(t, "Depth of New", fault.Depth(err), 1)

			err = fault.Wrap(err, 9)
			told(t, "Wrap", err, kind, at)
			only(t, "Wrap", err, kind)
			same(t, "Depth of Wrap", fault.Depth(err), 2)

			err = fault.Wrap(kind, at)
			told(t, "Wrap of an api.Fault", err, kind, at)
			only(t, "Wrap of an api.Fault", err, kind)
			same(t, "Depth of Wrap of an api.Fault", fault.Depth(err), 1)
		}
	}
}

// TestP202Fields: of errors whose fields don't fit each other, kind and place are the innermost one's, whatever lies under it.
func TestP202Fields(t *testing.T) {
	err := &fault.Error{Kind: api.Cycle, At: 5, Under: api.Width}
	told(t, "another fault under it", err, api.Cycle, 5)
	only(t, "another fault under it", err, api.Width)

	over := &fault.Error{Kind: api.Big, At: 7, Under: err}
	told(t, "another kind over it", over, api.Cycle, 5)
	only(t, "another kind over it", over, api.Width)
	same(t, "Depth", fault.Depth(over), 2)
	layer(t, "Wrap", fault.Wrap(over, 9), api.Cycle, 9, over)

	bare := &fault.Error{Kind: api.Twice, At: 3}
	told(t, "nothing under it", bare, api.Twice, 3)
	never(t, "nothing under it", bare)
	same(t, "Depth", fault.Depth(bare), 1)
	layer(t, "Wrap", fault.Wrap(bare, 9), api.Twice, 9, bare)

	zero := &fault.Error{}
	told(t, "no fields", zero, api.OK, 0)
	never(t, "no fields", zero)
	same(t, "Depth", fault.Depth(zero), 1)
}

// TestP202NilError: a nil *Error counts as nil, alone or under another one.
func TestP202NilError(t *testing.T) {
	var none *fault.Error
	told(t, "a nil *Error", none, api.OK, -1)
	only(t, "a nil *Error", none, api.OK)
	same(t, "Depth", fault.Depth(none), 0)
	same(t, "Wrap", fault.Wrap(none, 9), nil)
	same(t, "Unwrap", none.Unwrap(), nil)
	same(t, "Error", none.Error(), api.OK.Error())

	over := &fault.Error{Kind: api.Limit, At: 4, Under: none}
	told(t, "over a nil *Error", over, api.Limit, 4)
	never(t, "over a nil *Error", over)
	same(t, "Depth", fault.Depth(over), 1)
	layer(t, "Wrap", fault.Wrap(over, 9), api.Limit, 9, over)
}

// TestP202Ring: calls end of errors that lie over themselves, too, with some ahead of the ring or none.
func TestP202Ring(t *testing.T) {
	for ahead := range 10 {
		for length := 1; length < 10; length++ {
			last := &fault.Error{Kind: api.Order, At: 5}
			var err error = last
			for range length - 1 {
				err = fault.Wrap(err, 6)
			}
			last.Under = err
			for range ahead {
				err = fault.Wrap(err, 7)
			}
			kind, _ := fault.Told(err)
			same(t, "a kind of the ring", kind, api.Order)
			never(t, "a ring", err)
			same(t, "all are counted", fault.Depth(err) >= ahead+length, true)
			layer(t, "Wrap", fault.Wrap(err, 9), api.Order, 9, err)
		}
	}
	self := &fault.Error{Kind: api.Order, At: 5}
	self.Under = self
	told(t, "over itself", self, api.Order, 5)
	same(t, "Depth of one over itself", fault.Depth(self), 1)
}

// TestP203: however often something is wrapped, its kind and its first place are told.
func TestP203(t *testing.T) {
	for _, kind := range kinds() {
		err := fault.New(kind, 5)
		for times := range 300 {
			told(t, "wrapped", err, kind, 5)
			same(t, "Is", fault.Is(err, kind), true)
			same(t, "Is, OK", fault.Is(err, api.OK), false)
			same(t, "Is, the next kind", fault.Is(err, kind+1), false)
			same(t, "Depth", fault.Depth(err), times+1)
			under := err
			err = fault.Wrap(under, 1000-times)
			layer(t, "Wrap", err, kind, 1000-times, under)
			same(t, "errors.Unwrap", errors.Unwrap(err), under)
		}
	}
	var nothing error
	for at := range 300 {
		nothing = fault.Wrap(nothing, at)
	}
	same(t, "nil, wrapped", nothing, nil)
}

// TestP203Many: thousands lie over a fault, and it is told all the same, as often as it is asked.
func TestP203Many(t *testing.T) {
	const many = 3000
	err := fault.Wrap(api.Truncated, 12)
	for at := range many {
		err = fault.Wrap(err, at)
	}
	for range 2 {
		told(t, "wrapped", err, api.Truncated, 12)
		only(t, "wrapped", err, api.Truncated)
		same(t, "Depth", fault.Depth(err), many+1)
	}
}

// TestExample: the chapter's.
func TestExample(t *testing.T) {
	err := fault.Wrap(fault.New(api.Cycle, 5), 9)
	told(t, "Wrap", err, api.Cycle, 5)
	same(t, "Depth", fault.Depth(err), 2)
	same(t, "Error, as of all faults", err.Error(), api.Cycle.Error())
}
