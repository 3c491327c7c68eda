package turn

import (
	"cmp"

	"slackwater/api"
)

// Add adds.
func Add(a, b api.Turn) (api.Turn, api.Errno) {
	if e := both(a, b); e != api.OK {
		return api.Turn{}, e
	}
	return sum(a, b)
}

// Sub takes b off a.
func Sub(a, b api.Turn) (api.Turn, api.Errno) {
	if e := both(a, b); e != api.OK {
		return api.Turn{}, e
	}
	return sum(a, back(b))
}

// sum adds turns that may be. Their least common Whole is below 2^64, as only unlike ones, at most 2^32 each, have one above 2^32.
func sum(a, b api.Turn) (api.Turn, api.Errno) {
	d := common(uint64(a.Whole), uint64(b.Whole))
	whole := uint64(a.Whole) / d * uint64(b.Whole)
	x := uint64(a.Part) * (uint64(b.Whole) / d)
	y := uint64(b.Part) * (uint64(a.Whole) / d)
	return lowest(round(x, y, whole), whole)
}

// round is x and y, both below whole, added modulo whole: they are held against it ahead of the sum, which may be above 64 bits.
func round(x, y, whole uint64) uint64 {
	if left := whole - y; x >= left {
		return x - left
	}
	return x + y
}

// Neg takes a turn off nought.
func Neg(t api.Turn) (api.Turn, api.Errno) {
	if e := Check(t); e != api.OK {
		return api.Turn{}, e
	}
	return back(t), api.OK
}

// back is 0 less a turn that may be; its Whole is the same.
func back(t api.Turn) api.Turn {
	if t.Part != 0 {
		t.Part = t.Whole - t.Part
	}
	return t
}

// Times tells n times a turn. The product is at most (2^32 - 1) times 2^31 in size, so an int64 holds it.
func Times(t api.Turn, n int32) (api.Turn, api.Errno) {
	if e := Check(t); e != api.OK {
		return api.Turn{}, e
	}
	return lowest(uint64(within(t.Part*int64(n), t.Whole)), uint64(t.Whole))
}

// Compare tells -1, 0 or 1, as a is less than b, the same, more. Each product is at most (2^32 - 1) times 2^32, so 64 bits hold it.
func Compare(a, b api.Turn) (int, api.Errno) {
	if e := both(a, b); e != api.OK {
		return 0, e
	}
	return cmp.Compare(uint64(a.Part)*uint64(b.Whole), uint64(b.Part)*uint64(a.Whole)), api.OK
}
