package interval

import (
	"math/bits"
	"timebound/api"
)

// Do returns what results can be.
func Do(op int, a, b api.Interval) api.Interval {
	a, b = taken(a), taken(b)
	if a == None() || b == None() {
		return None()
	}
	switch op {
	case api.Add:
		return exact(a, b, func(x, y int) int { return x + y })
	case api.Sub:
		return exact(a, b, func(x, y int) int { return x - y })
	case api.Mul:
		return exact(a, b, func(x, y int) int { return x * y })
	case api.Div:
		return quotient(a, b)
	case api.Rem:
		return remainder(a, b)
	case api.And:
		return and(a, b)
	case api.Or:
		return or(a, b, greatest(a.Lo, b.Lo))
	case api.Xor:
		return or(a, b, 0)
	case api.Shl:
		return left(a, b)
	case api.Shr:
		return right(a, b)
	case api.Lt, api.Le, api.Eq, api.Ne:
		return comparison(op, a, b)
	}
	return All()
}

// exact returns from the least to the greatest of the results for the ends, All if one of these is no word: it would be wrapped to another place.
func exact(a, b api.Interval, result func(x, y int) int) api.Interval {
	first, more := result(a.Lo, b.Lo), []int{result(a.Lo, b.Hi), result(a.Hi, b.Lo), result(a.Hi, b.Hi)}
	return taken(api.Interval{Lo: least(first, more...), Hi: greatest(first, more...)})
}

func quotient(a, b api.Interval) api.Interval {
	if b.Lo < 1 {
		return All()
	}
	return exact(a, b, func(x, y int) int { return x / y })
}

func remainder(a, b api.Interval) api.Interval {
	if b.Lo < 1 {
		return All()
	}
	// The sign is that of a, and the remainder no further from 0 than a and the greatest divisor but one.
	most := b.Hi - 1
	return api.Interval{Lo: greatest(least(a.Lo, 0), -most), Hi: least(greatest(a.Hi, 0), most)}
}

func and(a, b api.Interval) api.Interval {
	switch {
	case a.Lo >= 0 && b.Lo >= 0:
		return api.Interval{Lo: 0, Hi: least(a.Hi, b.Hi)}
	case a.Lo >= 0:
		return api.Interval{Lo: 0, Hi: a.Hi}
	case b.Lo >= 0:
		return api.Interval{Lo: 0, Hi: b.Hi}
	}
	return All()
}

// or returns what Or and Xor can be: no more than all bits that both have, and no less than lo if both have no sign.
func or(a, b api.Interval, lo int) api.Interval {
	if a.Lo < 0 || b.Lo < 0 {
		return All()
	}
	return api.Interval{Lo: lo, Hi: 1<<bits.Len(uint(greatest(a.Hi, b.Hi))) - 1}
}

func left(a, b api.Interval) api.Interval {
	if b.Lo != b.Hi || !places(b) || a.Lo < 0 {
		return All()
	}
	return exact(a, b, func(x, y int) int { return x << y })
}

func right(a, b api.Interval) api.Interval {
	if !places(b) {
		// By however many places a word is shifted, it comes nearer to 0 (or -1) and keeps its sign.
		return api.Interval{Lo: least(a.Lo, 0), Hi: greatest(a.Hi, 0)}
	}
	return exact(a, b, func(x, y int) int { return x >> y })
}

// places reports whether all words of an interval are numbers of places as they are, without modulo.
func places(b api.Interval) bool { return b.Lo >= 0 && b.Hi <= 31 }

// comparison returns whether a comparison can be true, and whether it can be false.
func comparison(op int, a, b api.Interval) api.Interval {
	if x, _ := Refine(op, false, a, b); x == None() {
		return one(1)
	}
	if x, _ := Refine(op, true, a, b); x == None() {
		return one(0)
	}
	return api.Interval{Lo: 0, Hi: 1}
}
