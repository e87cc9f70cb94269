package interval

import "timebound/api"

// Refine returns what operands can be if a comparison is true, or false.
func Refine(op int, truth bool, a, b api.Interval) (api.Interval, api.Interval) {
	a, b = taken(a), taken(b)
	switch op {
	case api.Lt, api.Le, api.Eq, api.Ne:
		if a == None() || b == None() {
			return None(), None()
		}
		return partners(op, truth, a, b)
	}
	return a, b
}

// partners is Refine for comparisons and intervals with words. What is not less is at most, the other way round.
func partners(op int, truth bool, a, b api.Interval) (api.Interval, api.Interval) {
	switch {
	case op == api.Lt && truth:
		return below(a, b, 1)
	case op == api.Lt:
		return swap(below(b, a, 0))
	case op == api.Le && truth:
		return below(a, b, 0)
	case op == api.Le:
		return swap(below(b, a, 1))
	case truth == (op == api.Eq):
		return Meet(a, b), Meet(a, b)
	}
	return without(a, b), without(b, a)
}

// below returns the words that have a partner such that the first one is less than the second one by gap or more.
func below(a, b api.Interval, gap int) (api.Interval, api.Interval) {
	return span(a.Lo, least(a.Hi, b.Hi-gap)), span(greatest(b.Lo, a.Lo+gap), b.Hi)
}

func swap(a, b api.Interval) (api.Interval, api.Interval) { return b, a }

// without returns the words of a that have a partner in b that is another word: all, but for the one word that b may be. An interval cannot leave it out unless it is an end.
func without(a, b api.Interval) api.Interval {
	if b.Lo != b.Hi {
		return a
	}
	lo, hi := a.Lo, a.Hi
	if lo == b.Lo {
		lo++
	}
	if hi == b.Hi {
		hi--
	}
	return span(lo, hi)
}
