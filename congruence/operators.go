package congruence

import (
	"timebound/api"
	"timebound/word"
)

// Do returns what results can be.
func Do(op int, a, b api.Residue) api.Residue {
	a, b = taken(a), taken(b)
	if a == None() || b == None() {
		return None()
	}
	n, e := word.Do(op, a.R, b.R)
	if e != api.OK {
		return All()
	}
	if single(a) && single(b) {
		return Of(n)
	}
	return around(op, n, a, b)
}

// around returns what results can be, where n is the one for both R, and a or b is more than one word.
func around(op, n int, a, b api.Residue) api.Residue {
	k := min(size(a), size(b))
	switch op {
	case api.Add, api.Sub, api.Mul, api.And, api.Or, api.Xor:
		return class(n, k)
	case api.Shl:
		if single(b) {
			return class(n, size(a)+b.R&(wordBits-1))
		}
	case api.Eq, api.Ne:
		// No word of a is one of b then: n is what the comparison is for all of them.
		if class(a.R, k) != class(b.R, k) {
			return Of(n)
		}
	}
	return All()
}
