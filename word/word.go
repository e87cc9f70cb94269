// Package word is layer 1: the arithmetic of programs, two's complement with 32 bits, with a result for everything.
package word

import "timebound/api"

// operation computes with two words. Its result need not be a word: Do wraps it.
type operation func(a, b int) int

// Wrap returns the word that is equal to n modulo 2^32.
func Wrap(n int) int { return int(int32(n)) }

// Do returns the result of an operator for the words of a and b, ErrKind if there is no such operator.
func Do(op, a, b int) (int, api.Errno) {
	if !Known(op) {
		return 0, api.ErrKind
	}
	return Wrap(operations()[op](Wrap(a), Wrap(b))), api.OK
}

// Known reports whether op is an operator.
func Known(op int) bool { return api.Add <= op && op <= api.Ne }

// Cost returns what an operator costs beyond the others: 1 for a multiplication, 2 for a division or remainder.
func Cost(op int) int {
	switch op {
	case api.Mul:
		return 1
	case api.Div, api.Rem:
		return 2
	}
	return 0
}

// operations returns what each operator computes; its numbers are the indices.
func operations() [api.Ne + 1]operation {
	return [...]operation{
		api.Add: func(a, b int) int { return a + b },
		api.Sub: func(a, b int) int { return a - b },
		api.Mul: func(a, b int) int { return a * b },
		api.Div: quotient,
		api.Rem: remainder,
		api.And: func(a, b int) int { return a & b },
		api.Or:  func(a, b int) int { return a | b },
		api.Xor: func(a, b int) int { return a ^ b },
		api.Shl: func(a, b int) int { return a << places(b) },
		api.Shr: func(a, b int) int { return a >> places(b) },
		api.Lt:  func(a, b int) int { return truth(a < b) },
		api.Le:  func(a, b int) int { return truth(a <= b) },
		api.Eq:  func(a, b int) int { return truth(a == b) },
		api.Ne:  func(a, b int) int { return truth(a != b) },
	}
}

// quotient is rounded towards 0. A division by 0 gives 0, for programs have no errors.
func quotient(a, b int) int {
	if b == 0 {
		return 0
	}
	return a / b
}

// remainder has the sign of a; as for quotient, a division by 0 gives 0.
func remainder(a, b int) int {
	if b == 0 {
		return 0
	}
	return a % b
}

// places returns b modulo 32, from 0 to 31 for negative numbers, too: the bits of two's complement, not Go's remainder.
func places(b int) int { return b & 31 }

func truth(b bool) int {
	if b {
		return 1
	}
	return 0
}
