// Package num is layer 1: see shared/doc/01-num.md.
package num

import "math"

// bitsOfNone are the bits that stand for whatever is no number, so that its sign and payload show nowhere.
const bitsOfNone uint64 = 0x7ff8000000000000

// Real is any native float.
type Real interface{ ~float32 | ~float64 }

// isNone tells whether a float is no number: nothing else differs from itself.
func isNone[T Real](a T) bool { return a != a }

// isMinusNought asks by division, since comparisons take both noughts as one.
func isMinusNought[T Real](a T) bool { return a == 0 && 1/a < 0 }

// Same tells whether two floats are the same: noughts with their signs, no number as no number.
func Same[T Real](a, b T) bool {
	if isNone(a) || isNone(b) {
		return isNone(a) && isNone(b)
	}
	return a == b && isMinusNought(a) == isMinusNought(b)
}

// Finite tells whether a float is a number and not infinite: only of such a one is the difference from itself nought.
func Finite[T Real](a T) bool { return a-a == 0 }

// Within tells whether a float is a number whose worth, without its sign, is at most most.
func Within[T Real](a, most T) bool { return -most <= a && a <= most }

// Clamp is the float from low to high that is nearest to a; of no number low.
func Clamp[T Real](a, low, high T) T {
	// 'not above' rather than 'at most': what is no number must come out as low.
	if !(a > low) {
		return low
	}
	if a > high {
		return high
	}
	return a
}

// Least is the lesser one: minus nought is less than nought, no number counts as none.
func Least[T Real](a, b T) T {
	if isNone(a) || b < a || isMinusNought(b) && a == 0 {
		return b
	}
	return a
}

// Most is the greater one: nought is greater than minus nought, no number counts as none.
func Most[T Real](a, b T) T {
	if isNone(a) || b > a || isMinusNought(a) && b == 0 {
		return b
	}
	return a
}

// Sign is -1, 0 or 1; of no number 0.
func Sign[T Real](a T) int {
	if a > 0 {
		return 1
	}
	if a < 0 {
		return -1
	}
	return 0
}

// Order puts all floats in a row: -1, 0 or 1.
func Order(a, b float64) int {
	if Same(a, b) {
		return 0
	}
	if isAhead(a, b) {
		return -1
	}
	return 1
}

// isAhead tells of two floats that are not the same whether the first one stands ahead in Order's row.
func isAhead(a, b float64) bool {
	if isNone(a) || isNone(b) {
		return isNone(a)
	}
	return a < b || a == b && isMinusNought(a)
}

// Bits are a float's bits, of no number always the same ones.
func Bits(a float64) uint64 {
	if isNone(a) {
		return bitsOfNone
	}
	return math.Float64bits(a)
}

// From is the float of such bits.
func From(bits uint64) float64 { return math.Float64frombits(bits) }

// Sum adds from the left. It begins with the first one, not with nought: nought and minus nought would make nought.
func Sum(l ...float64) float64 {
	if len(l) == 0 {
		return 0
	}
	sum := l[0]
	for _, v := range l[1:] {
		sum += v
	}
	return sum
}

// Between is a + t * (b - a). The conversion keeps a machine from working out product and sum as one, rounded once.
func Between(a, b, t float64) float64 { return a + float64(t*(b-a)) }
