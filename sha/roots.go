package sha

import "math/bits"

const (
	square = 2
	cube   = 3
	spare  = 8 // bits that a slope's whole part has room in
	full   = 1<<64 - 1
)

var primes = [rounds]uint64{
	2, 3, 5, 7, 11, 13, 17, 19, 23, 29,
	31, 37, 41, 43, 47, 53, 59, 61, 67, 71,
	73, 79, 83, 89, 97, 101, 103, 107, 109, 113,
	127, 131, 137, 139, 149, 151, 157, 163, 167, 173,
	179, 181, 191, 193, 197, 199, 211, 223, 227, 229,
	233, 239, 241, 251, 257, 263, 269, 271, 277, 281,
	283, 293, 307, 311, 313, 317, 331, 337, 347, 349,
	353, 359, 367, 373, 379, 383, 389, 397, 401, 409,
}

// number is a whole word, then three words behind the point: just enough for the cube of one that has one word there.
type number [cube + 1]uint64

func Start(i int) uint64 {
	if i < 0 || i >= stateWords {
		return 0
	}
	return fraction(primes[i], square)
}

func Constant(i int) uint64 {
	if i < 0 || i >= rounds {
		return 0
	}
	return fraction(primes[i], cube)
}

func starts() state {
	var h state
	for i := range h {
		h[i] = Start(i)
	}
	return h
}

func constants() [rounds]uint64 {
	var all [rounds]uint64
	for i := range all {
		all[i] = Constant(i)
	}
	return all
}

// fraction is the first word behind the point of n's root. It comes down to it from the highest word that there is.
func fraction(n uint64, power int) uint64 {
	x := number{whole(n, power), full}
	for next := lowered(x, n, power); next != x; next = lowered(x, n, power) {
		x = next
	}
	return x[1]
}

// whole is the root's whole part.
func whole(n uint64, power int) uint64 {
	w := uint64(1)
	for raised(w+1, power) <= n {
		w++
	}
	return w
}

func raised(w uint64, power int) uint64 {
	all := uint64(1)
	for range power {
		all *= w
	}
	return all
}

// lowered is x less Newton's step, or x where it is not above n's root: as a prime has no whole root, that is just where the whole part of x's power is below n. Powers bend upward, and the step is rounded down, so that it doesn't go below the root. Where it is nought, the last bit is taken: what fraction looks for is at least that much below an x that is above the root.
func lowered(x number, n uint64, power int) number {
	below := x
	for range power - 2 {
		below = below.times(x)
	}
	all := below.times(x)
	if all[0] < n {
		return x
	}
	slope := below.times(number{uint64(power)})
	// Both are told in bits of 2^-56, the excess rounded down, the slope up. x is less than 1 above the root, so the excess is below the slope, and the quotient has room in a word.
	over := (all[0]-n)<<(64-spare) | all[1]>>spare
	step, _ := bits.Div64(over, all[1]<<(64-spare), slope[0]<<(64-spare)|slope[1]>>spare+1)
	x[1] -= max(step, 1)
	return x
}

// times takes a y of one word behind the point, and an x that has the lowest word free: so nothing is lost.
func (x number) times(y number) number {
	over, w3 := bits.Mul64(x[2], y[1])
	over, w2 := mulAdd(x[1], y[1], over, 0)
	w0, w1 := mulAdd(x[0], y[1], over, 0)
	over, w3 = mulAdd(x[3], y[0], w3, 0)
	over, w2 = mulAdd(x[2], y[0], w2, over)
	over, w1 = mulAdd(x[1], y[0], w1, over)
	return number{x[0]*y[0] + w0 + over, w1, w2, w3}
}

// mulAdd is a b + c + d, for which two words are always room enough.
func mulAdd(a, b, c, d uint64) (high, low uint64) {
	high, low = bits.Mul64(a, b)
	low, carry := bits.Add64(low, c, 0)
	high += carry
	low, carry = bits.Add64(low, d, 0)
	return high + carry, low
}
