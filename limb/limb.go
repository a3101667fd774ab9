// Package limb is layer 1: whole numbers from 0 on, as lists of limbs, the low one first. See shared/doc/01-limb.md.
package limb

// limbBits is how many bits a limb has, mostLimb the greatest limb.
const (
	limbBits = 32
	mostLimb = 1<<limbBits - 1
)

// trim leaves a's high noughts out; it answers a piece of a itself, for use inside alone.
func trim(a []uint32) []uint32 {
	n := len(a)
	for n > 0 && a[n-1] == 0 {
		n--
	}
	return a[:n]
}

// Norm is a without high noughts.
func Norm(a []uint32) []uint32 {
	return append([]uint32(nil), trim(a)...)
}

// Cmp is -1, 0 or 1, as a is less than b, the same number, or greater.
func Cmp(a, b []uint32) int {
	a, b = trim(a), trim(b)
	switch {
	case len(a) < len(b):
		return -1
	case len(a) > len(b):
		return 1
	}
	for i := len(a) - 1; i >= 0; i-- {
		switch {
		case a[i] < b[i]:
			return -1
		case a[i] > b[i]:
			return 1
		}
	}
	return 0
}
