package limb_test

import (
	"fmt"
	"slices"
	"testing"

	"swage/api"
	"swage/limb"
)

// calls are all that answer lists, with what they answer.
func calls(a, b []uint32) map[string][][]uint32 {
	got := map[string][][]uint32{"Norm": {limb.Norm(a)}, "Add": {limb.Add(a, b)}, "Mul": {limb.Mul(a, b)}, "Gcd": {limb.Gcd(a, b)}}
	less, _ := limb.Sub(a, b)
	quotient, rest, _ := limb.DivMod(a, b)
	got["Sub"], got["DivMod"] = [][]uint32{less}, [][]uint32{quotient, rest}
	for _, c := range []uint32{0, 1, 7} {
		small, _, _ := limb.DivSmall(a, c)
		got[fmt.Sprint("MulSmall ", c)], got[fmt.Sprint("DivSmall ", c)] = [][]uint32{limb.MulSmall(a, c)}, [][]uint32{small}
	}
	for _, n := range []int{-1, 0, 5, 32, 37, api.MaxBits + 1} {
		up, _ := limb.Shl(a, n)
		down, _ := limb.Shr(a, n)
		got[fmt.Sprint("Shl ", n)], got[fmt.Sprint("Shr ", n)] = [][]uint32{up}, [][]uint32{down}
	}
	return got
}

// ask makes the calls that answer no list.
func ask(a, b []uint32) string {
	return fmt.Sprint(limb.Cmp(a, b), limb.Bits(a), limb.Bit(a, 3), limb.Twos(a), limb.Text(a), told(a))
}

// roomy is a, with room behind its end in which something stands.
func roomy(a []uint32) []uint32 {
	whole := append(slices.Clone(a), 0xdead, 0, 0xbeef, top)
	return whole[:len(a)]
}

// whole is a list with all the room behind its end.
func whole(a []uint32) []uint32 { return a[:cap(a)] }

// P1.10, R3: what is handed in stays, though all memory of what is answered is written to, and so does every other list that is answered.
func TestNewMemory(t *testing.T) {
	for _, x := range samples(25) {
		for _, y := range samples(25) {
			a, b := roomy(x), roomy(y)
			wasA, wasB := slices.Clone(whole(a)), slices.Clone(whole(b))
			said := ask(a, b)
			for name, lists := range calls(a, b) {
				for i, list := range lists {
					others := slices.Concat(slices.Concat(lists[:i]...), slices.Concat(lists[i+1:]...))
					for k := range whole(list) {
						whole(list)[k] ^= 0x5a5a5a5a
					}
					if !slices.Equal(others, slices.Concat(slices.Concat(lists[:i]...), slices.Concat(lists[i+1:]...))) {
						t.Errorf("%s(%v, %v): its answers share memory", name, x, y)
					}
				}
				if !slices.Equal(whole(a), wasA) || !slices.Equal(whole(b), wasB) {
					t.Fatalf("%s(%v, %v): changes what is handed in", name, x, y)
				}
			}
			if ask(a, b) != said || !slices.Equal(whole(a), wasA) || !slices.Equal(whole(b), wasB) {
				t.Fatalf("%v, %v: changed", x, y)
			}
		}
	}
}

// P1.10, R3: one list may be handed in as both.
func TestOneListTwice(t *testing.T) {
	for _, x := range samples(25) {
		a := roomy(x)
		apart, together := calls(a, slices.Clone(a)), calls(a, a)
		for name, lists := range apart {
			for i, list := range lists {
				if !same(list, together[name][i]) {
					t.Errorf("%s(%v, the same): %v", name, x, together[name][i])
				}
			}
		}
		if !same(a, x) {
			t.Errorf("%v: changed", x)
		}
	}
}

// P1.11
func TestSumsAndProducts(t *testing.T) {
	some := samples(9)
	for _, a := range some {
		for _, b := range some {
			sum, product := limb.Add(a, b), limb.Mul(a, b)
			if !same(sum, limb.Add(b, a)) || !same(product, limb.Mul(b, a)) {
				t.Errorf("%v, %v: the order matters", a, b)
			}
			if got, e := limb.Sub(sum, b); !same(got, limb.Norm(a)) || e != api.OK {
				t.Errorf("Sub(Add(%v, %v), the second): %v, %v", a, b, got, e)
			}
			for _, c := range some {
				if !same(limb.Add(sum, c), limb.Add(a, limb.Add(b, c))) || !same(limb.Mul(product, c), limb.Mul(a, limb.Mul(b, c))) {
					t.Errorf("%v, %v, %v: it matters which are done first", a, b, c)
				}
				if !same(limb.Mul(c, sum), limb.Add(limb.Mul(c, a), limb.Mul(c, b))) {
					t.Errorf("%v times %v and %v", c, a, b)
				}
			}
		}
	}
}

// P1.12
func TestTextsAndShiftsBack(t *testing.T) {
	for _, a := range samples(60) {
		if got, spot := limb.Read(limb.Text(a)); !same(got, limb.Norm(a)) || spot != (api.Spot{}) {
			t.Errorf("Read(Text(%v)): %v, %v", a, got, spot)
		}
		for _, n := range []int{0, 1, 31, 32, 33, 1000, api.MaxBits} {
			up, _ := limb.Shl(a, n)
			if got, e := limb.Shr(up, n); !same(got, limb.Norm(a)) || e != api.OK {
				t.Errorf("Shr(Shl(%v, %d), %d): %v, %v", a, n, n, got, e)
			}
			if len(limb.Norm(a)) > 0 && limb.Twos(up) != limb.Twos(a)+n {
				t.Errorf("Twos(Shl(%v, %d)): %d", a, n, limb.Twos(up))
			}
		}
	}
	for _, text := range texts() {
		if a, spot := limb.Read(text); limb.Text(a) != text || spot != (api.Spot{}) {
			t.Errorf("Text(Read(%s)): %s, %v", text, limb.Text(a), spot)
		}
	}
}

// P1.13: long numbers too, of which q and r are held against the numbers by the layer's own calls.
func TestDivisionBack(t *testing.T) {
	m := maker(2463534242)
	for i := range 2000 {
		a, b := m.list(i%40), m.list(i%17)
		q, r, e := limb.DivMod(a, b)
		if len(limb.Norm(b)) == 0 {
			if e != api.ErrArg {
				t.Errorf("DivMod(%v, %v): %v", a, b, e)
			}
			continue
		}
		if !same(limb.Add(limb.Mul(q, b), r), limb.Norm(a)) || limb.Cmp(r, b) >= 0 || e != api.OK {
			t.Errorf("DivMod(%v, %v): %v, %v, %v", a, b, q, r, e)
		}
		if c := b[0]; c != 0 {
			q, r, _ := limb.DivMod(a, l(c, 0))
			small, rest, _ := limb.DivSmall(a, c)
			if !same(q, small) || !same(r, limb.Norm(l(rest))) {
				t.Errorf("%v by %d: %v, %v; %v, %d", a, c, q, r, small, rest)
			}
		}
	}
}

// P1.13
func TestCommonDivisors(t *testing.T) {
	some := samples(9)
	for _, a := range some {
		for _, b := range some {
			g := limb.Gcd(a, b)
			for _, x := range [][]uint32{a, b} {
				if _, r, e := limb.DivMod(x, g); len(g) > 0 && (len(r) != 0 || e != api.OK) {
					t.Errorf("Gcd(%v, %v): %v leaves %v of %v", a, b, g, r, x)
				}
			}
			for _, c := range some {
				got := limb.Gcd(limb.Mul(a, c), limb.Mul(b, c))
				if !same(got, limb.Mul(g, c)) {
					t.Errorf("Gcd(%v, %v), both times %v: %v", a, b, c, got)
				}
				if _, r, e := limb.DivMod(got, c); e == api.OK && len(r) != 0 {
					t.Errorf("%v divides both, but not %v", c, got)
				}
			}
		}
	}
}
