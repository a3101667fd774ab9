package integer_test

import (
	"math"
	"slices"
	"testing"

	"swage/api"
	"swage/integer"
)

// P2.8
func TestRing(t *testing.T) {
	some := samples(10)
	for _, x := range some {
		if !zero(x.Add(x.Neg())) || !zero(x.Sub(x)) || !same(x.Add(integer.Int{}), x) || !same(x.Mul(of(1)), x) {
			t.Errorf("%v: 0 and 1", value(x))
		}
		for _, y := range some {
			sum, product := x.Add(y), x.Mul(y)
			if !same(sum, y.Add(x)) || !same(product, y.Mul(x)) {
				t.Errorf("%v, %v: the order matters", value(x), value(y))
			}
			for _, z := range some {
				if !same(sum.Add(z), x.Add(y.Add(z))) || !same(product.Mul(z), x.Mul(y.Mul(z))) {
					t.Errorf("%v, %v, %v: it matters which are done first", value(x), value(y), value(z))
				}
				if !same(z.Mul(sum), z.Mul(x).Add(z.Mul(y))) {
					t.Errorf("%v times %v and %v", value(z), value(x), value(y))
				}
			}
		}
	}
	for _, z := range some {
		if !same(integer.Sum(z, of(5), z), integer.Sum(of(5), z, z)) || !same(integer.Product(z, of(5), z), integer.Product(of(5), z, z)) {
			t.Errorf("%v: the order of many matters", value(z))
		}
	}
}

// P2.8
func TestBezoutDivides(t *testing.T) {
	for _, x := range samples(30) {
		for _, y := range samples(30) {
			g, u, v := x.Bezout(y)
			if !same(g, x.Gcd(y)) || !same(u.Mul(x).Add(v.Mul(y)), g) {
				t.Errorf("%v, %v: %v, %v, %v", value(x), value(y), value(g), value(u), value(v))
			}
			for _, z := range []integer.Int{x, y} {
				if _, r, _ := z.DivMod(g); !zero(r) {
					t.Errorf("%v, %v: %v does not divide %v", value(x), value(y), value(g), value(z))
				}
			}
		}
	}
}

// P2.8
func TestThereAndBack(t *testing.T) {
	for _, x := range samples(60) {
		for _, c := range ends() {
			if got, e := x.Times(int(c)).Over(int(c)); c != 0 && (!same(got, x) || e != api.OK) {
				t.Errorf("%v Times %d, Over: %v, %v", value(x), c, value(got), e)
			}
		}
		for _, n := range []int{0, 1, 31, 32, 33, 1000, api.MaxBits} {
			up, _ := x.Shl(n)
			if got, e := up.Shr(n); !same(got, x) || e != api.OK {
				t.Errorf("%v Shl %d, Shr: %v, %v", value(x), n, value(got), e)
			}
		}
		if got, spot := integer.Read(x.Text()); !same(got, x) || spot != (api.Spot{}) {
			t.Errorf("%v, read: %v, %v", value(x), value(got), spot)
		}
		if got := integer.Make(x.Limbs()); !same(got, x) {
			t.Errorf("%v, made of its limbs: %v", value(x), value(got))
		}
	}
}

// whole is a list with all the room behind its end.
func whole(a []uint32) []uint32 { return a[:cap(a)] }

// R3: the list that a number is made of is neither changed nor kept, nor is the room behind its end.
func TestMakeKeepsNothing(t *testing.T) {
	limbs := append(make([]uint32, 0, 8), 5, 6, 7)
	copy(limbs[3:8], []uint32{8, 9, 10, 11, 12})
	was := slices.Clone(whole(limbs))
	x := integer.Make(true, limbs)
	text := x.Text()
	every(x, of(77))
	if !slices.Equal(whole(limbs), was) {
		t.Errorf("changed: %v", whole(limbs))
	}
	clear(whole(limbs))
	if x.Text() != text {
		t.Errorf("kept: %s", x.Text())
	}
}

// every asks all calls, and answers all numbers that they do.
func every(x, y integer.Int) []integer.Int {
	x.Small()
	x.Cmp(y)
	q, r, _ := x.DivMod(y)
	g, u, v := x.Bezout(y)
	over, _ := x.Over(1)
	up, _ := x.Shl(0)
	down, _ := x.Shr(0)
	power, _ := x.Pow(1)
	read, _ := integer.Read(x.Text())
	return []integer.Int{x.Neg(), x.Abs(), x.Add(y), x.Sub(y), x.Mul(y), x.Times(1), x.Add(of(0)), x.Mul(of(1)), q, r, g, u, v, x.Gcd(y), over, up, down, power, read, integer.Sum(x), integer.Product(x), integer.Make(x.Limbs())}
}

// R3: the limbs that are answered are new memory each time, of what was reckoned from a number, too.
func TestLimbsAreNew(t *testing.T) {
	for _, x := range samples(20) {
		for _, y := range samples(5) {
			a, b := x.Text(), y.Text()
			all := append(every(x, y), x, y)
			var texts []string
			for _, z := range all {
				texts = append(texts, z.Text())
			}
			for _, z := range all {
				_, limbs := z.Limbs()
				for i := range whole(limbs) {
					whole(limbs)[i] ^= 0x5a5a5a5a
				}
			}
			for i, z := range all {
				if z.Text() != texts[i] {
					t.Fatalf("%s, %s: the number %d is changed: %s", a, b, i, z.Text())
				}
			}
		}
	}
}

// R3: the lists of Sum and Product stay as they are.
func TestManyStay(t *testing.T) {
	all := append(make([]integer.Int, 0, 4), of(2), of(-3), of(math.MinInt64))
	all[:4][3] = of(9)
	integer.Sum(all...)
	integer.Product(all...)
	for i, want := range []int64{2, -3, math.MinInt64, 9} {
		if !same(all[:4][i], of(want)) {
			t.Errorf("%d: %s", i, all[:4][i].Text())
		}
	}
}
