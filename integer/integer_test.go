package integer_test

import (
	"math/big"
	"slices"
	"testing"

	"swage/integer"
)

// P2.1
func TestOf(t *testing.T) {
	for _, n := range ends() {
		x := of(n)
		if !says(x, big.NewInt(n)) {
			t.Errorf("Of(%d): %v", n, value(x))
		}
		if got, ok := x.Small(); got != n || !ok {
			t.Errorf("Small of %d: %d, %v", n, got, ok)
		}
	}
	if !zero(integer.Int{}) {
		t.Error("the zero value is not 0")
	}
}

// P2.1
func TestMake(t *testing.T) {
	for _, x := range []struct {
		neg   bool
		limbs []uint32
		below bool
		want  []uint32
	}{
		{false, nil, false, nil}, {true, nil, false, nil}, {true, []uint32{}, false, nil}, {true, []uint32{0}, false, nil}, {false, []uint32{0, 0, 0}, false, nil},
		{true, []uint32{0, 1, 0}, true, []uint32{0, 1}}, {false, []uint32{0, 1, 0, 0}, false, []uint32{0, 1}}, {true, []uint32{7}, true, []uint32{7}}, {false, []uint32{top, top, top}, false, []uint32{top, top, top}},
	} {
		below, limbs := integer.Make(x.neg, x.limbs).Limbs()
		if below != x.below || !slices.Equal(limbs, x.want) {
			t.Errorf("Make(%v, %v): %v, %v", x.neg, x.limbs, below, limbs)
		}
	}
}

// P2.1
func TestSmall(t *testing.T) {
	for _, x := range []struct {
		neg   bool
		limbs []uint32
		want  int64
		ok    bool
	}{
		{false, []uint32{top, 1<<31 - 1}, 1<<63 - 1, true}, {true, []uint32{top, 1<<31 - 1}, 1 - 1<<63, true}, {true, []uint32{0, 1 << 31}, -1 << 63, true},
		{false, []uint32{0, 1 << 31}, 0, false}, {true, []uint32{1, 1 << 31}, 0, false}, {false, []uint32{top, top}, 0, false}, {true, []uint32{top, top}, 0, false},
		{false, []uint32{0, 0, 1}, 0, false}, {true, []uint32{0, 0, 1}, 0, false}, {false, []uint32{5, 0, 0, 1}, 0, false}, {false, []uint32{5, 0, 0, 0}, 5, true},
	} {
		if got, ok := integer.Make(x.neg, x.limbs).Small(); got != x.want || ok != x.ok {
			t.Errorf("Small of %v, %v: %d, %v", x.neg, x.limbs, got, ok)
		}
	}
	for _, x := range samples(60) {
		got, ok := x.Small()
		if ok != value(x).IsInt64() || ok && got != value(x).Int64() || !ok && got != 0 {
			t.Errorf("Small of %v: %d, %v", value(x), got, ok)
		}
	}
}

// P2.2
func TestSigns(t *testing.T) {
	for _, x := range samples(60) {
		v := value(x)
		if x.Sign() != v.Sign() {
			t.Errorf("Sign of %v: %d", v, x.Sign())
		}
		if !says(x.Neg(), new(big.Int).Neg(v)) || !says(x.Abs(), new(big.Int).Abs(v)) {
			t.Errorf("%v: Neg %v, Abs %v", v, value(x.Neg()), value(x.Abs()))
		}
	}
}

// P2.2
func TestOfTwo(t *testing.T) {
	for _, x := range samples(60) {
		for _, y := range samples(60) {
			v, w := value(x), value(y)
			if got := x.Cmp(y); got != v.Cmp(w) {
				t.Errorf("Cmp of %v, %v: %d", v, w, got)
			}
			if got := x.Add(y); !says(got, new(big.Int).Add(v, w)) {
				t.Errorf("Add of %v, %v: %v", v, w, value(got))
			}
			if got := x.Sub(y); !says(got, new(big.Int).Sub(v, w)) {
				t.Errorf("Sub of %v, %v: %v", v, w, value(got))
			}
			if got := x.Mul(y); !says(got, new(big.Int).Mul(v, w)) {
				t.Errorf("Mul of %v, %v: %v", v, w, value(got))
			}
		}
	}
}

// P2.2
func TestTimes(t *testing.T) {
	for _, x := range samples(60) {
		for _, c := range ends() {
			if got := x.Times(int(c)); !says(got, new(big.Int).Mul(value(x), big.NewInt(c))) {
				t.Errorf("%v Times %d: %v", value(x), c, value(got))
			}
		}
	}
}

// P2.2
func TestSumProduct(t *testing.T) {
	if !zero(integer.Sum()) || !same(integer.Product(), of(1)) {
		t.Errorf("of none: %v, %v", value(integer.Sum()), value(integer.Product()))
	}
	if got := integer.Sum(of(1), of(2), of(-5)); !same(got, of(-2)) {
		t.Errorf("Sum: %v", value(got))
	}
	if got := integer.Product(of(3), of(-4)); !same(got, of(-12)) {
		t.Errorf("Product: %v", value(got))
	}
	m := maker(2463534242)
	for n := range 12 {
		var all []integer.Int
		sum, product := new(big.Int), big.NewInt(1)
		for range n {
			x := m.number(3)
			all = append(all, x)
			sum.Add(sum, value(x))
			product.Mul(product, value(x))
		}
		if !says(integer.Sum(all...), sum) || !says(integer.Product(all...), product) {
			t.Errorf("of %d: %v, %v", n, value(integer.Sum(all...)), value(integer.Product(all...)))
		}
	}
	if got := integer.Product(of(7), of(0), of(-7)); !zero(got) {
		t.Errorf("Product with 0: %v", value(got))
	}
}
