package row_test

import (
	"math/big"
	"testing"

	"swage/api"
	"swage/integer"
	"swage/row"
)

// sum, less and product are numbers of another make.
func sum(x, y *big.Int) *big.Int     { return new(big.Int).Add(x, y) }
func less(x, y *big.Int) *big.Int    { return new(big.Int).Sub(x, y) }
func product(x, y *big.Int) *big.Int { return new(big.Int).Mul(x, y) }

// P4.2
func TestReckonExamples(t *testing.T) {
	if got, e := row.Combine(of(2), row.Of(1, 2), of(-1), row.Of(3, 0)); !is(got, -1, 4) || e != api.OK {
		t.Errorf("Combine: %s, %v", show(got), e)
	}
	if got, e := row.Dot(row.Of(1, 2), row.Of(3, -4)); value(got).Cmp(big.NewInt(-5)) != 0 || e != api.OK {
		t.Errorf("Dot: %s, %v", got.Text(), e)
	}
	if got, e := row.Add(row.Of(1, -2, 0), row.Of(3, 2, -7)); !is(got, 4, 0, -7) || e != api.OK {
		t.Errorf("Add: %s, %v", show(got), e)
	}
	if got, e := row.Sub(row.Of(1, -2, 0), row.Of(3, -2, -7)); !is(got, -2, 0, 7) || e != api.OK {
		t.Errorf("Sub: %s, %v", show(got), e)
	}
	if got := row.Neg(row.Of(1, 0, -2)); !is(got, -1, 0, 2) {
		t.Errorf("Neg: %s", show(got))
	}
	if got := row.Scale(row.Of(1, 0, -2), of(-3)); !is(got, -3, 0, 6) {
		t.Errorf("Scale: %s", show(got))
	}
}

// P4.2
func TestPairs(t *testing.T) {
	c, d := integer.Make(true, []uint32{5, 1}), of(12)
	combined := func(x, y *big.Int) *big.Int { return sum(product(value(c), x), product(value(d), y)) }
	for _, a := range rows(60) {
		for _, b := range rows(60) {
			if len(a) != len(b) {
				continue
			}
			if got, e := row.Add(a, b); !says(got, paired(a, b, sum)) || e != api.OK {
				t.Errorf("Add(%s, %s): %s, %v", show(a), show(b), show(got), e)
			}
			if got, e := row.Sub(a, b); !says(got, paired(a, b, less)) || e != api.OK {
				t.Errorf("Sub(%s, %s): %s, %v", show(a), show(b), show(got), e)
			}
			if got, e := row.Combine(c, a, d, b); !says(got, paired(a, b, combined)) || e != api.OK {
				t.Errorf("Combine(%s, %s): %s, %v", show(a), show(b), show(got), e)
			}
			want := new(big.Int)
			for _, v := range paired(a, b, product) {
				want.Add(want, v)
			}
			if got, e := row.Dot(a, b); value(got).Cmp(want) != 0 || e != api.OK {
				t.Errorf("Dot(%s, %s): %s, %v", show(a), show(b), got.Text(), e)
			}
		}
	}
}

// P4.2
func TestCombineMany(t *testing.T) {
	m := maker(97)
	a, b := m.row(7), m.row(7)
	for _, c := range numbers(6) {
		for _, d := range numbers(6) {
			want := paired(a, b, func(x, y *big.Int) *big.Int { return sum(product(value(c), x), product(value(d), y)) })
			if got, e := row.Combine(c, a, d, b); !says(got, want) || e != api.OK {
				t.Errorf("Combine(%s, %s, %s, %s): %s, %v", c.Text(), show(a), d.Text(), show(b), show(got), e)
			}
		}
	}
}

// P4.2: rows that are not as long as each other.
func TestPairsWrong(t *testing.T) {
	one, zero := of(1), of(0)
	for _, a := range rows(20) {
		for _, b := range rows(20) {
			if len(a) == len(b) {
				continue
			}
			if got, e := row.Add(a, b); len(got) != 0 || e != api.ErrRange {
				t.Errorf("Add(%s, %s): %s, %v", show(a), show(b), show(got), e)
			}
			if got, e := row.Sub(a, b); len(got) != 0 || e != api.ErrRange {
				t.Errorf("Sub(%s, %s): %s, %v", show(a), show(b), show(got), e)
			}
			if got, e := row.Combine(one, a, zero, b); len(got) != 0 || e != api.ErrRange {
				t.Errorf("Combine(%s, %s): %s, %v", show(a), show(b), show(got), e)
			}
			if got, e := row.Dot(a, b); got.Sign() != 0 || e != api.ErrRange {
				t.Errorf("Dot(%s, %s): %s, %v", show(a), show(b), got.Text(), e)
			}
		}
	}
}

// P4.2
func TestPairsLong(t *testing.T) {
	const most = 2 * api.MaxCoeffs
	m := maker(5)
	a, b := m.row(most), m.row(most)
	if got, e := row.Add(a, b); !says(got, paired(a, b, sum)) || e != api.OK {
		t.Errorf("Add of %d: %v", most, e)
	}
	want := new(big.Int)
	for _, v := range paired(a, b, product) {
		want.Add(want, v)
	}
	if got, e := row.Dot(a, b); value(got).Cmp(want) != 0 || e != api.OK {
		t.Errorf("Dot of %d: %v", most, e)
	}
	if got, e := row.Sub(a, b[1:]); len(got) != 0 || e != api.ErrRange {
		t.Errorf("Sub of %d and one less: %d numbers, %v", most, len(got), e)
	}
}

// P4.2
func TestNegAndScale(t *testing.T) {
	for _, a := range rows(40) {
		zeros := make([]integer.Int, len(a))
		if got := row.Neg(a); !says(got, paired(zeros, a, less)) {
			t.Errorf("Neg(%s): %s", show(a), show(got))
		}
		for _, c := range numbers(6) {
			want := paired(a, zeros, func(x, _ *big.Int) *big.Int { return product(x, value(c)) })
			if got := row.Scale(a, c); !says(got, want) {
				t.Errorf("Scale(%s, %s): %s", show(a), c.Text(), show(got))
			}
		}
	}
}
