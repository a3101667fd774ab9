package ratio_test

import (
	"math/big"
	"testing"

	"swage/api"
	"swage/integer"
	"swage/ratio"
)

// P3.3
func TestReckoned(t *testing.T) {
	for _, x := range []struct {
		x, y                        ratio.Rat
		sum, less, times, over, neg string
	}{
		{rat(1, 2), rat(1, 3), "5/6", "1/6", "1/6", "3/2", "-1/2"}, {rat(-1, 2), rat(1, 2), "0", "-1", "-1/4", "-1", "1/2"}, {rat(1, 6), rat(1, 3), "1/2", "-1/6", "1/18", "1/2", "-1/6"}, {rat(3, 4), rat(-8, 9), "-5/36", "59/36", "-2/3", "-27/32", "-3/4"},
		{rat(1, 4), rat(1, 4), "1/2", "0", "1/16", "1", "-1/4"}, {rat(5, 1), rat(1, 5), "26/5", "24/5", "1", "25", "-5"}, {rat(0, 3), rat(-7, 5), "-7/5", "7/5", "0", "0", "0"}, {rat(1, 6), rat(-1, 10), "1/15", "4/15", "-1/60", "-5/3", "-1/6"}, {rat(-4, 1), rat(-6, 1), "-10", "2", "24", "2/3", "4"},
	} {
		over, e := x.x.Over(x.y)
		if x.x.Add(x.y).Text() != x.sum || x.x.Sub(x.y).Text() != x.less || x.x.Mul(x.y).Text() != x.times || over.Text() != x.over || e != api.OK || x.x.Neg().Text() != x.neg {
			t.Errorf("%s, %s: %s, %s, %s, %s, %v", x.x.Text(), x.y.Text(), x.x.Add(x.y).Text(), x.x.Sub(x.y).Text(), x.x.Mul(x.y).Text(), over.Text(), e)
		}
	}
}

// P3.3
func TestOfTwo(t *testing.T) {
	for _, x := range samples(60) {
		v := value(x)
		if !says(x.Neg(), new(big.Rat).Neg(v)) {
			t.Errorf("Neg of %s: %s", x.Text(), x.Neg().Text())
		}
		for _, y := range samples(60) {
			w := value(y)
			if got := x.Add(y); !says(got, new(big.Rat).Add(v, w)) {
				t.Errorf("%s Add %s: %s", x.Text(), y.Text(), got.Text())
			}
			if got := x.Sub(y); !says(got, new(big.Rat).Sub(v, w)) {
				t.Errorf("%s Sub %s: %s", x.Text(), y.Text(), got.Text())
			}
			if got := x.Mul(y); !says(got, new(big.Rat).Mul(v, w)) {
				t.Errorf("%s Mul %s: %s", x.Text(), y.Text(), got.Text())
			}
			got, e := x.Over(y)
			if w.Sign() == 0 {
				if !zero(got) || e != api.ErrArg {
					t.Errorf("%s Over 0: %s, %v", x.Text(), got.Text(), e)
				}
			} else if !says(got, new(big.Rat).Quo(v, w)) || e != api.OK {
				t.Errorf("%s Over %s: %s, %v", x.Text(), y.Text(), got.Text(), e)
			}
		}
	}
}

// P3.4
func TestSum(t *testing.T) {
	if !zero(ratio.Sum()) || !zero(ratio.Sum(nil...)) || !zero(ratio.Sum([]ratio.Rat{}...)) {
		t.Errorf("Sum of none: %s", ratio.Sum().Text())
	}
	if got := ratio.Sum(rat(1, 2), rat(1, 3), rat(1, 6)); !same(got, rat(1, 1)) {
		t.Errorf("Sum: %s", got.Text())
	}
	for _, x := range samples(60) {
		if !same(ratio.Sum(x), x) || !zero(ratio.Sum(x, x.Neg())) {
			t.Errorf("Sum of %s: %s", x.Text(), ratio.Sum(x).Text())
		}
	}
	all, sum := samples(60), new(big.Rat)
	for i, x := range all {
		if got := ratio.Sum(all[:i]...); !says(got, sum) {
			t.Errorf("Sum of %d: %s", i, got.Text())
		}
		sum.Add(sum, value(x))
	}
}

// P3.4
func TestCommon(t *testing.T) {
	for _, x := range []struct {
		l    []ratio.Rat
		want []int64
		d    int64
	}{
		{[]ratio.Rat{rat(1, 2), rat(-2, 3), rat(4, 1)}, []int64{3, -4, 24}, 6}, {[]ratio.Rat{rat(1, 4), rat(1, 6)}, []int64{3, 2}, 12}, {[]ratio.Rat{rat(5, 1), rat(0, 9), rat(-7, 1)}, []int64{5, 0, -7}, 1}, {[]ratio.Rat{{}}, []int64{0}, 1}, {[]ratio.Rat{{}, {}}, []int64{0, 0}, 1},
		{[]ratio.Rat{rat(-3, 8)}, []int64{-3}, 8}, {[]ratio.Rat{rat(1, 8), rat(1, 4), rat(1, 2), rat(1, 8)}, []int64{1, 2, 4, 1}, 8}, {[]ratio.Rat{rat(2, 15), rat(2, 21), rat(2, 35)}, []int64{14, 10, 6}, 105},
	} {
		got, d := ratio.Common(x.l...)
		if len(got) != len(x.want) || d.Cmp(of(x.d)) != 0 {
			t.Errorf("Common: %d, %s", len(got), d.Text())
			continue
		}
		for i, n := range got {
			if n.Cmp(of(x.want[i])) != 0 {
				t.Errorf("Common, over %s: %s at %d", d.Text(), n.Text(), i)
			}
		}
	}
	for _, none := range [][]ratio.Rat{nil, {}, make([]ratio.Rat, 0, 5)} {
		if got, d := ratio.Common(none...); got != nil || d.Cmp(of(1)) != 0 {
			t.Errorf("Common of none: %v, %s", got, d.Text())
		}
	}
}

// P3.4: the least number, held against numbers of another make.
func TestCommonMany(t *testing.T) {
	all := samples(40)
	for n := range len(all) - 1 {
		l := all[n:min(n+9, len(all))]
		want := big.NewInt(1)
		for _, x := range l {
			den := value(x).Denom()
			want.Mul(want, new(big.Int).Quo(den, new(big.Int).GCD(nil, nil, want, den)))
		}
		got, d := ratio.Common(l...)
		if len(got) != len(l) || number(d).Cmp(want) != 0 {
			t.Errorf("Common of %d from %d on: %d, %s", len(l), n, len(got), d.Text())
			continue
		}
		for i, x := range l {
			times := new(big.Rat).Mul(value(x), new(big.Rat).SetInt(want))
			if !times.IsInt() || number(got[i]).Cmp(times.Num()) != 0 {
				t.Errorf("%s times %s: %s", x.Text(), d.Text(), got[i].Text())
			}
		}
	}
}

// P3.4: what was made common is, over the number, what it was.
func TestCommonBack(t *testing.T) {
	all := samples(20)
	got, d := ratio.Common(all...)
	for i, x := range all {
		if back, e := ratio.Make(got[i], d); !same(back, x) || e != api.OK {
			t.Errorf("%s: %s, %v", x.Text(), back.Text(), e)
		}
	}
	if back, e := ratio.Make(integer.Sum(got...), d); !same(back, ratio.Sum(all...)) || e != api.OK {
		t.Errorf("the sum: %s, %v", back.Text(), e)
	}
}
