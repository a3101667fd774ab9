package ratio_test

import (
	"testing"

	"swage/api"
	"swage/integer"
	"swage/ratio"
)

// few are samples of each sort, so few that three of them may be taken together.
func few() []ratio.Rat {
	m := maker(31)
	all := []ratio.Rat{{}, rat(0, -5), rat(1, 1), rat(-1, 1), rat(1, 2), rat(-1, 2), rat(2, 3), rat(-5, 6), rat(7, 12), rat(12, 7), rat(-4, 1), rat(1, 1<<32), rat(-top, 1<<33)}
	for len(all) < 20 {
		if x, e := ratio.Make(m.pair(3)); e == api.OK {
			all = append(all, x)
		}
	}
	return all
}

// P3.6
func TestField(t *testing.T) {
	for _, x := range few() {
		if !zero(x.Add(x.Neg())) || !zero(x.Sub(x)) || !same(x.Add(ratio.Rat{}), x) || !same(x.Mul(rat(1, 1)), x) || !zero(x.Mul(ratio.Rat{})) {
			t.Errorf("%s: 0 and 1", x.Text())
		}
		for _, y := range few() {
			sum, product := x.Add(y), x.Mul(y)
			if !same(sum, y.Add(x)) || !same(product, y.Mul(x)) {
				t.Errorf("%s, %s: the order matters", x.Text(), y.Text())
			}
			if !same(sum.Sub(y), x) || !same(x.Sub(y), x.Add(y.Neg())) {
				t.Errorf("%s, %s: Sub does not undo Add", x.Text(), y.Text())
			}
			if got, e := product.Over(y); y.Sign() != 0 && (!same(got, x) || e != api.OK) {
				t.Errorf("%s, %s: Over does not undo Mul: %s, %v", x.Text(), y.Text(), got.Text(), e)
			}
			for _, z := range few() {
				if !same(sum.Add(z), x.Add(y.Add(z))) || !same(product.Mul(z), x.Mul(y.Mul(z))) {
					t.Errorf("%s, %s, %s: it matters which are done first", x.Text(), y.Text(), z.Text())
				}
				if !same(z.Mul(sum), z.Mul(x).Add(z.Mul(y))) {
					t.Errorf("%s times %s and %s", z.Text(), x.Text(), y.Text())
				}
				if !same(ratio.Sum(x, y, z), ratio.Sum(z, y, x)) || !same(ratio.Sum(x, y, z), sum.Add(z)) {
					t.Errorf("%s, %s, %s: Sum", x.Text(), y.Text(), z.Text())
				}
			}
		}
	}
}

// P3.7
func TestOrder(t *testing.T) {
	for _, x := range few() {
		for _, y := range few() {
			c := x.Cmp(y)
			if c != x.Sub(y).Sign() || c != -y.Cmp(x) || (c == 0) != same(x, y) {
				t.Errorf("%s Cmp %s: %d", x.Text(), y.Text(), c)
			}
			for _, z := range few() {
				if x.Add(z).Cmp(y.Add(z)) != c {
					t.Errorf("%s Cmp %s, both with %s: %d", x.Text(), y.Text(), z.Text(), c)
				}
			}
		}
	}
}

// P3.7
func TestFloorIsNext(t *testing.T) {
	for _, x := range samples(100) {
		floor := ratio.Whole(x.Floor())
		if floor.Cmp(x) > 0 || floor.Add(rat(1, 1)).Cmp(x) <= 0 || x.IsWhole() != (floor.Cmp(x) == 0) {
			t.Errorf("Floor of %s: %s", x.Text(), floor.Text())
		}
	}
}

// R3: what Sum and Common are handed stays as it is, the room behind its end too.
func TestListsStay(t *testing.T) {
	all := append(make([]ratio.Rat, 0, 5), rat(1, 2), rat(-2, 3), rat(4, 1))
	copy(all[3:5], []ratio.Rat{rat(9, 7), rat(-8, 5)})
	ratio.Sum(all...)
	list, _ := ratio.Common(all...)
	list = append(list, of(1), of(2), of(3))
	for i := range list[:cap(list)] {
		list[:cap(list)][i] = of(99)
	}
	for i, want := range []string{"1/2", "-2/3", "4", "9/7", "-8/5"} {
		if got := all[:5][i].Text(); got != want {
			t.Errorf("%d: %s", i, got)
		}
	}
}

// R3: the lists that Common answers are new each time, and hang no more on what was handed in.
func TestListsAreNew(t *testing.T) {
	for n := 1; n < 12; n++ {
		all := few()[4 : 4+n]
		first, d := ratio.Common(all...)
		second, _ := ratio.Common(all...)
		var texts []string
		for _, x := range second {
			texts = append(texts, x.Text())
		}
		was := d.Text()
		for i := range first[:cap(first)] {
			first[:cap(first)][i] = of(-77)
		}
		clear(all)
		for i, x := range second {
			if x.Text() != texts[i] || d.Text() != was {
				t.Errorf("%d of %d: %s, over %s", i, n, x.Text(), d.Text())
			}
		}
		for i, x := range second[len(second):cap(second)] {
			if x.Sign() != 0 {
				t.Errorf("behind the end of %d: %s at %d", n, x.Text(), i)
			}
		}
	}
}

// R3, R4: a Rat never changes, whatever is done with it, with its copy, or with the limbs of its parts.
func TestNeverChanges(t *testing.T) {
	limbs := []uint32{5, 6, 7}
	x, _ := ratio.Make(integer.Make(true, limbs), integer.Make(false, limbs[1:2]))
	y, text := x, x.Text()
	clear(limbs)
	parts := []integer.Int{x.Num(), x.Den(), x.Floor(), y.Num(), x.Neg().Num(), x.Neg().Den(), x.Add(ratio.Rat{}).Num(), x.Mul(rat(1, 1)).Den(), ratio.Sum(x).Den(), ratio.Whole(x.Num()).Num()}
	common, d := ratio.Common(x)
	over, _ := x.Over(rat(-1, 1))
	parts = append(parts, common[0], d, over.Num(), over.Den())
	for _, z := range parts {
		_, own := z.Limbs()
		for i := range own[:cap(own)] {
			own[:cap(own)][i] ^= 0x5a5a5a5a
		}
	}
	if x.Text() != text || y.Text() != text || x.Cmp(y) != 0 {
		t.Errorf("%s: %s, %s", text, x.Text(), y.Text())
	}
}

// R5: a Rat may be asked by several goroutines at one time.
func TestAtOneTime(t *testing.T) {
	x, y := rat(-7, 12), rat(5, 18)
	answers := make(chan string)
	for range 8 {
		go func() {
			q, _ := x.Over(y)
			_, d := ratio.Common(x, y)
			answers <- x.Add(y).Text() + " " + x.Mul(y).Text() + " " + q.Text() + " " + d.Text() + " " + x.Floor().Text()
		}()
	}
	for range 8 {
		if got := <-answers; got != "-11/36 -35/216 -21/10 36 -1" {
			t.Error(got)
		}
	}
}
