package check_test

import (
	"fmt"
	"slices"
	"testing"

	"swage/api"
	"swage/check"
	"swage/code"
)

// holdRefused tells what is wrong, unless Accept tells this of bytes, and no unit.
func holdRefused(t *testing.T, b []byte, spot api.Spot) {
	t.Helper()
	if u, got := check.Accept(b); got != spot || !zero(u) {
		t.Errorf("%d bytes %x: %s, %v, not %v", len(b), b[:min(len(b), 1000)], show(u), got, spot)
	}
}

// holdTaken tells what is wrong, unless Accept answers of its bytes the unit, if it is right by the chapter's words, and else tells what they say; that is answered.
func holdTaken(t *testing.T, u api.Unit) api.Spot {
	t.Helper()
	part, e := wrongOf(u)
	spot := api.Spot{Err: e, At: part}
	b := encoded(t, u)
	if e != api.OK {
		holdRefused(t, b, spot)
		return spot
	}
	if v, got := check.Accept(b); got != (api.Spot{}) || !alike(u, v) {
		t.Errorf("%s: %s, %v", show(u), show(v), got)
	}
	return spot
}

// sealed are bytes with their last two changed to the check of those ahead, by the words of chapter 17.
func sealed(b []byte) []byte {
	b = slices.Clone(b)
	sum := 0
	for k, c := range b[:len(b)-2] {
		sum = (sum + (k+1)*int(c)) % 65521
	}
	b[len(b)-2], b[len(b)-1] = byte(sum/256), byte(sum%256)
	return b
}

// P18.2: the chapter's examples.
func TestAcceptExamples(t *testing.T) {
	u := compiled(t, 2, 2, "0 1 inf")
	b := encoded(t, u)
	if v, spot := check.Accept(b); spot != (api.Spot{}) || !alike(u, v) {
		t.Errorf("%s, %v", show(v), spot)
	}
	holdRefused(t, b[:len(b)-1], api.Spot{Err: api.ErrCode, At: len(b) - 1})
	second, third := cloned(u), cloned(u)
	second.Right.Outs = []int{0, 0, 0}
	slices.Reverse(third.Back.Outs)
	holdRefused(t, encoded(t, second), api.Spot{Err: api.ErrWrong, At: 2})
	holdRefused(t, encoded(t, third), api.Spot{Err: api.ErrWrong, At: 3})
	if api.ErrCode != 170 {
		t.Error("the error has another number")
	}
}

// P18.2: bytes that are no unit's: none, others, a unit's with more behind them.
func TestOtherBytes(t *testing.T) {
	holdRefused(t, nil, api.Spot{Err: api.ErrCode})
	holdRefused(t, []byte{}, api.Spot{Err: api.ErrCode})
	holdRefused(t, []byte("ANV2"), api.Spot{Err: api.ErrCode, At: 3})
	holdRefused(t, make([]byte, 100000), api.Spot{Err: api.ErrCode})
	b := encoded(t, compiled(t, 2, 3, "0 1 -1 inf"))
	holdRefused(t, slices.Concat(b, b), api.Spot{Err: api.ErrCode, At: len(b)})
	holdRefused(t, append(slices.Clone(b), 0), api.Spot{Err: api.ErrCode, At: len(b)})
}

// P18.2: cut short at any place: ErrCode there.
func TestCutShort(t *testing.T) {
	for _, u := range append(right(t, 182, 4, 5), compiled(t, 4, 4, "0 1 -1 2 -2 1/2 inf")) {
		b := encoded(t, u)
		for n := range b {
			holdRefused(t, b[:n], api.Spot{Err: api.ErrCode, At: n})
		}
	}
}

// P18.2: each byte changed: what Decode says.
func TestOneByteChanged(t *testing.T) {
	for _, u := range right(t, 183, 4, 3) {
		b := encoded(t, u)
		for n := range b {
			for _, with := range []byte{1, 2, 16, 127, 128, 255} {
				l := slices.Clone(b)
				l[n] += with
				_, spot := code.Decode(l)
				if spot.Err != api.ErrCode || spot.At < n {
					t.Fatalf("Decode of %x: %v", l, spot)
				}
				holdRefused(t, l, spot)
			}
		}
	}
}

// P18.2: each byte changed, and the check mended: what Decode says, else Unit's error at the part's number; or another unit that is right.
func TestOneByteChangedAndSealed(t *testing.T) {
	counts := map[string]int{}
	for k, u := range right(t, 184, 4, 3) {
		b := encoded(t, u)
		for n := range len(b) - 2 {
			for with := 1 + k; with < 256; with += 17 {
				l := slices.Clone(b)
				l[n] += byte(with)
				l = sealed(l)
				v, spot := code.Decode(l)
				if spot == (api.Spot{}) {
					spot = holdTaken(t, v)
				} else {
					holdRefused(t, l, spot)
					spot.At = 0
				}
				counts[fmt.Sprint(spot.At, " ", spot.Err)]++
			}
		}
	}
	for s, least := range map[string]int{"0 170": 1000, "0 0": 10, "0 71": 10, "1 180": 50, "2 180": 100, "3 180": 100} {
		if counts[s] < least {
			t.Errorf("%s came up %d times: %v", s, counts[s], counts)
		}
	}
}

// P18.2: units drawn at random, right ones and ones with one part changed.
func TestAcceptUnits(t *testing.T) {
	m := maker(1802)
	counts := map[string]int{}
	for _, x := range right(t, 185, 200, 7) {
		holdTaken(t, x)
		for range 8 {
			u := m.change(x)
			if _, e := code.Encode(u); e == api.OK {
				spot := holdTaken(t, u)
				counts[fmt.Sprint(spot.At, " ", spot.Err)]++
			}
		}
	}
	for _, s := range []string{"0 0", "0 71", "1 180", "2 180", "3 180"} {
		if counts[s] < 80 {
			t.Errorf("%s came up %d times: %v", s, counts[s], counts)
		}
	}
	if len(counts) != 5 {
		t.Errorf("%v", counts)
	}
}

// P18.2: units whose bytes there are, though no scheme has their points: none, as many as bytes tell of, such that are none or one.
func TestAcceptBadPoints(t *testing.T) {
	for _, h := range heads(t) {
		u := compiled(t, 2, 2, "0 1 inf")
		u.K1, u.K2, u.Points = h.k1, h.k2, h.points
		if _, e := code.Encode(u); e == api.OK {
			holdTaken(t, u)
		}
	}
	u := compiled(t, 2, 2, "0 1 inf")
	u.Points = slices.Repeat(u.Points, 85)
	if spot := holdTaken(t, u); spot != (api.Spot{Err: api.ErrBadPoints}) {
		t.Errorf("255 points: %v", spot)
	}
}

// P18.2: of bytes at which several parts are wrong the first one is told.
func TestAcceptFirst(t *testing.T) {
	u := compiled(t, 3, 2, "0 1 -1 1/2")
	for k := 3; k > 0; k-- {
		p := sides(&u)[k-1]
		p.Code = append(p.Code, in(neg, p.Outs[1], p.Outs[1], 0, 0))
		holdRefused(t, encoded(t, u), api.Spot{Err: api.ErrWrong, At: k})
	}
	u.Points[3] = at(2, 2)
	holdRefused(t, encoded(t, u), api.Spot{Err: api.ErrBadPoints, At: 0})
	b := encoded(t, u)
	b[4] = 0
	holdRefused(t, b, api.Spot{Err: api.ErrCode, At: 4})
}
