package limb_test

import (
	"math/big"
	"slices"
	"strings"
	"testing"

	"swage/api"
	"swage/limb"
)

// texts are numbers' texts, at whose noughts and lengths a group of digits may go wrong.
func texts() []string {
	return []string{
		"0", "1", "9", "10", "99", "100", "4294967295", "4294967296", "999999999", "1000000000", "1000000001", "1099999999",
		"999999999999999999", "1000000000000000000", "1000000000000000005", "7000000000000000000000000000", "18446744073709551616",
		"340282366920938463463374607431768211455", "100000000200000000030000000004",
	}
}

// told is the text of the digits that are told.
func told(a []uint32) string {
	var s []byte
	for d := range limb.Digits(a) {
		s = append(s, "0123456789"[d])
	}
	return string(s)
}

// P1.8
func TestText(t *testing.T) {
	for _, text := range texts() {
		v, _ := new(big.Int).SetString(text, 10)
		var a []uint32
		for w := new(big.Int).Set(v); w.Sign() > 0; w.Rsh(w, 32) {
			a = append(a, uint32(w.Uint64()))
		}
		for _, a := range [][]uint32{a, append(slices.Clone(a), 0, 0)} {
			if limb.Text(a) != text || told(a) != text {
				t.Errorf("%s: Text %s, Digits %s", text, limb.Text(a), told(a))
			}
		}
	}
	for _, a := range samples(60) {
		if want := value(a).String(); limb.Text(a) != want || told(a) != want {
			t.Errorf("%v: Text %s, Digits %s", a, limb.Text(a), told(a))
		}
	}
}

// P1.8, R6
func TestDigitsLeftEarly(t *testing.T) {
	digits := limb.Digits(l(3567587328, 232)) // 10^12
	for most := range 14 {
		var got []int
		for d := range digits {
			if len(got) == most {
				break
			}
			got = append(got, d)
		}
		want := append([]int{1}, make([]int, 12)...)[:min(most, 13)]
		if !slices.Equal(got, want) {
			t.Errorf("%d digits: %v", most, got)
		}
	}
}

// P1.8, R3: a list that is changed behind the call is not told.
func TestDigitsKeepNothing(t *testing.T) {
	a := l(123, 0)
	digits := limb.Digits(a)
	a[0], a[1] = 9, 9
	var got []int
	for d := range digits {
		a[0]++
		got = append(got, d)
	}
	if !slices.Equal(got, []int{1, 2, 3}) {
		t.Errorf("Digits: %v", got)
	}
}

// P1.9
func TestRead(t *testing.T) {
	for _, text := range texts() {
		v, _ := new(big.Int).SetString(text, 10)
		if got, spot := limb.Read(text); !says(got, v) || spot != (api.Spot{}) {
			t.Errorf("Read(%s): %v, %v", text, got, spot)
		}
	}
	for digits := range 60 {
		text := "1" + strings.Repeat("0123456789", 6)[:digits]
		v, _ := new(big.Int).SetString(text, 10)
		if got, spot := limb.Read(text); !says(got, v) || spot != (api.Spot{}) {
			t.Errorf("Read(%s): %v, %v", text, got, spot)
		}
	}
}

// P1.9
func TestReadWrong(t *testing.T) {
	long := strings.Repeat("1", 100)
	for _, x := range []struct {
		text string
		at   int
	}{
		{"", 0}, {"007", 1}, {"00", 1}, {"01", 1}, {"1x", 1}, {"-1", 0}, {"+1", 0}, {" 1", 0}, {"1 ", 1}, {"12 ", 2}, {"0x1", 1}, {"x0", 0}, {"0/", 1}, {"0:", 1}, {"1/2", 1}, {"1:", 1}, {"/", 0}, {":", 0}, {"1_000", 1}, {"1\x00", 1}, {"\xff", 0}, {"1\xff", 1}, {"\u0661", 0}, {"1\n", 1}, {"10x01", 2}, {long + "e", 100}, {long + "-" + long, 100},
		{strings.Repeat("1", api.MaxText-1) + "x", api.MaxText - 1}, {"0" + strings.Repeat("1", api.MaxText-1), 1},
	} {
		if got, spot := limb.Read(x.text); len(got) != 0 || spot != (api.Spot{Err: api.ErrText, At: x.at}) {
			t.Errorf("Read of %d bytes, %.9q: %v, %v", len(x.text), x.text, got, spot)
		}
	}
}

// P1.9, R8
func TestReadLong(t *testing.T) {
	text := strings.Repeat("9", api.MaxText)
	got, spot := limb.Read(text)
	want := new(big.Int).Exp(big.NewInt(10), big.NewInt(api.MaxText), nil)
	if !says(got, want.Sub(want, big.NewInt(1))) || spot != (api.Spot{}) {
		t.Errorf("Read at MaxText: %d limbs, %v", len(got), spot)
	}
	if limb.Text(got) != text {
		t.Error("Text at MaxText")
	}
	for _, text := range []string{text + "9", text + "x", "x" + text, "0" + text, "00" + text, strings.Repeat("\xff", 2*api.MaxText)} {
		if got, spot := limb.Read(text); len(got) != 0 || spot != (api.Spot{Err: api.ErrLong, At: api.MaxText}) {
			t.Errorf("Read of %d bytes: %v, %v", len(text), got, spot)
		}
	}
}
