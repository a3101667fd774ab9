package ratio_test

import (
	"math/big"
	"strings"
	"testing"

	"swage/api"
	"swage/integer"
	"swage/ratio"
)

// P3.5
func TestText(t *testing.T) {
	for _, x := range []struct {
		n, d int64
		want string
	}{{6, -4, "-3/2"}, {4, 1, "4"}, {-4, 2, "-2"}, {0, -7, "0"}, {1, 10, "1/10"}, {-10, 3, "-10/3"}, {1 << 32, 3, "4294967296/3"}, {-3, 1 << 33, "-3/8589934592"}} {
		if got := rat(x.n, x.d).Text(); got != x.want {
			t.Errorf("%d/%d: %s", x.n, x.d, got)
		}
	}
	for _, x := range samples(60) {
		if got := x.Text(); got != value(x).RatString() {
			t.Errorf("Text of %s: %s", value(x).RatString(), got)
		}
	}
}

// P3.5
func TestRead(t *testing.T) {
	for _, text := range []string{
		"0", "1", "-1", "4", "-10", "1/2", "-3/2", "-1/10", "10/3", "9/100", "1/4294967296", "-4294967296/3", "-4294967295/4294967296", "123456789012345678901234567891/2", "2/123456789012345678901234567891", "-340282366920938463463374607431768211456/340282366920938463463374607431768211455", "18446744073709551616",
	} {
		v, _ := new(big.Rat).SetString(text)
		got, spot := ratio.Read(text)
		if !says(got, v) || spot != (api.Spot{}) || got.Text() != text {
			t.Errorf("Read of %s: %s, %v", text, got.Text(), spot)
		}
	}
}

// refused asks that a text is refused at a place, and that 0 is answered beside it.
func refused(t *testing.T, text string, e api.Errno, at int) {
	t.Helper()
	if got, spot := ratio.Read(text); !zero(got) || spot != (api.Spot{Err: e, At: at}) {
		t.Errorf("Read of %d bytes, %.9q: %.20s, %v", len(text), text, got.Text(), spot)
	}
}

// P3.5
func TestReadWrong(t *testing.T) {
	for _, x := range []struct {
		text string
		at   int
	}{
		{"", 0}, {"-", 1}, {"-0", 1}, {"01", 1}, {"00", 1}, {"-01", 1}, {"--1", 1}, {"+1", 0}, {"x", 0}, {"1x", 1}, {" 1", 0}, {"1 ", 1}, {"1.5", 1}, {"1-", 1}, {"\xff", 0}, {"1\x00", 1}, {"-1-", 2}, {"\u0661", 0},
		{"/", 0}, {"/2", 0}, {"//", 0}, {"-/2", 1}, {"-/", 1}, {"-0/5", 1}, {"-0/", 1}, {"01/2", 1}, {"00/2", 1}, {"1 /2", 1}, {"x/2", 0}, {"1x/2", 1}, {"-1x/y", 2}, {"x/x", 0}, {"1.5/2", 1},
		{"1/", 2}, {"-1/", 3}, {"0/", 2}, {"10/", 3}, {"1/-2", 2}, {"-1/-2", 3}, {"1/-", 2}, {"1/-0", 2}, {"1/02", 2}, {"1/0", 2}, {"1/00", 2}, {"0/0", 2}, {"-12/0", 4}, {"1/+2", 2}, {"1/x", 2}, {"1/ 2", 2}, {"1//2", 2}, {"1/\xff", 2},
		{"1/2x", 3}, {"1/2/3", 3}, {"1/2/", 3}, {"1/2 ", 3}, {"1/2-", 3}, {"-1/2x", 4}, {"1/20x0", 4}, {"4/6x", 3}, {"3/1x", 3}, {"1/2\x00", 3}, {"10/3\u0661", 4},
	} {
		refused(t, x.text, api.ErrText, x.at)
	}
}

// P3.5: a text of the right form that is not in lowest terms is refused at its end.
func TestReadNotLowest(t *testing.T) {
	for _, text := range []string{"4/6", "-4/6", "3/1", "-3/1", "1/1", "0/5", "0/1", "6/6", "-6/6", "10/4", "4/10", "6/3", "3/6", "12/18", "-8589934592/4294967296", "4294967296/8589934592", "340282366920938463463374607431768211456/2", "123456789012345678901234567890/3"} {
		refused(t, text, api.ErrText, len(text))
	}
	for n := int64(-30); n <= 30; n++ {
		for d := int64(1); d <= 30; d++ {
			text := of(n).Text() + "/" + of(d).Text()
			want := rat(n, d)
			if want.Den().Cmp(of(d)) != 0 || d == 1 {
				refused(t, text, api.ErrText, len(text))
			} else if got, spot := ratio.Read(text); !same(got, want) || spot != (api.Spot{}) {
				t.Errorf("Read of %s: %s, %v", text, got.Text(), spot)
			}
		}
	}
}

// row is a digit, or another byte, n times.
func row(c string, n int) string { return strings.Repeat(c, n) }

// P3.5, R8
func TestReadLong(t *testing.T) {
	const most = api.MaxText
	for _, text := range []string{
		row("9", most), "-" + row("9", most-1), row("3", most-2) + "/2", "-1/" + row("7", most-3), row("1", most/2) + "/" + row("1", most/2-1), // both rows of 1 have 1 alone in common, for their lengths do
	} {
		got, spot := ratio.Read(text)
		if len(text) != most || spot != (api.Spot{}) || got.Text() != text {
			t.Errorf("Read at MaxText, of %.9q: %v, %d bytes", text, spot, len(got.Text()))
		}
		for _, more := range []string{text + "9", text + "x", "x" + text, "-" + text, "0" + text, "/" + text, text + "/"} {
			refused(t, more, api.ErrLong, most)
		}
	}
	refused(t, row("\xff", 2*most), api.ErrLong, most)
}

// P3.5, R8: at the limit it is what is wrong with the text itself that is told.
func TestReadLongWrong(t *testing.T) {
	const most = api.MaxText
	for _, x := range []struct {
		text string
		at   int
	}{
		{row("4", most-2) + "/2", most}, {row("2", most-2) + "/1", most}, {row("3", most/2) + "/" + row("3", most/2-1), most}, {row("1", most-1) + "/", most}, {row("1", most-1) + "x", most - 1}, {"1/" + row("2", most-3) + "x", most - 1}, {row("1", most-3) + "x/2", most - 3}, {row("/", most), 0}, {"1" + row("/", most-1), 2}, {"1/0" + row("1", most-3), 2}, {"0" + row("1", most-3) + "/2", 1}, {row("-", most), 1},
	} {
		if len(x.text) != most {
			t.Errorf("%.9q has %d bytes", x.text, len(x.text))
		}
		refused(t, x.text, api.ErrText, x.at)
	}
}

// P3.5, R1: Euclid's steps are most for neighbours of Fibonacci's row, which are in lowest terms.
func TestReadSlow(t *testing.T) {
	x, y := of(0), of(1)
	for range 40000 {
		x, y = y, x.Add(y)
	}
	text := y.Neg().Text() + "/" + x.Text()
	if got, spot := ratio.Read(text); spot != (api.Spot{}) || got.Text() != text {
		t.Errorf("%d bytes: %v", len(text), spot)
	}
	text = x.Times(3).Text() + "/" + y.Times(3).Text()
	refused(t, text, api.ErrText, len(text))
}

// P3.8
func TestTextAndBack(t *testing.T) {
	for _, x := range samples(100) {
		got, spot := ratio.Read(x.Text())
		if !same(got, x) || got.Cmp(x) != 0 || spot != (api.Spot{}) || got.Text() != x.Text() {
			t.Errorf("%s, read: %s, %v", x.Text(), got.Text(), spot)
		}
	}
}

// form is the place at which a text leaves the form of a fraction's text, byte by byte, or -1; told by the form alone, as another way to the same.
func form(text string) int {
	digits, nought, below := 0, false, false
	for i := range len(text) {
		c := text[i]
		switch {
		case c == '-' && i == 0:
		case c == '0' && digits == 0 && !below && i == 0:
			digits, nought = 1, true
		case c == '0' && digits == 0:
			return i
		case c >= '0' && c <= '9' && !nought:
			digits++
		case c == '/' && digits > 0 && !below:
			digits, nought, below = 0, false, true
		default:
			return i
		}
	}
	if digits == 0 {
		return len(text)
	}
	return -1
}

// P3.5, P3.8: every text of up to 6 bytes out of a few.
func TestReadEvery(t *testing.T) {
	texts := []string{""}
	for begin := 0; len(texts[begin]) < 6; begin++ {
		for _, c := range []string{"-", "0", "1", "2", "6", "/", "x"} {
			texts = append(texts, texts[begin]+c)
		}
	}
	for _, text := range texts {
		if at := form(text); at >= 0 {
			refused(t, text, api.ErrText, at)
			continue
		}
		n, d, parted := strings.Cut(text, "/")
		num, _ := integer.Read(n)
		den, _ := integer.Read(d)
		if parted && (num.Gcd(den).Cmp(of(1)) != 0 || d == "1") {
			refused(t, text, api.ErrText, len(text))
		} else if got, spot := ratio.Read(text); spot != (api.Spot{}) || got.Text() != text {
			t.Errorf("Read of %s: %s, %v", text, got.Text(), spot)
		}
	}
}
