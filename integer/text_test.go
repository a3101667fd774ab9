package integer_test

import (
	"math/big"
	"strings"
	"testing"

	"swage/api"
	"swage/integer"
)

// P2.7
func TestText(t *testing.T) {
	if got := integer.Make(true, []uint32{0, 1, 0}).Text(); got != "-4294967296" {
		t.Errorf("Text: %s", got)
	}
	for _, x := range samples(60) {
		if got := x.Text(); got != value(x).String() {
			t.Errorf("Text of %v: %s", value(x), got)
		}
	}
}

// P2.7
func TestRead(t *testing.T) {
	for _, text := range []string{
		"0", "1", "-1", "9", "-9", "10", "-10", "4294967296", "-4294967296", "9223372036854775807", "-9223372036854775808", "9223372036854775808", "-18446744073709551616", "-340282366920938463463374607431768211456", "-1000000000000000000000000000000",
	} {
		v, _ := new(big.Int).SetString(text, 10)
		if got, spot := integer.Read(text); !says(got, v) || spot != (api.Spot{}) {
			t.Errorf("Read of %s: %v, %v", text, value(got), spot)
		}
	}
}

// P2.7
func TestReadWrong(t *testing.T) {
	long := strings.Repeat("1", 100)
	for _, x := range []struct {
		text string
		at   int
	}{
		{"", 0}, {"-", 1}, {"-0", 1}, {"01", 1}, {"00", 1}, {"1x", 1}, {"-00", 1}, {"-01", 1}, {"-0x", 1}, {"--1", 1}, {"--", 1}, {"-x", 1}, {"- 1", 1}, {"-1-", 2}, {"-1x", 2}, {"1-", 1}, {"0-", 1}, {"0x1", 1}, {"+1", 0}, {"-+1", 1}, {" 1", 0}, {" -1", 0}, {"1 ", 1}, {"x", 0}, {"/", 0}, {":", 0}, {"-/", 1}, {"-:", 1}, {"1/2", 1}, {"1\x00", 1}, {"\xff", 0}, {"-\xff", 1}, {"\u2212" + "1", 0}, {"-\u0661", 1}, {"10x01", 2}, {"-10x01", 3}, {"-" + long + "e", 101},
		{strings.Repeat("1", api.MaxText-1) + "x", api.MaxText - 1}, {"-" + strings.Repeat("1", api.MaxText-2) + "x", api.MaxText - 1}, {"0" + strings.Repeat("1", api.MaxText-1), 1}, {"-0" + strings.Repeat("1", api.MaxText-2), 1}, {strings.Repeat("-", api.MaxText), 1},
	} {
		if got, spot := integer.Read(x.text); !zero(got) || spot != (api.Spot{Err: api.ErrText, At: x.at}) {
			t.Errorf("Read of %d bytes, %.9q: %v, %v", len(x.text), x.text, value(got), spot)
		}
	}
}

// P2.7, R8
func TestReadLong(t *testing.T) {
	for _, sign := range []string{"", "-"} {
		text := sign + strings.Repeat("9", api.MaxText-len(sign))
		v, _ := new(big.Int).SetString(text, 10)
		got, spot := integer.Read(text)
		if !says(got, v) || spot != (api.Spot{}) || got.Text() != text {
			t.Errorf("Read at MaxText: %d bits, %v", got.Bits(), spot)
		}
		for _, text := range []string{text + "9", text + "x", "x" + text, "-" + text, "0" + text, "-0" + text, strings.Repeat("\xff", 2*api.MaxText)} {
			if got, spot := integer.Read(text); !zero(got) || spot != (api.Spot{Err: api.ErrLong, At: api.MaxText}) {
				t.Errorf("Read of %d bytes: %d bits, %v", len(text), got.Bits(), spot)
			}
		}
	}
}
