package row_test

import (
	"regexp"
	"strings"
	"testing"

	"swage/api"
	"swage/integer"
	"swage/row"
)

// P4.5
func TestText(t *testing.T) {
	for _, x := range []struct {
		a    []integer.Int
		want string
	}{
		{nil, "[]"}, {[]integer.Int{}, "[]"}, {row.Of(0), "[0]"}, {row.Of(0, 0), "[0 0]"}, {[]integer.Int{{}, integer.Make(true, nil)}, "[0 0]"}, {row.Of(1, -2, 30), "[1 -2 30]"}, {row.Of(-1), "[-1]"}, {row.Of(1<<32, -1<<62), "[4294967296 -4611686018427387904]"}, {[]integer.Int{integer.Make(true, []uint32{0, 0, 1}), of(7)}, "[-18446744073709551616 7]"},
	} {
		if got := row.Text(x.a); got != x.want {
			t.Errorf("%s: %s", x.want, got)
		}
	}
	for _, a := range rows(60) {
		if got := row.Text(a); got != show(a) {
			t.Errorf("Text of %s: %s", show(a), got)
		}
	}
	if got := row.Text(make([]integer.Int, 2*api.MaxCoeffs)); got != "["+times("0 ", 2*api.MaxCoeffs-1)+"0]" {
		t.Errorf("Text of many noughts: %d bytes", len(got))
	}
}

// times is a text n times.
func times(text string, n int) string { return strings.Repeat(text, n) }

// taken asks that a text is read, as a row of n numbers with that Text.
func taken(t *testing.T, text string, n int) {
	t.Helper()
	if got, spot := row.Read(text); spot != (api.Spot{}) || len(got) != n || show(got) != text {
		t.Errorf("Read of %d bytes, %.20q: %d numbers, %v", len(text), text, len(got), spot)
	}
}

// refused asks that a text is refused at a place, and that no row is answered beside it.
func refused(t *testing.T, text string, e api.Errno, at int) {
	t.Helper()
	if got, spot := row.Read(text); len(got) != 0 || spot != (api.Spot{Err: e, At: at}) {
		t.Errorf("Read of %d bytes, %.20q: %d numbers, %v", len(text), text, len(got), spot)
	}
}

// P4.5
func TestRead(t *testing.T) {
	for text, n := range map[string]int{
		"[]": 0, "[0]": 1, "[5]": 1, "[-5]": 1, "[10]": 1, "[0 0]": 2, "[1 2]": 2, "[-1 -2]": 2, "[0 -1 0]": 3, "[100 -200 300 0]": 4, "[4294967296 -18446744073709551616]": 2, "[-340282366920938463463374607431768211455]": 1, "[9 99 999 9999 99999 -999999]": 6,
	} {
		taken(t, text, n)
	}
}

// P4.5
func TestReadWrong(t *testing.T) {
	for _, x := range []struct {
		text string
		at   int
	}{
		{"[1  2]", 3}, {"[ 1]", 1}, {"[1 2", 4}, {"[1]x", 3}, {"", 0}, {"x", 0}, {"]", 0}, {" ", 0}, {"1", 0}, {"1 2", 0}, {"(1)", 0}, {" [1]", 0}, {"\xff", 0}, {"\x00[]", 0},
		{"[", 1}, {"[ ", 1}, {"[ ]", 1}, {"[[", 1}, {"[[1]]", 1}, {"[x]", 1}, {"[x", 1}, {"[+1]", 1}, {"[,]", 1}, {"[\xff]", 1}, {"[]]", 2}, {"[] ", 2}, {"[]x", 2}, {"[][]", 2}, {"[]1", 2}, {"[]\x00", 2}, {"[] x]", 2},
		{"[-", 2}, {"[-]", 2}, {"[- 1]", 2}, {"[-0]", 2}, {"[--1]", 2}, {"[-x", 2}, {"[01]", 2}, {"[00]", 2}, {"[0x]", 2}, {"[1", 2}, {"[0", 2}, {"[-1", 3}, {"[-01]", 2}, {"[1-]", 2}, {"[1-2]", 2}, {"[1,2]", 2}, {"[1.5]", 2}, {"[1/2]", 2}, {"[1\t2]", 2}, {"[1\n]", 2}, {"[1[", 2}, {"[1\u0661]", 2},
		{"[1 ", 3}, {"[1 ]", 3}, {"[1 x]", 3}, {"[1 +2]", 3}, {"[1 -", 4}, {"[1 -]", 4}, {"[1 - 2]", 4}, {"[1 -0]", 4}, {"[1 02]", 4}, {"[1 2x]", 4}, {"[1 2 ", 5}, {"[1 2 ]", 5}, {"[1 2  3]", 5}, {"[1 2]]", 5}, {"[1 2] ", 5}, {"[1 2][3]", 5}, {"[12 345", 7}, {"[12 345]6", 8}, {"[12 -345]\xff", 9}, {"[x] ", 1}, {"[1x]x", 2}, {"[1  2]x", 3}, {"[1 2 3 4 5 6 7 x", 15},
	} {
		refused(t, x.text, api.ErrText, x.at)
	}
}

// P4.5, R8
func TestReadLong(t *testing.T) {
	const most = api.MaxText
	fifteen := times("987654321012345 ", api.MaxCoeffs-1)
	for _, x := range []struct {
		text string
		n    int
	}{
		{"[" + times("9", most-2) + "]", 1}, {"[-" + times("9", most-3) + "]", 1}, {"[" + times("7", most/2) + " -" + times("8", most/2-4) + "]", 2}, {"[" + fifteen + "-1234567890123]", api.MaxCoeffs},
	} {
		if len(x.text) != most {
			t.Errorf("%.20q has %d bytes", x.text, len(x.text))
		}
		taken(t, x.text, x.n)
		for _, more := range []string{x.text + "]", x.text + "x", " " + x.text, "[" + x.text, x.text + x.text, x.text[:most-1] + "1]", x.text[:most-1] + "11"} {
			refused(t, more, api.ErrLong, most)
		}
		refused(t, x.text[:most-1]+"1", api.ErrText, most)
		refused(t, x.text[:most-1]+"x", api.ErrText, most-1)
		refused(t, x.text[:most-2]+"]x", api.ErrText, most-1)
	}
	refused(t, times("\xff", 2*most), api.ErrLong, most)
	refused(t, "["+times("1 ", most), api.ErrLong, most)
}

// P4.5: MaxCoeffs numbers, and more.
func TestReadMany(t *testing.T) {
	const most = api.MaxCoeffs
	for _, x := range []string{"0", "1", "-1", "12", "-123", "1234567"} {
		full := "[" + times(x+" ", most-1) + x
		at := len(full) + 1
		taken(t, full+"]", most)
		taken(t, "["+times(x+" ", most-2)+x+"]", most-1)
		for _, more := range []string{" 0]", " -5]", " 123]", " 1 2]", " 1 2 3 -4]", times(" 7", most) + "]"} {
			refused(t, full+more, api.ErrLong, at)
		}
	}
	text := "[10" + times(" 1", api.MaxText/2-2) + "]" // as many as a text has room for
	if len(text) != api.MaxText {
		t.Errorf("%d bytes", len(text))
	}
	refused(t, text, api.ErrLong, 2+2*most)
	refused(t, text+" ", api.ErrLong, api.MaxText)
}

// P4.5, R2: ErrText is named ahead of too many numbers, wherever it stands.
func TestReadManyWrong(t *testing.T) {
	full := "[" + times("1 ", api.MaxCoeffs-1) + "1"
	for _, x := range []struct {
		more string
		at   int
	}{
		{"", 0}, {" ", 1}, {" ]", 1}, {"x]", 0}, {" x]", 1}, {" 1", 2}, {" -", 2}, {" -]", 2}, {" 01]", 2}, {" 1x", 2}, {" 1 ", 3}, {" 1 ]", 3}, {" 1 x]", 3}, {" 1  1]", 3}, {" 1]x", 3}, {" 1]]", 3}, {" 1 1 1 1 -0]", 10}, {"]x", 1}, {"] 1]", 1},
	} {
		refused(t, full+x.more, api.ErrText, len(full)+x.at)
	}
	refused(t, "[x"+full[1:]+" 1]", api.ErrText, 1)
	refused(t, full[1:]+" 1]", api.ErrText, 0)
}

// P4.5, P4.6: every text of up to 7 bytes out of a few, held against the form, told another way.
func TestReadEvery(t *testing.T) {
	const n = `(?:0|-?[1-9][0-9]*)`
	whole := regexp.MustCompile(`^\[(?:` + n + `(?: ` + n + `)*)?\]$`)
	begun := regexp.MustCompile(`^(?:\[(?:` + n + ` )*(?:-|` + n + `)?)?$`)
	texts := []string{""}
	for begin := 0; len(texts[begin]) < 7; begin++ {
		for _, c := range []string{"[", "]", " ", "-", "0", "1"} {
			texts = append(texts, texts[begin]+c)
		}
	}
	for _, text := range texts {
		if whole.MatchString(text) {
			taken(t, text, len(strings.Fields(strings.Trim(text, "[]"))))
			continue
		}
		at := len(text)
		for !begun.MatchString(text[:at]) && !whole.MatchString(text[:at]) {
			at--
		}
		refused(t, text, api.ErrText, at)
	}
}

// P4.6
func TestTextAndBack(t *testing.T) {
	for _, a := range rows(100) {
		if got, spot := row.Read(row.Text(a)); !says(got, values(a)) || spot != (api.Spot{}) || !row.Same(got, a) {
			t.Errorf("%s, read: %s, %v", show(a), show(got), spot)
		}
	}
}

// P4.5, R1: whatever bytes a text has.
func TestReadAnyBytes(t *testing.T) {
	for c := range 256 {
		b := string([]byte{byte(c)})
		digit := c >= '0' && c <= '9'
		if c != '[' {
			refused(t, b, api.ErrText, 0)
		}
		if !digit && c != ' ' && c != ']' {
			refused(t, "[1"+b+"]", api.ErrText, 2)
			refused(t, "[0"+b+"2]", api.ErrText, 2)
		}
		if !digit && c != '-' {
			refused(t, "[1 "+b+"]", api.ErrText, 3)
		}
		refused(t, "[1 2]"+b, api.ErrText, 5)
	}
}
