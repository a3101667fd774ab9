package scheme_test

import (
	"regexp"
	"strconv"
	"strings"
	"testing"

	"swage/api"
	"swage/scheme"
)

// name is a point's text, by no call of the program.
func name(p api.Point) string {
	a, b := strconv.Itoa(p.A), strconv.Itoa(p.B)
	switch {
	case p.B == 1:
		return a
	case p.B == 0 && p.A == 1:
		return "inf"
	case p.B > 1 && normal(p) == a+"/"+b:
		return a + "/" + b
	}
	return "(" + a + ":" + b + ")"
}

// written is a scheme's text, by no call of the program.
func written(k1, k2 int, l []api.Point) string {
	var names []string
	for _, p := range l {
		names = append(names, name(p))
	}
	return strconv.Itoa(k1) + " " + strconv.Itoa(k2) + ": " + strings.Join(names, " ")
}

// known are the texts of all points that are in.
func known() map[string]api.Point {
	m := map[string]api.Point{}
	for a := -most; a <= most; a++ {
		for b := -most; b <= most; b++ {
			m[name(pt(a, b))] = pt(a, b)
		}
	}
	return m
}

// taken asks that a text is read, as the scheme of these, and told again.
func taken(t *testing.T, text string, k1, k2 int, l ...api.Point) {
	t.Helper()
	s, spot := scheme.Read(text)
	if s == nil || spot != (api.Spot{}) {
		t.Errorf("Read of %q: %v", text, spot)
		return
	}
	if holds(t, s, k1, k2, l); s.Text() != text || !s.Same(made(t, k1, k2, l)) {
		t.Errorf("Read of %q: %q", text, s.Text())
	}
}

// refused asks that a text is refused at a place, and that no scheme is answered beside it.
func refused(t *testing.T, text string, e api.Errno, at int) {
	t.Helper()
	if s, spot := scheme.Read(text); s != nil || spot != (api.Spot{Err: e, At: at}) {
		t.Errorf("Read of %d bytes, %.60q: %v, not %v at %d", len(text), text, spot, e, at)
	}
}

// P7.5
func TestText(t *testing.T) {
	for _, x := range []struct {
		k1, k2 int
		l      []api.Point
		want   string
	}{
		{2, 2, pts(0, 1, 1, 1, 1, 0), "2 2: 0 1 inf"}, {3, 2, pts(0, 1, 1, 1, -1, 1, 1, 2), "3 2: 0 1 -1 1/2"}, {1, 1, pts(2, 4), "1 1: (2:4)"}, {1, 2, pts(-1, 0, 3, -6), "1 2: (-1:0) (3:-6)"}, {2, 1, pts(-16, 15, 0, -16), "2 1: -16/15 (0:-16)"}, {8, 1, whole(8), "8 1: 0 1 2 3 4 5 6 7"}, {1, 8, whole(8), "1 8: 0 1 2 3 4 5 6 7"},
	} {
		if got := made(t, x.k1, x.k2, x.l).Text(); got != x.want {
			t.Errorf("Text of %d, %d, %v: %q", x.k1, x.k2, x.l, got)
		}
		taken(t, x.want, x.k1, x.k2, x.l...)
	}
}

// P7.5, P7.9: of all split counts, told and read again.
func TestTextAndBack(t *testing.T) {
	for _, x := range some(t, 9, parts) {
		text := x.s.Text()
		if text != written(x.k1, x.k2, x.l) {
			t.Errorf("Text of %d, %d, %v: %q", x.k1, x.k2, x.l, text)
		}
		taken(t, text, x.k1, x.k2, x.l...)
		if s, spot := scheme.Read(text); !s.Same(x.s) || !x.s.Same(s) || spot != (api.Spot{}) {
			t.Errorf("Read of %q: %v", text, spot)
		}
	}
}

// P7.5: what stands ahead of the points is not two numbers, and no colon with a blank behind it.
func TestReadCounts(t *testing.T) {
	for _, text := range []string{
		"", " ", ":", ": ", " : ", "1", "1 1", "1 1 0", "1 1:", "2 2:0 1 inf", "1 1:0", "1 1:\t0", "1 1:\n0", "1 1 : 0", " 1 1: 0", "1  1: 0", "1 1  : 0", "1: 0", "1 : 0", " 1: 0", "1 1 1: 0", "1 1; 0", "1,1: 0", "1\t1: 0", "11: 0", "1 1:: 0", "1:1: 0", "1 1:0: 0", ": 1 1: 0", "1: 1: 0", "1 : 1: 0", "(1 1): 0",
		"02 2: 0", "2 02: 0", "00 1: 0", "1 00: 0", "01 01: 0", "000000001 1: 0", "0000000001 1: 0", "+1 1: 0", "1 +1: 0", "-1 1: 0", "1 -1: 0", "-0 1: 0", "1 -0: 0", "- 1: 0", "1 -: 0", "x 1: 0", "1 x: 0", "1x 1: 0", "1 1x: 0", "0x1 1: 0", "1_0 1: 0", "1e0 1: 0", "1.0 1: 0", "1/1 1: 0", "inf 1: 0", "١ 1: 0", "\xff 1: 0", "1\x00 1: 0", "1 1\r: 0", "one one: 0",
		"1000000000 1: 0", "1 1000000000: 0", "1000000001 1: 0", "4294967297 1: 0", "1 4294967297: 0", "9999999999 1: 0", "18446744073709551617 1: 0", "1 18446744073709551617: 0", "9223372036854775808 1: 0", "99999999999999999999 1: 0", "1 " + strings.Repeat("9", 1000) + ": 0", strings.Repeat("0", 1000) + "1 1: 0",
	} {
		refused(t, text, api.ErrText, 0)
		refused(t, text+"x", api.ErrText, 0)
	}
	for _, text := range []string{"0 1: 0", "1 0: 0", "0 0: ", "9 1: 0", "1 9: 0", "9 9: 0", "10 1: 0", "999999999 1: 0", "1 999999999: 0", "999999999 999999999: ", "100000000 1: 0", "0 2: 0 0", "9 1: (0:0)"} {
		refused(t, text, api.ErrLimit, 0)
	}
}

// P7.5: the points are bad, or none.
func TestReadBadPoints(t *testing.T) {
	for _, text := range []string{"1 1: ", "2 2: ", "2 2: 0 1", "2 2: 0 1 2 3", "2 2: 0 1 (2:2)", "1 1: (0:0)", "2 1: (0:0) 1", "2 1: 1 (2:2)", "2 1: inf (-3:0)", "2 1: 1/2 (2:4)", "1 2: 3 3", "8 8: 0 1 2 3 4 5 6 7 8 9 10 11 12 13", "8 8: 0 1 2 3 4 5 6 7 8 9 10 11 12 13 14 15", "1 1: 0 0 0 0 0 0 0 0 0 0 0 0 0 0 0 0 0 0"} {
		refused(t, text, api.ErrBadPoints, 0)
	}
	taken(t, "8 8: 0 1 2 3 4 5 6 7 8 9 10 11 12 13 14", 8, 8, whole(15)...)
}

// P7.5: what is no point that is in, at the beginning, in the middle and at the end of the points, with the place in the whole text, ahead of what New says.
func TestReadWrongPieces(t *testing.T) {
	for _, piece := range []string{"x", "17", "-17", "2/2", "1/1", "0/1", "(0:1)", "(1:0)", "(17:17)", "1/17", "01", "-0", "+1", "(2:4", "2:4", "inf:", "\xff", "\x00", "\t", "1,", "Inf", ":"} {
		for _, counts := range []string{"2 2: ", "1 1: ", "0 0: ", "9 1: ", "999999999 8: ", "100000000 999999999: "} {
			refused(t, counts+piece, api.ErrText, len(counts))
			refused(t, counts+piece+" 0 1", api.ErrText, len(counts))
			refused(t, counts+"0 "+piece+" 1", api.ErrText, len(counts)+2)
			refused(t, counts+"-1/2 (2:2) "+piece, api.ErrText, len(counts)+11)
			refused(t, counts+"0 0 "+piece+" x", api.ErrText, len(counts)+4)
		}
	}
	refused(t, "2 2: 0 1 x", api.ErrText, 9)
	refused(t, "2 2: 0 1 inf ", api.ErrText, 13)
	refused(t, "2 2:  0 1 inf", api.ErrText, 5)
	refused(t, "2 2: 0  1 inf", api.ErrText, 7)
	refused(t, "2 2: 0 1 : inf", api.ErrText, 9)
	refused(t, "2 2: 2 2: 0 1 inf", api.ErrText, 7)
	refused(t, "1 1:  ", api.ErrText, 5)
	refused(t, "1 1: : ", api.ErrText, 5)
}

// P7.5, R8: texts of MaxText bytes, and of one more.
func TestReadLong(t *testing.T) {
	const long = 1 << 16
	for _, x := range []struct {
		text string
		e    api.Errno
		at   int
	}{
		{"1 1: " + strings.Repeat("0 ", long/2-3) + "1", api.ErrBadPoints, 0},
		{"9 1: " + strings.Repeat("0 ", long/2-3) + "1", api.ErrLimit, 0},
		{"1 1: " + strings.Repeat("0 ", long/2-3) + "x", api.ErrText, long - 1},
		{"10 1: " + strings.Repeat("0 ", long/2-3), api.ErrText, long},
		{"1 1: x" + strings.Repeat(" 0", long/2-3), api.ErrText, 5},
		{strings.Repeat("1", long), api.ErrText, 0},
		{strings.Repeat(": ", long/2), api.ErrText, 0},
		{strings.Repeat("\xff", long), api.ErrText, 0},
		{strings.Repeat("1", long-6) + " 1: 0x", api.ErrText, 0},
	} {
		if len(x.text) != long {
			t.Errorf("%.20q has %d bytes", x.text, len(x.text))
		}
		refused(t, x.text, x.e, x.at)
		for _, more := range []string{x.text + "x", x.text + " ", x.text + "0", x.text + ": ", "1" + x.text, x.text + x.text} {
			refused(t, more, api.ErrLong, long)
		}
	}
	refused(t, "2 2: 0 1 inf"+strings.Repeat(" ", long), api.ErrLong, long)
}

// form is how a text must begin.
var form = regexp.MustCompile(`(?s)^(0|[1-9][0-9]{0,8}) (0|[1-9][0-9]{0,8}): `)

// heldAgainst asks of a text what the chapter's words say of it.
func heldAgainst(t *testing.T, text string, points map[string]api.Point) {
	t.Helper()
	counts := form.FindStringSubmatch(text)
	if counts == nil {
		refused(t, text, api.ErrText, 0)
		return
	}
	var l []api.Point
	at := len(counts[0])
	if at < len(text) {
		for _, piece := range strings.Split(text[at:], " ") {
			p, ok := points[piece]
			if !ok {
				refused(t, text, api.ErrText, at)
				return
			}
			l = append(l, p)
			at += len(piece) + 1
		}
	}
	k1, _ := strconv.Atoi(counts[1])
	k2, _ := strconv.Atoi(counts[2])
	if e := verdict(k1, k2, l); e != api.OK {
		refused(t, text, e, 0)
		return
	}
	taken(t, text, k1, k2, l...)
}

// P7.5, P7.9: every text of up to seven bytes out of a few.
func TestReadEvery(t *testing.T) {
	points := known()
	for _, letters := range []string{"1 :0", "12 :", "19 :x"} {
		texts := []string{""}
		for begin := 0; len(texts[begin]) < 7; begin++ {
			for _, c := range letters {
				texts = append(texts, texts[begin]+string(c))
			}
		}
		for _, text := range texts {
			heldAgainst(t, text, points)
		}
	}
}

// P7.5, P7.9: a scheme's text with a byte left out, changed, or one more.
func TestReadNearly(t *testing.T) {
	points := known()
	for _, text := range []string{"2 2: 0 1 inf", "1 1: (2:4)", "3 2: 0 1 -1 1/2", "1 2: -16/15 (-3:-6)", "8 8: 0 1 -1 2 -2 3 -3 4 -4 5 -5 6 -6 1/2 inf", "999999999 12345678: 1"} {
		heldAgainst(t, text, points)
		for i := range len(text) {
			heldAgainst(t, text[:i], points)
			heldAgainst(t, text[i:], points)
			heldAgainst(t, text[:i]+text[i+1:], points)
			for c := range 256 {
				b := string([]byte{byte(c)})
				heldAgainst(t, text[:i]+b+text[i+1:], points)
				heldAgainst(t, text[:i]+b+text[i:], points)
				heldAgainst(t, text+b, points)
			}
		}
	}
}
