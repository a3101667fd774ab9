package point_test

import (
	"math"
	"slices"
	"strings"
	"testing"

	"swage/api"
	"swage/point"
)

// P6.6
func TestText(t *testing.T) {
	for _, x := range []struct {
		l    []api.Point
		want string
	}{
		{nil, ""}, {[]api.Point{}, ""}, {[]api.Point{pt(0, 1)}, "0"}, {[]api.Point{pt(0, 0)}, "(0:0)"}, {[]api.Point{pt(2, 1), pt(1, 0), pt(1, 2), pt(2, 4), pt(-1, 0)}, "2 inf 1/2 (2:4) (-1:0)"}, {[]api.Point{pt(-3, 4), pt(3, -4), pt(-3, -4)}, "-3/4 (3:-4) (-3:-4)"}, {[]api.Point{pt(0, 2), pt(0, -1), pt(2, 0), pt(1, -1), pt(2, 2)}, "(0:2) (0:-1) (2:0) (1:-1) (2:2)"}, {[]api.Point{pt(16, 1), pt(-16, 1), pt(16, 15), pt(15, 16), pt(16, 16), pt(-16, -16)}, "16 -16 16/15 15/16 (16:16) (-16:-16)"},
		{[]api.Point{pt(17, 1), pt(-17, 1), pt(17, 2), pt(34, 4), pt(17, 0), pt(1, 17), pt(0, 17), pt(17, 17), pt(17, -1)}, "17 -17 17/2 (34:4) (17:0) 1/17 (0:17) (17:17) (17:-1)"},
		{[]api.Point{pt(math.MinInt, 1), pt(math.MaxInt, 1), pt(math.MinInt, 3), pt(math.MinInt, 2), pt(1, math.MaxInt)}, "-9223372036854775808 9223372036854775807 -9223372036854775808/3 (-9223372036854775808:2) 1/9223372036854775807"}, {[]api.Point{pt(math.MinInt, math.MinInt), pt(math.MinInt, 0), pt(1, math.MinInt), pt(math.MinInt, -1)}, "(-9223372036854775808:-9223372036854775808) (-9223372036854775808:0) (1:-9223372036854775808) (-9223372036854775808:-1)"},
	} {
		if got := point.Text(x.l); got != x.want {
			t.Errorf("Text(%v): %s", x.l, got)
		}
	}
	var texts []string
	all := append(every(), outside()...)
	for _, p := range all {
		texts = append(texts, told(p))
		if got := point.Text([]api.Point{p}); got != told(p) {
			t.Errorf("Text(%v): %s", p, got)
		}
	}
	if point.Text(all) != strings.Join(texts, " ") {
		t.Error("Text of many")
	}
}

// taken asks that a text is read, as these points.
func taken(t *testing.T, text string, want ...api.Point) {
	t.Helper()
	if got, spot := point.Read(text); !slices.Equal(got, want) || spot != (api.Spot{}) {
		t.Errorf("Read of %d bytes, %.40q: %d points, %v", len(text), text, len(got), spot)
	}
}

// refused asks that a text is refused at a place, and that no point is answered beside it.
func refused(t *testing.T, text string, e api.Errno, at int) {
	t.Helper()
	if got, spot := point.Read(text); len(got) != 0 || spot != (api.Spot{Err: e, At: at}) {
		t.Errorf("Read of %d bytes, %.40q: %d points, %v, not %v at %d", len(text), text, len(got), spot, e, at)
	}
}

// P6.6
func TestRead(t *testing.T) {
	taken(t, "")
	taken(t, "0", pt(0, 1))
	taken(t, "0 1/2 inf (2:2)", pt(0, 1), pt(1, 2), pt(1, 0), pt(2, 2))
	taken(t, "inf inf inf", pt(1, 0), pt(1, 0), pt(1, 0))
	taken(t, "-16 16 -1 1", pt(-16, 1), pt(16, 1), pt(-1, 1), pt(1, 1))
	taken(t, "-16/15 1/16 (16:-16) (-16:0) (0:0)", pt(-16, 15), pt(1, 16), pt(16, -16), pt(-16, 0), pt(0, 0))
	taken(t, "(1:-1) (-2:-3) (0:-1) (4:6)", pt(1, -1), pt(-2, -3), pt(0, -1), pt(4, 6))
}

// P6.6: texts of one piece that is no text of a point that is in, at each place of a list.
func TestReadWrong(t *testing.T) {
	for _, piece := range []string{
		"2/4", "1/1", "17", "-17", "(0:1)", "", "x", "-", "+1", "01", "00", "-0", "-01", "1x", "x1", "1.5", "1,2", "0x1", "1_0", "1e1", "١", "\xff", "\x00", "\t", "\n", "1\t", "1\n2", "--1", "1-", "99999999999999999999", "-99999999999999999999", "9223372036854775808", "18446744073709551616", "18446744073709551617",
		"/", "1/", "/1", "1/0", "0/1", "0/2", "1/-2", "-1/-2", "+1/2", "1/+2", "1/02", "01/2", "-0/2", "1//2", "1/2/3", "1/2/", "/1/2", "17/2", "1/17", "2/2", "4/2", "16/16", "-2/4", "1\u00a0/2", "1/18446744073709551618", "inf/2", "1/inf", "x/2", "1/x",
		"Inf", "INF", "infinity", "in", "i", "nf", "inf0", "-inf", "+inf", "(inf)", "(1:0)", "1/0", "inf:1", "nan",
		"()", "(", ")", ":", "(:)", "(1:)", "(:1)", "(2:4", "2:4)", "2:4", "((2:4))", "(2:4))", "((2:4)", "(2:4)x", "x(2:4)", "(2:4:6)", "(2::4)", "(2/4)", "(2)", "(2,4)", "(1:2)", "(-1:2)", "(16:15)", "(3:1)", "(-3:1)", "(+2:4)", "(2:+4)", "(02:4)", "(2:04)", "(-0:2)", "(0:-0)", "(2:4/1)", "(1/2:2)", "(17:0)", "(0:17)", "(-17:-17)", "(17:17)", "(34:4)", "(2:-17)", "(18446744073709551618:4)", "(x:2)", "(2:x)", "[2:4]", "(2:4)(2:4)", "2(2:4)", "(2:4)2", "(inf:0)",
	} {
		refusedPiece(t, piece)
	}
	refused(t, " ", api.ErrText, 0)
	refused(t, "  ", api.ErrText, 0)
	refused(t, " 1", api.ErrText, 0)
	refused(t, "1 ", api.ErrText, 2)
	refused(t, "1  2", api.ErrText, 2)
	refused(t, "1 2  ", api.ErrText, 4)
	refused(t, "( 2:4)", api.ErrText, 0)
	refused(t, "(2: 4)", api.ErrText, 0)
	refused(t, "1 (2:4 )", api.ErrText, 2)
	refused(t, "1 1 / 2", api.ErrText, 4)
	refused(t, "inf 1/2 (2:2) 2/2 x", api.ErrText, 14)
	refused(t, "0 1 17", api.ErrText, 4)
	refused(t, "0 1/1", api.ErrText, 2)
}

// refusedPiece asks that a piece is refused at its first byte, alone (where it is not the empty text), ahead of others, between them and behind them.
func refusedPiece(t *testing.T, piece string) {
	t.Helper()
	if piece != "" {
		refused(t, piece, api.ErrText, 0)
	}
	refused(t, piece+" 1", api.ErrText, 0)
	refused(t, piece+" x", api.ErrText, 0)
	refused(t, "inf "+piece, api.ErrText, 4)
	refused(t, "-1/2 (2:2) "+piece+" 0 17", api.ErrText, 11)
}

// P6.6, R8
func TestReadLong(t *testing.T) {
	const long = api.MaxText
	whole := strings.Repeat("1 ", long/2-1) + "16"
	wide := strings.Repeat("(-16:-16) ", long/10) + "inf 16"
	for _, text := range []string{whole, wide} {
		if len(text) != long {
			t.Errorf("%.20q has %d bytes", text, len(text))
		}
		if l, spot := point.Read(text); spot != (api.Spot{}) || len(l) != strings.Count(text, " ")+1 || point.Text(l) != text {
			t.Errorf("Read of %.20q: %d points, %v", text, len(l), spot)
		}
		for _, more := range []string{text + " ", text + "x", text + " 1", " " + text, "x" + text, text + " " + text} {
			refused(t, more, api.ErrLong, long)
		}
		refused(t, text[:long-1]+"7", api.ErrText, long-2)
		refused(t, text[:long-1]+" ", api.ErrText, long)
		refused(t, text[:long-2]+"  ", api.ErrText, long-2)
		refused(t, "x"+text[1:], api.ErrText, 0)
	}
	for _, one := range []string{"1", "0", " ", "(", "-", "/", "\xff"} {
		refused(t, strings.Repeat(one, long), api.ErrText, 0)
		refused(t, strings.Repeat(one, long+1), api.ErrLong, long)
		refused(t, strings.Repeat(one, 2*long), api.ErrLong, long)
	}
}

// known are the texts of all points that are in, by no call of the package.
func known() map[string]api.Point {
	m := map[string]api.Point{}
	for _, p := range every() {
		m[told(p)] = p
	}
	return m
}

// P6.6, P6.8: every text of up to n bytes out of a few, held against the texts of all points that are in.
func TestReadEvery(t *testing.T) {
	points := known()
	for letters, n := range map[string]int{"012/- ": 6, "inf 1": 7, "(:)-1": 7, "17": 4} {
		texts := []string{""}
		for begin := 0; len(texts[begin]) < n; begin++ {
			for _, c := range letters {
				texts = append(texts, texts[begin]+string(c))
			}
		}
		for _, text := range texts[1:] {
			heldAgainst(t, text, points)
		}
	}
}

// heldAgainst asks of a text what the points' texts say of its pieces.
func heldAgainst(t *testing.T, text string, points map[string]api.Point) {
	t.Helper()
	var want []api.Point
	at := 0
	for _, piece := range strings.Split(text, " ") {
		p, ok := points[piece]
		if !ok {
			refused(t, text, api.ErrText, at)
			return
		}
		want = append(want, p)
		at += len(piece) + 1
	}
	taken(t, text, want...)
}

// P6.6: each point's text with a byte left out, or changed, or one more, is another point's or none's.
func TestReadNearly(t *testing.T) {
	points := known()
	for text := range points {
		heldAgainst(t, text, points)
		for i := range len(text) {
			heldAgainst(t, "0 "+text[:i]+text[i+1:], points)
			for _, c := range "01-/:() if" {
				heldAgainst(t, "0 "+text[:i]+string(c)+text[i+1:], points)
				heldAgainst(t, "0 "+text[:i]+string(c)+text[i:], points)
			}
		}
	}
	for _, p := range outside() {
		refused(t, told(p), api.ErrText, 0)
		refused(t, "1 "+told(p)+" 1", api.ErrText, 2)
	}
}

// P6.6, R1: whatever bytes a text has.
func TestReadAnyBytes(t *testing.T) {
	points := known()
	for c := range 256 {
		b := string([]byte{byte(c)})
		for _, text := range []string{b, "1" + b, b + "1", "0 " + b, "1" + b + "2", "(2" + b + "4)", "(2:4" + b, b + "2:4)", "(2:" + b + "4)", "inf" + b, "inf" + b + "0", "1/" + b} {
			heldAgainst(t, text, points)
		}
	}
}
