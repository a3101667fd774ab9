package matrix_test

import (
	"regexp"
	"strings"
	"testing"

	"swage/api"
	"swage/integer"
	"swage/matrix"
)

// P5.6
func TestText(t *testing.T) {
	for _, m := range append(some(t, 6), matrix.Matrix{}) {
		if got := m.Text(); got != show(m) {
			t.Errorf("Text of %s: %s", show(m), got)
		}
	}
	var none matrix.Matrix
	for want, m := range map[string]matrix.Matrix{
		"[]": none, "[[0]]": made(t, []integer.Int{integer.Make(true, nil)}), "[[1 2] [3 4]]": small(t, []int64{1, 2}, []int64{3, 4}), "[[-1] [0] [-18446744073709551616]]": made(t, list(-1), list(0), []integer.Int{integer.Make(true, []uint32{0, 0, 1})}), "[[5 -5 0]]": small(t, []int64{5, -5, 0}),
	} {
		if got := m.Text(); got != want {
			t.Errorf("%s: %s", want, got)
		}
	}
}

// times is a text n times, with a blank between two.
func times(text string, n int) string {
	return strings.TrimSuffix(strings.Repeat(text+" ", n), " ")
}

// taken asks that a text is read, as a matrix of so many rows and columns with that Text.
func taken(t *testing.T, text string, rows, cols int) {
	t.Helper()
	if got, spot := matrix.Read(text); spot != (api.Spot{}) || got.Rows() != rows || got.Cols() != cols || show(got) != text || got.Text() != text {
		t.Errorf("Read of %d bytes, %.40q: %d rows, %d columns, %v", len(text), text, got.Rows(), got.Cols(), spot)
	}
}

// refused asks that a text is refused at a place, and that no matrix is answered beside it.
func refused(t *testing.T, text string, e api.Errno, at int) {
	t.Helper()
	if got, spot := matrix.Read(text); got.Rows() != 0 || got.Cols() != 0 || spot != (api.Spot{Err: e, At: at}) {
		t.Errorf("Read of %d bytes, %.40q: %d rows, %v, not %v at %d", len(text), text, got.Rows(), spot, e, at)
	}
}

// P5.6, P5.10
func TestRead(t *testing.T) {
	for text, shape := range map[string][2]int{
		"[[0]]": {1, 1}, "[[-5]]": {1, 1}, "[[1 2] [3 4]]": {2, 2}, "[[1] [2] [3]]": {3, 1}, "[[1 -2 30]]": {1, 3}, "[[0 0] [0 0]]": {2, 2}, "[[4294967296 -18446744073709551616] [0 -1] [10 100]]": {3, 2}, "[[-12345678901234567890 0] [7 -1]]": {2, 2},
	} {
		taken(t, text, shape[0], shape[1])
	}
	for rows := 1; rows <= 16; rows++ {
		for cols := 1; cols <= 16; cols++ {
			taken(t, "["+times("["+times("-7", cols)+"]", rows)+"]", rows, cols)
		}
	}
}

// P5.6
func TestReadWrong(t *testing.T) {
	for _, x := range []struct {
		text string
		at   int
	}{
		{"", 0}, {"x", 0}, {"]", 0}, {" ", 0}, {"1", 0}, {" [[1]]", 0}, {"\xff", 0}, {"\x00", 0}, {"[", 1}, {"[]", 1}, {"[] ", 1}, {"[]]", 1}, {"[ ", 1}, {"[ [1]]", 1}, {"[1]", 1}, {"[x", 1}, {"[-", 1}, {"[\xff[1]]", 1}, {"[[", 2}, {"[[]", 2}, {"[[]]", 2}, {"[[ ", 2}, {"[[ 1]]", 2}, {"[[[1]]]", 2}, {"[[x]]", 2}, {"[[+1]]", 2}, {"[[] [1]]", 2}, {"[[,]]", 2},
		{"[[1", 3}, {"[[-", 3}, {"[[-]]", 3}, {"[[-0]]", 3}, {"[[--1]]", 3}, {"[[- 1]]", 3}, {"[[0", 3}, {"[[00]]", 3}, {"[[01]]", 3}, {"[[1x]]", 3}, {"[[1-2]]", 3}, {"[[1,2]]", 3}, {"[[1.5]]", 3}, {"[[1[", 3}, {"[[1\t2]]", 3}, {"[[1\n]]", 3}, {"[[-1", 4}, {"[[-1-]]", 4}, {"[[1 ", 4}, {"[[1 ]]", 4}, {"[[1  2]]", 4}, {"[[1 x]]", 4}, {"[[1 [2]]", 4}, {"[[1 -]]", 5}, {"[[1 -0]]", 5}, {"[[1 02]]", 5},
		{"[[1]", 4}, {"[[1]x", 4}, {"[[1],[2]]", 4}, {"[[1][2]]", 4}, {"[[1][", 4}, {"[[1]1]", 4}, {"[[1] ", 5}, {"[[1] ]", 5}, {"[[1] x", 5}, {"[[1]  [2]]", 5}, {"[[1] 2]", 5}, {"[[1] -", 5}, {"[[1]]x", 5}, {"[[1]]]", 5}, {"[[1]] ", 5}, {"[[1]][[2]]", 5}, {"[[1]]\x00", 5}, {"[[1] [", 6}, {"[[1] []", 6}, {"[[1] []]", 6}, {"[[1] [ 2]]", 6}, {"[[1] [[2]]]", 6}, {"[[1] [2", 7}, {"[[1] [2]", 8}, {"[[1] [2]x", 8}, {"[[1] [2]]]", 9},
		{"[[1 2][3 4]]", 6}, {"[[1 2] [3] x", 11}, {"[[1 2] [3]", 10}, {"[[1 2] [3]]]", 11}, {"[[1 2] [3] []]", 12}, {"[[1] [2 3] [x]]", 12}, {"[[1] [2 3] [4]", 14}, {"[[1 2] [3 -]]", 11},
	} {
		refused(t, x.text, api.ErrText, x.at)
	}
}

// P5.6: rows that are not as long as each other, if nothing else is wrong.
func TestReadUnlike(t *testing.T) {
	for _, x := range []struct {
		text string
		at   int
	}{
		{"[[1 2] [3]]", 7}, {"[[1] [2 3]]", 5}, {"[[1] [2] [3 4]]", 9}, {"[[1 2] [3 4] [5]]", 13}, {"[[1 2] [3] [4]]", 7}, {"[[1 2] [3] [4 5]]", 7}, {"[[-10 200] [3 4] [0 0 0] [1] [2 3]]", 17}, {"[[1] [" + times("2", 16) + "]]", 5}, {"[[" + times("2", 16) + "] [1]]", 35}, {"[" + times("[1 2]", 15) + " [1]]", 91},
	} {
		refused(t, x.text, api.ErrRange, x.at)
	}
}

// P5.6: numbers and rows one more than MaxSize, ahead of what is wrong behind them, behind what is wrong ahead of them.
func TestReadMany(t *testing.T) {
	for _, x := range []string{"0", "1", "-1", "12", "-123", "12345678901234567890"} {
		for _, ahead := range []string{"[", "[[5] ", "[[1 2 3] [-4 5] ", "[" + times("[7]", 15) + " "} {
			full := ahead + "[" + times(x, 16)
			for _, more := range []string{" 0", " 1]]", " -5]]", " 1 2]]", " 1", " 12x", " 01]]", " -1 ", " 1 x", " 1] x", " 1][", " -", " -x", " -0]]", " 0 0 0] [1]]"} {
				refused(t, full+more, api.ErrLong, len(full)+1)
			}
			for more, at := range map[string]int{"": 0, " ": 1, "x": 0, " x": 1, " ]]": 1, "  1]]": 1, "] 1": 2, "][": 1, " [": 1, " +1": 1} {
				refused(t, full+more, api.ErrText, len(full)+at)
			}
			refused(t, ahead+"[x "+times(x, 17)+"]]", api.ErrText, len(ahead)+1)
			refused(t, ahead[:len(ahead)-1]+"x[ "+times(x, 17)+"]]", api.ErrText, max(0, len(ahead)-1))
		}
		full := "[" + times("["+x+"]", 16)
		for _, more := range []string{" [1]]", " [", " [x", " []]", " [1 2]]", " [1] [2]]", " [1", " [1]]x", " [" + times("1", 17) + "]]"} {
			refused(t, full+more, api.ErrLong, len(full)+1)
		}
		for more, at := range map[string]int{"": 0, " ": 1, "x": 0, " x": 1, "]x": 1, " ]": 1, "  [1]]": 1, "[1]]": 0, " 1]": 1} {
			refused(t, full+more, api.ErrText, len(full)+at)
		}
		unlike := "[" + times("["+x+"]", 15) + " [1 2]"
		refused(t, unlike+"]", api.ErrRange, len(unlike)-5)
		refused(t, unlike+" [1]]", api.ErrLong, len(unlike)+1)
		refused(t, "["+times("["+times(x, 16)+"]", 17)+"]", api.ErrLong, 16*(len(times(x, 16))+3)+1)
	}
	refused(t, "[["+times("1", 5000)+"]]", api.ErrLong, 34)
	refused(t, "[["+times("1", 5000), api.ErrLong, 34)
	refused(t, "["+times("[1]", 5000)+"]", api.ErrLong, 65)
}

// P5.6, R8
func TestReadLong(t *testing.T) {
	const most = api.MaxText
	threes := strings.Repeat("3", 254)
	for _, x := range []struct {
		text       string
		rows, cols int
	}{
		{"[[" + strings.Repeat("9", most-4) + "]]", 1, 1}, {"[[-" + strings.Repeat("9", most-5) + "]]", 1, 1}, {"[[" + strings.Repeat("7", most/2) + "] [-" + strings.Repeat("8", most/2-8) + "]]", 2, 1}, {"[[" + strings.Repeat("4", 223) + times(threes, 16) + "] " + times("["+times(threes, 16)+"]", 15) + "]", 16, 16},
	} {
		if len(x.text) != most {
			t.Errorf("%.20q has %d bytes", x.text, len(x.text))
		}
		taken(t, x.text, x.rows, x.cols)
		refused(t, x.text[:most-2]+"]x", api.ErrText, most-1)
		refused(t, x.text[:most-2]+"1]", api.ErrText, most)
		for _, more := range []string{x.text + "]", x.text + "x", " " + x.text, x.text + x.text} {
			refused(t, more, api.ErrLong, most)
		}
	}
	refused(t, strings.Repeat("\xff", 2*most), api.ErrLong, most)
	refused(t, strings.Repeat("[", most+1), api.ErrLong, most)
	refused(t, "["+times("[1]", most/4+1), api.ErrLong, most)
	refused(t, strings.Repeat("[", most), api.ErrText, 2)
}

// P5.6, P5.10: every text that goes on by up to 6 bytes out of a few, held against the form, told another way.
func TestReadEvery(t *testing.T) {
	const n = `(?:0|-?[1-9][0-9]*)`
	const r = `\[` + n + `(?: ` + n + `)*\]`
	whole := regexp.MustCompile(`^\[` + r + `(?: ` + r + `)*\]$`)
	begun := regexp.MustCompile(`^(?:\[(?:` + r + ` )*(?:` + r + `|\[(?:` + n + ` )*(?:-|` + n + `)?)?)?$`)
	for _, ahead := range []string{"", "[[1", "[[1] ["} {
		texts := []string{ahead}
		for begin := 0; len(texts[begin]) < len(ahead)+6; begin++ {
			for _, c := range []string{"[", "]", " ", "-", "0", "1"} {
				texts = append(texts, texts[begin]+c)
			}
		}
		for _, text := range texts {
			if whole.MatchString(text) {
				lengths(t, text)
				continue
			}
			at := len(text)
			for !begun.MatchString(text[:at]) && !whole.MatchString(text[:at]) {
				at--
			}
			refused(t, text, api.ErrText, at)
		}
	}
}

// lengths asks that a text of a matrix's form is taken just if its rows are as long as each other.
func lengths(t *testing.T, text string) {
	t.Helper()
	rows := strings.SplitAfter(text[1:len(text)-1], "] ")
	cols := len(strings.Fields(rows[0]))
	at := 1
	for _, l := range rows {
		if len(strings.Fields(l)) != cols {
			refused(t, text, api.ErrRange, at)
			return
		}
		at += len(l)
	}
	taken(t, text, len(rows), cols)
}

// P5.6, R1: whatever bytes a text has.
func TestReadAnyBytes(t *testing.T) {
	for c := range 256 {
		b := string([]byte{byte(c)})
		digit := c >= '0' && c <= '9'
		if c != '[' {
			refused(t, b+"[1]]", api.ErrText, 0)
			refused(t, "["+b+"1]]", api.ErrText, 1)
			refused(t, "[[1] "+b+"1]]", api.ErrText, 5)
		}
		if !digit && c != ' ' && c != ']' {
			refused(t, "[[1"+b+"2]]", api.ErrText, 3)
		}
		if !digit && c != '-' {
			refused(t, "[["+b+"2]]", api.ErrText, 2)
			refused(t, "[[1 "+b+"2]]", api.ErrText, 4)
		}
		if c != ' ' && c != ']' {
			refused(t, "[[1]"+b, api.ErrText, 4)
		}
		refused(t, "[[1]]"+b, api.ErrText, 5)
	}
}
