package scheme

import (
	"strconv"
	"strings"

	"swage/api"
	"swage/point"
)

// colon stands between the split counts and the points.
const colon = ": "

// mostDigits is how many digits a split count in a text may have: so few that it is an int on every machine.
const mostDigits = 9

// Text is both split counts, a colon, and the points' texts.
func (s *Scheme) Text() string {
	if s == nil {
		return ""
	}
	return strconv.Itoa(s.k1) + " " + strconv.Itoa(s.k2) + colon + point.Text(s.points)
}

// Read is the scheme of a text, or what is wrong with the text.
func Read(text string) (*Scheme, api.Spot) {
	if len(text) > api.MaxText {
		return nil, api.Spot{Err: api.ErrLong, At: api.MaxText}
	}
	ahead, list, parted := strings.Cut(text, colon)
	k1, k2, counted := readCounts(ahead)
	if !parted || !counted {
		return nil, api.Spot{Err: api.ErrText, At: 0}
	}
	points, spot := point.Read(list)
	if spot.Err != api.OK {
		spot.At += len(text) - len(list)
		return nil, spot
	}
	s, e := New(k1, k2, points)
	return s, api.Spot{Err: e, At: 0}
}

// readCounts are the split counts of a text with one blank between both, and whether they are such.
func readCounts(text string) (int, int, bool) {
	first, second, _ := strings.Cut(text, " ")
	k1, ok1 := readCount(first)
	k2, ok2 := readCount(second)
	return k1, k2, ok1 && ok2
}

// readCount is the number of a text, and whether it is one in digits alone, not too many of them. Signs and noughts ahead are taken by Atoi as well: so the number's digits are held against the text.
func readCount(text string) (int, bool) {
	n, wrong := strconv.Atoi(text)
	if wrong != nil || n < 0 || len(text) > mostDigits || strconv.Itoa(n) != text {
		return 0, false
	}
	return n, true
}
