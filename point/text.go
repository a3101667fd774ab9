package point

import (
	"strconv"
	"strings"

	"swage/api"
)

// Text is the points' texts, with a blank between two; the points need not be in.
func Text(l []api.Point) string {
	texts := make([]string, len(l))
	for i, p := range l {
		texts[i] = text(p)
	}
	return strings.Join(texts, " ")
}

// text is a point's text.
func text(p api.Point) string {
	a, b := strconv.Itoa(p.A), strconv.Itoa(p.B)
	switch {
	case p.B == 1:
		return a
	case p == api.Point{A: 1, B: 0}:
		return "inf"
	case p.B > 1 && norm(p) == p:
		return a + "/" + b
	}
	return "(" + a + ":" + b + ")"
}

// Read is the list of a text, or what is wrong with the text.
func Read(text string) ([]api.Point, api.Spot) {
	switch {
	case len(text) > api.MaxText:
		return nil, api.Spot{Err: api.ErrLong, At: api.MaxText}
	case text == "": // no point's text is empty, but the list's without points is
		return nil, api.Spot{}
	}
	var l []api.Point
	at := 0
	for piece := range strings.SplitSeq(text, " ") {
		p, ok := readPoint(piece)
		if !ok {
			return nil, api.Spot{Err: api.ErrText, At: at}
		}
		l = append(l, p)
		at += len(piece) + len(" ")
	}
	return l, api.Spot{}
}

// readPoint is the point of a text, and whether there is one that is in. A text may have the form of a point without being its text (2/4, 1/1, 01): so the text of what was read is held against it.
func readPoint(piece string) (api.Point, bool) {
	above, below := terms(piece)
	a, wrongA := strconv.Atoi(above)
	b, wrongB := strconv.Atoi(below)
	p := api.Point{A: a, B: b}
	if wrongA != nil || wrongB != nil || !In(p) || text(p) != piece {
		return api.Point{}, false
	}
	return p, true
}

// terms are the texts of both coordinates, if the text is a point's.
func terms(piece string) (string, string) {
	if piece == "inf" {
		return "1", "0"
	}
	if inner, bracketed := strings.CutPrefix(piece, "("); bracketed {
		above, below, _ := strings.Cut(strings.TrimSuffix(inner, ")"), ":")
		return above, below
	}
	if above, below, parted := strings.Cut(piece, "/"); parted {
		return above, below
	}
	return piece, "1"
}
