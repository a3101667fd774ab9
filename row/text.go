package row

import (
	"strings"

	"swage/api"
	"swage/integer"
)

// Text is [, the numbers' texts with a blank between two, and ].
func Text(a []integer.Int) string {
	texts := make([]string, len(a))
	for i, x := range a {
		texts[i] = x.Text()
	}
	return "[" + strings.Join(texts, " ") + "]"
}

// Read is the row of a text, or what is wrong with the text.
func Read(text string) ([]integer.Int, api.Spot) {
	switch {
	case len(text) > api.MaxText:
		return nil, api.Spot{Err: api.ErrLong, At: api.MaxText}
	case !strings.HasPrefix(text, "["):
		return nil, api.Spot{Err: api.ErrText}
	}
	inner, behind, closed := strings.Cut(text[1:], "]")
	l, spot := readNumbers(inner)
	switch {
	case spot.Err == api.ErrText: // it stands ahead of the end
	case !closed:
		spot = api.Spot{Err: api.ErrText, At: len(text)}
	case behind != "":
		spot = api.Spot{Err: api.ErrText, At: len(text) - len(behind)}
	}
	if spot.Err != api.OK {
		return nil, spot
	}
	return l, api.Spot{}
}

// readNumbers are the numbers of a row's text without its brackets, or what is wrong with them, by its place in the whole text.
func readNumbers(inner string) ([]integer.Int, api.Spot) {
	if inner == "" {
		return nil, api.Spot{}
	}
	var l []integer.Int
	var spot api.Spot
	at := len("[")
pieces:
	for piece := range strings.SplitSeq(inner, " ") {
		x, wrong := integer.Read(piece)
		switch {
		case wrong.Err != api.OK:
			spot = api.Spot{Err: wrong.Err, At: at + wrong.At}
			break pieces
		case len(l) == api.MaxCoeffs: // a text that is no row's goes ahead of it: the other pieces are read, too
			spot = api.Spot{Err: api.ErrLong, At: at}
		}
		l = append(l, x)
		at += len(piece) + len(" ")
	}
	return l, spot
}
