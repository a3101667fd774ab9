package matrix

import (
	"strings"

	"swage/api"
	"swage/integer"
	"swage/row"
)

// Text is [, the rows' texts with a blank between two, and ].
func (m Matrix) Text() string {
	texts := make([]string, m.Rows())
	for i, l := range m.rows {
		texts[i] = row.Text(l)
	}
	return "[" + strings.Join(texts, " ") + "]"
}

// Read is the matrix of a text, or what is wrong with the text.
func Read(text string) (Matrix, api.Spot) {
	if len(text) > api.MaxText {
		return Matrix{}, api.Spot{Err: api.ErrLong, At: api.MaxText}
	}
	rows, places, spot := readRows(text)
	if spot.Err != api.OK {
		return Matrix{}, spot
	}
	if i := unlike(rows); i > 0 {
		return Matrix{}, api.Spot{Err: api.ErrRange, At: places[i]}
	}
	return Matrix{rows}, api.Spot{}
}

// readRows is the rows of a matrix's text, and the places of their first bytes, whatever the lengths of the rows; or what is wrong first.
func readRows(text string) ([][]integer.Int, []int, api.Spot) {
	if !strings.HasPrefix(text, "[") {
		return nil, nil, api.Spot{Err: api.ErrText}
	}
	var rows [][]integer.Int
	var places []int
	at := len("[")
	for {
		if len(rows) == api.MaxSize && strings.HasPrefix(text[at:], "[") {
			return nil, nil, api.Spot{Err: api.ErrLong, At: at}
		}
		piece := rowText(text[at:])
		l, spot := readRow(piece)
		if spot.Err != api.OK {
			return nil, nil, api.Spot{Err: spot.Err, At: at + spot.At}
		}
		rows, places = append(rows, l), append(places, at)
		at += len(piece)
		switch rest := text[at:]; {
		case rest == "]":
			return rows, places, api.Spot{}
		case strings.HasPrefix(rest, "]"):
			return nil, nil, api.Spot{Err: api.ErrText, At: at + len("]")}
		case !strings.HasPrefix(rest, " "):
			return nil, nil, api.Spot{Err: api.ErrText, At: at}
		}
		at += len(" ")
	}
}

// rowText is the text up to the end of the row with which it begins, or all of it, if the row has no end.
func rowText(text string) string {
	if end := strings.Index(text, "]"); end >= 0 {
		return text[:end+len("]")]
	}
	return text
}

// readRow is the row of a text, or what is wrong first: a matrix's row has a number at least, and MaxSize at most.
func readRow(text string) ([]integer.Int, api.Spot) {
	if text == "[]" {
		return nil, api.Spot{Err: api.ErrText, At: len("[")}
	}
	l, spot := row.Read(text)
	if at := tooMany(text); at > 0 && (spot.Err != api.ErrText || spot.At > at) {
		return nil, api.Spot{Err: api.ErrLong, At: at}
	}
	return l, spot
}

// tooMany is the place behind MaxSize blanks, where a number begins that is one more than MaxSize, or 0, if there are fewer blanks.
func tooMany(text string) int {
	pieces := strings.SplitN(text, " ", api.MaxSize+1)
	if len(pieces) <= api.MaxSize {
		return 0
	}
	return len(text) - len(pieces[api.MaxSize])
}
