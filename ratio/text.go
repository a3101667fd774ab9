package ratio

import (
	"strings"

	"swage/api"
	"swage/integer"
)

// Text is its numerator's text, and, if it is not whole, / and its denominator's.
func (x Rat) Text() string {
	if x.IsWhole() {
		return x.num.Text()
	}
	return x.num.Text() + "/" + x.den.Text()
}

// Read is the Rat of a text, or what is wrong with the text.
func Read(text string) (Rat, api.Spot) {
	if len(text) > api.MaxText {
		return Rat{}, api.Spot{Err: api.ErrLong, At: api.MaxText}
	}
	above, below, parted := strings.Cut(text, "/")
	if !parted {
		n, spot := integer.Read(text)
		return Whole(n), spot
	}
	terms, spot := readTerms(above, below)
	if spot.Err != api.OK {
		return Rat{}, spot
	}
	x := lowest(terms[0], terms[1])
	if x.den.Cmp(terms[1]) != 0 { // a whole one keeps none, so that no / may stand in its text
		return Rat{}, api.Spot{Err: api.ErrText, At: len(text)}
	}
	return x, api.Spot{}
}

// readTerms are the numbers of the texts on both sides of a /, or what is wrong first.
func readTerms(above, below string) ([2]integer.Int, api.Spot) {
	var terms [2]integer.Int
	var spot api.Spot
sides:
	for i, side := range [2]string{above, below} {
		terms[i], spot = integer.Read(side)
		if i == 1 && (strings.HasPrefix(side, "-") || strings.HasPrefix(side, "0")) { // a denominator is above 0
			spot = api.Spot{Err: api.ErrText}
		}
		if spot.Err != api.OK {
			spot.At += i * (len(above) + 1)
			break sides
		}
	}
	return terms, spot
}
