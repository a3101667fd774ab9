package integer

import (
	"strings"

	"swage/api"
	"swage/limb"
)

// Text is its decimal digits, with a minus ahead, if it is below 0.
func (x Int) Text() string {
	var text []byte
	if x.neg {
		text = append(text, '-')
	}
	for d := range limb.Digits(x.limbs) {
		text = append(text, byte('0'+d))
	}
	return string(text)
}

// Read is the number of a text, or what is wrong with the text.
func Read(text string) (Int, api.Spot) {
	if len(text) > api.MaxText {
		return Int{}, api.Spot{Err: api.ErrLong, At: api.MaxText}
	}
	digits, neg := strings.CutPrefix(text, "-")
	if neg && strings.HasPrefix(digits, "0") { // 0 has no minus
		return Int{}, api.Spot{Err: api.ErrText, At: 1}
	}
	limbs, spot := limb.Read(digits)
	if spot.Err != api.OK {
		spot.At += len(text) - len(digits)
		return Int{}, spot
	}
	return made(neg, limbs), spot
}
