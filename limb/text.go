package limb

import (
	"iter"

	"swage/api"
)

// Texts are told and read by groups of digits, as many as go into one limb: groupUnit is 10 to the groupDigits.
const (
	groupDigits = 9
	groupUnit   = 1000000000
)

// Text is a in digits, without noughts ahead; 0 is 0.
func Text(a []uint32) string {
	var text []byte
	for d := range Digits(a) {
		text = append(text, byte('0'+d))
	}
	return string(text)
}

// Digits are the digits of a's text, as numbers, from the first one on.
func Digits(a []uint32) iter.Seq[int] {
	groups := groupsOf(a) // at once: a is not kept, and may be another number when the digits are asked
	return func(yield func(int) bool) {
		unit := firstUnit(groups[len(groups)-1])
		for i := len(groups) - 1; i >= 0; i-- {
			for ; unit > 0; unit /= 10 {
				if !yield(int(groups[i] / unit % 10)) {
					return
				}
			}
			unit = groupUnit / 10
		}
	}
}

// groupsOf are a's groups of digits, the low one first; 0 has one, too, for it has a digit.
func groupsOf(a []uint32) []uint32 {
	rest, low := divideOwn(Norm(a), groupUnit)
	groups := []uint32{low}
	for len(rest) > 0 {
		rest, low = divideOwn(rest, groupUnit)
		groups = append(groups, low)
	}
	return groups
}

// firstUnit is the power of ten that stands at a group's first digit that is not a nought ahead of others.
func firstUnit(group uint32) uint32 {
	unit := uint32(1)
	for group/unit >= 10 {
		unit *= 10
	}
	return unit
}

// Read is the number of a text, or what is wrong with the text.
func Read(text string) ([]uint32, api.Spot) {
	if len(text) > api.MaxText {
		return nil, api.Spot{Err: api.ErrLong, At: api.MaxText}
	}
	if at, ok := fault(text); !ok {
		return nil, api.Spot{Err: api.ErrText, At: at}
	}
	var number []uint32
	var group uint32
	for i := range len(text) {
		group = group*10 + uint32(text[i]-'0')
		if (len(text)-1-i)%groupDigits == 0 { // the last group ends where the text does, so that only the first one may be short
			number = timesAnd(number, groupUnit, group)
			group = 0
		}
	}
	return number, api.Spot{}
}

// fault is the place of the first byte with which text is no number's text; true, if there is none.
func fault(text string) (int, bool) {
	for i := range len(text) {
		if text[i] < '0' || text[i] > '9' || i == 1 && text[0] == '0' {
			return i, false
		}
	}
	return 0, len(text) > 0
}
