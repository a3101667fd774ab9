package point_test

import (
	"math"
	"math/big"
	"strconv"

	"swage/api"
)

// most is the greatest coordinate of a point that is in.
const most = api.MaxPoint

// pt is a point by its coordinates.
func pt(a, b int) api.Point { return api.Point{A: a, B: b} }

// edges are the coordinates at which something turns, the least and the greatest int among them.
func edges() []int {
	return []int{math.MinInt, math.MinInt + 1, -1 << 62, -1 << 32, -most - 1, -most, -most + 1, -2, -1, 0, 1, 2, most - 1, most, most + 1, 1 << 32, 1 << 62, math.MaxInt - 1, math.MaxInt}
}

// within tells whether a coordinate is one of a point that is in.
func within(n int) bool { return n >= -16 && n <= 16 }

// every is each point that is in.
func every() []api.Point {
	var l []api.Point
	for a := -most; a <= most; a++ {
		for b := -most; b <= most; b++ {
			l = append(l, pt(a, b))
		}
	}
	return l
}

// outside are points that are not in, by one coordinate or by both.
func outside() []api.Point {
	var l []api.Point
	for _, a := range edges() {
		for _, b := range edges() {
			if !within(a) || !within(b) {
				l = append(l, pt(a, b))
			}
		}
	}
	return l
}

// few are points of each sort: whole, fractions, infinity and none, with signs, norms and others, and some that are not in.
func few() []api.Point {
	return []api.Point{pt(0, 0), pt(0, 1), pt(0, -5), pt(1, 0), pt(-16, 0), pt(1, 1), pt(-3, -3), pt(-1, 1), pt(1, 2), pt(8, 16), pt(-4, 6), pt(2, -3), pt(16, 15), pt(17, 17), pt(17, 0), pt(math.MinInt, math.MinInt)}
}

// normal is the norm of a point, by fractions of another make, however great its coordinates.
func normal(p api.Point) [2]string {
	switch {
	case p.A == 0 && p.B == 0:
		return [2]string{"0", "0"}
	case p.B == 0:
		return [2]string{"1", "0"}
	}
	r := big.NewRat(1, 1).SetFrac(big.NewInt(int64(p.A)), big.NewInt(int64(p.B)))
	return [2]string{r.Num().String(), r.Denom().String()}
}

// digits are both coordinates of a point, as they are.
func digits(p api.Point) [2]string {
	return [2]string{strconv.FormatInt(int64(p.A), 10), strconv.FormatInt(int64(p.B), 10)}
}

// told is a point's text, by no call of the package.
func told(p api.Point) string {
	d := digits(p)
	own := d == normal(p)
	switch {
	case p.B == 1:
		return d[0]
	case own && p.B == 0 && p.A == 1:
		return "inf"
	case own && p.B > 1:
		return d[0] + "/" + d[1]
	}
	return "(" + d[0] + ":" + d[1] + ")"
}

// amount is a small number without its sign.
func amount(n int) int {
	if n < 0 {
		return -n
	}
	return n
}

// common is the greatest number that divides both coordinates of a point that is in, found by asking each.
func common(p api.Point) int {
	for g := most; g > 0; g-- {
		if p.A%g == 0 && p.B%g == 0 && (p.A != 0 || p.B != 0) {
			return g
		}
	}
	return 0
}
