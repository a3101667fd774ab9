package point

import (
	"iter"

	"swage/api"
)

// All tells all norms whose coordinates are at most most: 0, infinity, then the others by their greater coordinate; nothing, if most is below 1 or above MaxPoint.
func All(most int) iter.Seq[api.Point] {
	return func(yield func(p api.Point) bool) {
		if most < 1 || most > api.MaxPoint {
			return
		}
		if !yield(api.Point{A: 0, B: 1}) || !yield(api.Point{A: 1, B: 0}) {
			return
		}
	heights:
		for h := 1; h <= most; h++ {
			for p := range ofHeight(h) {
				if !yield(p) {
					break heights
				}
			}
		}
	}
}

// ofHeight tells the norms whose greater coordinate is h, by B, then by A's amount, the one above 0 first. A coordinate that is 0 leaves 0 and infinity alone, which All tells ahead: so both go from 1 on.
func ofHeight(h int) iter.Seq[api.Point] {
	return func(yield func(p api.Point) bool) {
	points:
		for b := 1; b <= h; b++ {
			for a := 1; a <= h; a++ {
				if max(a, b) != h {
					continue
				}
				for _, p := range [2]api.Point{{A: a, B: b}, {A: -a, B: b}} {
					if norm(p) == p && !yield(p) {
						break points
					}
				}
			}
		}
	}
}
