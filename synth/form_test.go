package synth

import (
	"testing"

	"swage/api"
	"swage/point"
)

// P12.2: the forms of which one is chosen are 1 at their point, there is one for each, and no value of theirs at a point that is in, a norm or not, is above the constants, so that no factor of it is: whichever lists would make them the cheapest.
func TestOnes(t *testing.T) {
	for p := range point.All(api.MaxPoint) {
		told := 0
		for f := range ones(p) {
			told++
			if f.at(p) != 1 {
				t.Errorf("%v at %v: %d", f, p, f.at(p))
			}
			for _, a := range []int{-16, 16} {
				for _, b := range []int{-16, 16} {
					if n := f.at(api.Point{A: a, B: b}); n < -512 || n > 512 {
						t.Errorf("%v of %v at {%d, %d}: %d", f, p, a, b, n)
					}
				}
			}
		}
		if told == 0 {
			t.Errorf("no form of %v", p)
		}
	}
}
