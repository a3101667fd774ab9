package synth

import (
	"iter"

	"swage/api"
)

// Best is a program that interpolates at points, and the order in which it takes their values away; or ErrArg, if the points are not right. Two points are swapped in the order where this makes the program shorter, once for each pair.
func Best(l []api.Point) (api.Prog, []int, api.Errno) {
	if !Right(l) {
		return api.Prog{}, nil, api.ErrArg
	}
	order := rising(len(l))
	best := made(l, order)
	for i, j := range pairs(len(l)) {
		order[i], order[j] = order[j], order[i]
		if p := made(l, order); len(p.Code) < len(best.Code) {
			best = p
		} else {
			order[i], order[j] = order[j], order[i]
		}
	}
	return best, order, api.OK
}

// pairs tells all pairs of different numbers from 0 to n - 1, the lesser one first.
func pairs(n int) iter.Seq2[int, int] {
	return func(yield func(int, int) bool) {
		for j := range n {
			for i := range j {
				if !yield(i, j) {
					return
				}
			}
		}
	}
}
