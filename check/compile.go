package check

import (
	"iter"
	"slices"

	"swage/api"
	"swage/eval"
	"swage/order"
	"swage/scheme"
	"swage/synth"
)

// programs tells where a unit's programs stand, in order.
func programs(u *api.Unit) iter.Seq[*api.Prog] {
	return func(yield func(*api.Prog) bool) {
		for _, p := range []*api.Prog{&u.Left, &u.Right, &u.Back} {
			if !yield(p) {
				return
			}
		}
	}
}

// Raw is a scheme's unit, its programs being as eval and synth make them; or what New says of the scheme.
func Raw(k1, k2 int, points []api.Point) (api.Unit, api.Errno) {
	if _, e := scheme.New(k1, k2, points); e != api.OK {
		return api.Unit{}, e
	}
	u := api.Unit{K1: k1, K2: k2, Points: slices.Clone(points)}
	u.Left, _ = eval.Program(k1, points) // of a scheme's points there is every program
	u.Right, _ = eval.Program(k2, points)
	u.Back, _ = synth.Program(points)
	return u, api.OK
}

// Compile is Raw's unit, each of its programs gone through by all passes; or what New says of the scheme.
func Compile(k1, k2 int, points []api.Point) (api.Unit, api.Errno) {
	u, e := Raw(k1, k2, points)
	if e != api.OK {
		return api.Unit{}, e
	}
	for p := range programs(&u) {
		*p, _ = order.All(*p)
	}
	return u, api.OK
}

// Passed tells, program by program, with the passes' names, the units that have what the passes make in that program's place; nothing of a unit that is not right. It goes by the unit as it was handed in: its lists are not kept.
func Passed(u api.Unit) iter.Seq2[string, api.Unit] {
	if _, e := Unit(u); e != api.OK {
		return func(func(string, api.Unit) bool) {}
	}
	first := copied(u)
	return func(yield func(string, api.Unit) bool) {
		now := first
	told:
		for p := range programs(&now) {
			was := *p
			for name, made := range order.Rounds(was) {
				*p = made
				if !yield(name, copied(now)) { // a copy: whoever is told may write into it
					break told
				}
			}
			*p = was
		}
	}
}
