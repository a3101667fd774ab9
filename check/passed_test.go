package check_test

import (
	"slices"
	"testing"

	"swage/api"
	"swage/check"
	"swage/order"
)

// named is what Passed tells once.
type named struct {
	name string
	unit api.Unit
}

// collect is all that Passed tells of a unit.
func collect(u api.Unit) []named {
	var l []named
	for name, v := range check.Passed(u) {
		l = append(l, named{name, v})
	}
	return l
}

// wanted is what Passed tells of a unit that is right, by the chapter's words.
func wanted(u api.Unit) []named {
	var l []named
	for name, p := range order.Rounds(u.Left) {
		v := cloned(u)
		v.Left = p
		l = append(l, named{name, v})
	}
	for name, p := range order.Rounds(u.Right) {
		v := cloned(u)
		v.Right = p
		l = append(l, named{name, v})
	}
	for name, p := range order.Rounds(u.Back) {
		v := cloned(u)
		v.Back = p
		l = append(l, named{name, v})
	}
	return l
}

// alikeAll tells whether the same is told.
func alikeAll(l, m []named) bool {
	return slices.EqualFunc(l, m, func(x, y named) bool { return x.name == y.name && alike(x.unit, y.unit) })
}

// P18.4: the names of the passes, program by program, and what changes with each: a unit set by hand, of which each program asks for another number of rounds.
func TestPassedByHand(t *testing.T) {
	u := compiled(t, 2, 2, "0 1 inf")
	u.Left = read(t, "in 2 regs 4 | r3 = r0 * 1 | r2 = r3 + r1 | out r3 r2 r1")
	u.Right = read(t, "in 2 regs 3 | r2 = r0 + r1 | out r0 r2 r1")
	u.Back = read(t, "in 3 regs 5 | r3 = r1 * 7 | r4 = r0 / 1 | r1 = r1 - r0 | r1 = r1 - r2 | out r4 r1 r2")
	var names []string
	last := map[int]api.Unit{}
	for _, x := range collect(u) {
		names = append(names, x.name)
		for k, p := range sides(&x.unit) {
			if !same(*p, *sides(&u)[k]) {
				last[k] = x.unit
			}
		}
	}
	round := []string{"fold", "share", "dead"}
	want := slices.Concat(round, round, []string{"pack"}, round, []string{"pack"}, round, round, []string{"pack"})
	if !slices.Equal(names, want) {
		t.Errorf("%q, not %q", names, want)
	}
	for k, s := range []string{"in 2 regs 3 | r2 = r0 + r1 | out r0 r2 r1", "", "in 3 regs 3 | r1 = r1 - r0 | r1 = r1 - r2 | out r0 r1 r2"} {
		if s == "" {
			if _, changed := last[k]; changed {
				t.Errorf("the program %d was changed: %s", k+1, show(last[k]))
			}
			continue
		}
		v := cloned(u)
		*sides(&v)[k] = read(t, s)
		if !alike(last[k], v) {
			t.Errorf("%s, not %s", show(last[k]), show(v))
		}
	}
}

// P18.4, P18.5: the names and units that order.Rounds tells, program by program, each of them right, and its bytes accepted.
func TestPassed(t *testing.T) {
	changed := 0
	for _, u := range append(right(t, 186, 18, 9), compiled(t, 8, 8, "0 1 -1 2 -2 3 -3 4 -4 5 -5 6 -6 7 inf"), raw(t, 8, 8, "16 -16 15/16 -15/16 13/11 -13/11 14/13 16/15 -16/15 11/16 -11/16 13/16 16/13 (15:-14) inf")) {
		l := collect(u)
		if want := wanted(u); !alikeAll(l, want) || len(l) < 12 {
			t.Errorf("Passed of %s: %d, not %d", show(u), len(l), len(want))
		}
		for _, x := range l {
			part, e := wrongOf(x.unit)
			k, f := check.Unit(x.unit)
			if part != 0 || e != api.OK || k != 0 || f != api.OK {
				t.Errorf("%s of %s: %s: %d, %v, told %d, %v", x.name, show(u), show(x.unit), part, e, k, f)
			}
			if v, spot := check.Accept(encoded(t, x.unit)); spot != (api.Spot{}) || !alike(v, x.unit) {
				t.Errorf("%s of %s: %v", x.name, show(u), spot)
			}
			if !alike(x.unit, u) {
				changed++
			}
		}
	}
	if changed < 300 {
		t.Errorf("%d are other units", changed)
	}
}

// P18.4: nothing of a unit that is not right, whatever part is wrong.
func TestPassedOfWrongUnits(t *testing.T) {
	var l []api.Unit
	for _, h := range heads(t) {
		u := compiled(t, 2, 2, "0 1 inf")
		u.K1, u.K2, u.Points = h.k1, h.k2, h.points
		l = append(l, u)
	}
	for k := range 3 {
		u := raw(t, 3, 2, "0 1 -1 1/2")
		for _, p := range wrongPrograms(*sides(&u)[k]) {
			v := cloned(u)
			*sides(&v)[k] = p
			l = append(l, v)
		}
		v := cloned(u)
		slices.Reverse(sides(&v)[k].Outs)
		l = append(l, v)
	}
	m := maker(1804)
	for _, u := range right(t, 187, 200, 5) {
		l = append(l, m.change(u), m.change(u))
	}
	some, none := 0, 0
	for _, u := range append(l, api.Unit{}) {
		told := collect(u)
		_, e := wrongOf(u)
		switch {
		case e != api.OK && len(told) > 0 || e == api.OK && !alikeAll(told, wanted(u)):
			t.Errorf("%s, %v: %d units", show(u), e, len(told))
		case e == api.OK:
			some++
		default:
			none++
		}
	}
	if some < 50 || none < 1000 {
		t.Errorf("%d are right, %d are not", some, none)
	}
}

// R6, P18.4: left at each place, and gone through again with the same answers; also one going through within another one.
func TestPassedLeftEarly(t *testing.T) {
	for _, u := range []api.Unit{raw(t, 3, 2, "0 1 -1 1/2"), padded(raw(t, 2, 2, "0 1 -1")), compiled(t, 1, 1, "inf")} {
		want := wanted(u)
		all := check.Passed(u)
		for n := 1; n <= len(want); n++ {
			var l []named
			for name, v := range all {
				l = append(l, named{name, v})
				if len(l) == n {
					break
				}
			}
			if !alikeAll(l, want[:n]) {
				t.Errorf("left after %d of %s: %d", n, show(u), len(l))
			}
		}
		for range 2 {
			n := 0
			for name, v := range all {
				within := 0
				for range all {
					within++
					if within > n {
						break
					}
				}
				if !alikeAll([]named{{name, v}}, want[n:n+1]) || within != n+1 {
					t.Errorf("%d of %s: %s, %s, %d within", n, show(u), name, show(v), within)
				}
				n++
			}
			if n != len(want) {
				t.Errorf("%d, not %d", n, len(want))
			}
		}
	}
}
