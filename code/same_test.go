package code_test

import (
	"fmt"
	"slices"
	"testing"

	"swage/api"
	"swage/code"
)

// changes are units each of which has one part alone that is not as u's, by what was changed.
func changes(u api.Unit) map[string]api.Unit {
	l := map[string]api.Unit{}
	change := func(name string, f func(v *api.Unit)) {
		v := cloned(u)
		f(&v)
		l[name] = v
	}
	change("K1", func(v *api.Unit) { v.K1++ })
	change("K2", func(v *api.Unit) { v.K2-- })
	for k := range u.Points {
		change(fmt.Sprint("A of the point ", k), func(v *api.Unit) { v.Points[k].A++ })
		change(fmt.Sprint("B of the point ", k), func(v *api.Unit) { v.Points[k].B-- })
		change(fmt.Sprint("without the point ", k), func(v *api.Unit) { v.Points = slices.Delete(v.Points, k, k+1) })
	}
	change("one point more", func(v *api.Unit) { v.Points = append(v.Points, api.Point{}) })
	change("no points", func(v *api.Unit) { v.Points = nil })
	for s, p := range sides(&u) {
		name := fmt.Sprint("program ", s, ": ")
		change(name+"Ins", func(v *api.Unit) { sides(v)[s].Ins-- })
		change(name+"Regs", func(v *api.Unit) { sides(v)[s].Regs++ })
		for k := range p.Code {
			at := func(v *api.Unit) *api.Instr { return &sides(v)[s].Code[k] }
			change(fmt.Sprint(name, "Op of ", k), func(v *api.Unit) { at(v).Op++ })
			change(fmt.Sprint(name, "To of ", k), func(v *api.Unit) { at(v).To-- })
			change(fmt.Sprint(name, "A of ", k), func(v *api.Unit) { at(v).A++ })
			change(fmt.Sprint(name, "B of ", k), func(v *api.Unit) { at(v).B++ })
			change(fmt.Sprint(name, "C of ", k), func(v *api.Unit) { at(v).C-- })
			change(fmt.Sprint(name, "without ", k), func(v *api.Unit) { sides(v)[s].Code = slices.Delete(sides(v)[s].Code, k, k+1) })
		}
		change(name+"one instruction more", func(v *api.Unit) { sides(v)[s].Code = append(sides(v)[s].Code, in(move, 0, 0, 0, 0)) })
		change(name+"one that is zero more", func(v *api.Unit) { sides(v)[s].Code = append(sides(v)[s].Code, api.Instr{}) })
		change(name+"no instructions", func(v *api.Unit) { sides(v)[s].Code = nil })
		for k := range p.Outs {
			change(fmt.Sprint(name, "the out ", k), func(v *api.Unit) { sides(v)[s].Outs[k]++ })
			change(fmt.Sprint(name, "without the out ", k), func(v *api.Unit) { sides(v)[s].Outs = slices.Delete(sides(v)[s].Outs, k, k+1) })
		}
		change(name+"one out more", func(v *api.Unit) { sides(v)[s].Outs = append(sides(v)[s].Outs, 0) })
		change(name+"no outs", func(v *api.Unit) { sides(v)[s].Outs = nil })
	}
	change("points turned about", func(v *api.Unit) { slices.Reverse(v.Points) })
	change("K1 and K2", func(v *api.Unit) { v.K1, v.K2 = v.K2, v.K1 })
	change("Left and Right", func(v *api.Unit) { v.Left, v.Right = v.Right, v.Left })
	change("Left and Back", func(v *api.Unit) { v.Left, v.Back = v.Back, v.Left })
	change("Right and Back", func(v *api.Unit) { v.Right, v.Back = v.Back, v.Right })
	return l
}

// holdSame tells what is wrong, unless this is what Same says of two units, either way.
func holdSame(t *testing.T, name string, u, v api.Unit, want bool) {
	t.Helper()
	if code.Same(u, v) != want || code.Same(v, u) != want {
		t.Errorf("%s: Same of %s and %s: %v, not %v", name, show(u), show(v), !want, want)
	}
}

// P17.1: Same tells units apart by each of their parts alone, and by lists of unlike length.
func TestSameByEachPart(t *testing.T) {
	u := rich()
	l := changes(u)
	for name, v := range l {
		holdSame(t, name, u, v, false)
		holdSame(t, name, v, cloned(v), true)
	}
	if len(l) < 100 {
		t.Errorf("%d changes", len(l))
	}
	holdSame(t, "the same", u, rich(), true)
}

// P17.1: nil and empty lists are one; units that may not be are held against each other likewise.
func TestSameOfAny(t *testing.T) {
	u, v := example(), example()
	u.Points, v.Points = nil, []api.Point{}
	u.Left.Code, v.Left.Code = []api.Instr{}, nil
	u.Back.Outs, v.Back.Outs = nil, []int{}
	holdSame(t, "empty lists", u, v, true)
	holdSame(t, "zero units", api.Unit{}, api.Unit{}, true)
	holdSame(t, "a zero unit", api.Unit{}, example(), false)
	heads := wrongHeads()
	for k, v := range heads {
		holdSame(t, "that may not be", v, cloned(v), true)
		holdSame(t, "that may not be", v, rich(), false)
		if k > 0 {
			holdSame(t, "that may not be", v, heads[k-1], alike(v, heads[k-1]))
		}
	}
	for _, p := range wrongPrograms() {
		for s := range 3 {
			u := rich()
			*sides(&u)[s] = p
			holdSame(t, "that may not be", u, cloned(u), true)
			holdSame(t, "that may not be", u, rich(), false)
		}
	}
}

// P17.1: Same of units drawn at random, of which some are the same.
func TestSameAtRandom(t *testing.T) {
	m := maker(17)
	var l []api.Unit
	for range 300 {
		u := m.unit(1, 1, 1)
		u.K1, u.K2 = 1+m.below(2), 1
		for k := range u.Points {
			u.Points[k] = api.Point{A: m.below(2), B: 1}
		}
		for _, p := range sides(&u) {
			*p = plain(1, 1, m.below(2), 1)
		}
		l = append(l, u)
	}
	same, other := 0, 0
	for _, u := range l {
		for _, v := range l {
			want := alike(u, v)
			holdSame(t, "at random", u, v, want)
			if want {
				same++
			} else {
				other++
			}
		}
	}
	if same < 1000 || other < 10000 {
		t.Errorf("%d are the same, %d are not", same, other)
	}
}
