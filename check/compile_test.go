package check_test

import (
	"slices"
	"testing"

	"swage/api"
	"swage/check"
	"swage/eval"
	"swage/order"
	"swage/prog"
	"swage/scheme"
	"swage/synth"
)

// makers are the calls that make units of schemes.
func makers() []func(k1, k2 int, l []api.Point) (api.Unit, api.Errno) {
	return []func(k1, k2 int, l []api.Point) (api.Unit, api.Errno){check.Raw, check.Compile}
}

// holdNone tells what is wrong, unless both calls tell this error of a scheme, and the zero unit.
func holdNone(t *testing.T, k1, k2 int, l []api.Point, e api.Errno) {
	t.Helper()
	for n, f := range makers() {
		if u, got := f(k1, k2, l); got != e || !zero(u) {
			t.Errorf("%d: %d %d, %d points %v: %s, %v, not %v", n, k1, k2, len(l), l[:min(len(l), 20)], show(u), got, e)
		}
	}
}

// holdMade tells what is wrong with what both calls make of a scheme.
func holdMade(t *testing.T, k1, k2 int, l []api.Point) {
	t.Helper()
	var made []api.Unit
	for n, f := range makers() {
		u, e := f(k1, k2, l)
		part, wrong := wrongOf(u)
		k, told := check.Unit(u)
		if e != api.OK || u.K1 != k1 || u.K2 != k2 || !slices.Equal(u.Points, l) || part != 0 || wrong != api.OK || k != 0 || told != api.OK {
			t.Fatalf("%d: %d %d %v: %s, %v; by the words %d, %v, told %d, %v", n, k1, k2, l, show(u), e, part, wrong, k, told)
		}
		if v, spot := check.Accept(encoded(t, u)); spot != (api.Spot{}) || !alike(u, v) {
			t.Errorf("%d: %s: %v", n, show(u), spot)
		}
		made = append(made, u)
	}
	holdPrograms(t, made[0], made[1])
}

// holdPrograms tells what is wrong, unless the first unit's programs are those that eval and synth make, and the second one's what order makes of them.
func holdPrograms(t *testing.T, raw, packed api.Unit) {
	t.Helper()
	left, e1 := eval.Program(raw.K1, raw.Points)
	right, e2 := eval.Program(raw.K2, raw.Points)
	back, e3 := synth.Program(raw.Points)
	for k, want := range []api.Prog{left, right, back} {
		p, q := *sides(&raw)[k], *sides(&packed)[k]
		if !same(p, want) || max(e1, e2, e3) != api.OK {
			t.Errorf("the program %d of %s", k+1, show(raw))
		}
		all, e := order.All(want)
		again, f := order.Pack(q)
		if !same(q, all) || !same(q, again) || e != api.OK || f != api.OK {
			t.Errorf("the program %d of %s", k+1, show(packed))
		}
		if len(q.Code) > len(p.Code) || q.Regs > p.Regs {
			t.Errorf("the program %d of %s is longer than that of %s", k+1, show(packed), show(raw))
		}
	}
}

// P18.3: the chapter's examples.
func TestCompileExamples(t *testing.T) {
	holdNone(t, 0, 2, points(t, "0 1"), api.ErrLimit)
	holdNone(t, 2, 2, points(t, "0 1"), api.ErrBadPoints)
	holdMade(t, 2, 2, points(t, "0 1 inf"))
}

// P18.3, P18.5: at the edges scheme.New's error, and the zero unit; else a unit that is right, with the programs that it must have.
func TestCompileHeads(t *testing.T) {
	for _, h := range heads(t) {
		if _, e := scheme.New(h.k1, h.k2, h.points); e != h.e {
			t.Errorf("New of %d %d: %v, not %v", h.k1, h.k2, e, h.e)
		}
		if h.e != api.OK {
			holdNone(t, h.k1, h.k2, h.points, h.e)
			continue
		}
		holdMade(t, h.k1, h.k2, h.points)
	}
}

// P18.3, P18.5: schemes drawn at random, with points as they come, many of them great.
func TestCompileSchemes(t *testing.T) {
	m := maker(1803)
	for k := range 500 {
		k1, k2, l := m.scheme([]int{mostPoints, 7, 5, 7}[k%4])
		holdMade(t, k1, k2, l)
	}
}

// few are all points with coordinates from -1 to 2, and one that is not in.
func few() []api.Point {
	l := []api.Point{at(mostPoint+1, 1)}
	for a := -1; a <= 2; a++ {
		for b := -1; b <= 2; b++ {
			l = append(l, at(a, b))
		}
	}
	return l
}

// P18.7: of all lists of up to three such points, and all split counts about them: Compile tells what scheme.New does, or its unit is accepted.
func TestEachOfBoth(t *testing.T) {
	lists := [][]api.Point{nil}
	for n := 0; n < len(lists); n++ {
		if l := lists[n]; len(l) < 3 {
			for _, p := range few() {
				lists = append(lists, append(slices.Clone(l), p))
			}
		}
	}
	made := map[api.Errno]int{}
	for n, l := range lists {
		for k1 := range 4 {
			k2 := len(l) + 1 - k1 // as many as there must be, or, for every fourth list, others
			if n%4 == 0 {
				k2 = n / 4 % 4
			}
			e := headOf(k1, k2, l)
			made[e]++
			if e != api.OK {
				holdNone(t, k1, k2, l, e)
				continue
			}
			u, f := check.Compile(k1, k2, l)
			part, wrong := wrongOf(u)
			if v, spot := check.Accept(encoded(t, u)); f != api.OK || part != 0 || wrong != api.OK || spot != (api.Spot{}) || !alike(u, v) {
				t.Errorf("%d %d %v: %s, %v, %d, %v, %v", k1, k2, l, show(u), f, part, wrong, spot)
			}
		}
	}
	if made[api.OK] < 2000 || made[api.ErrLimit] < 2000 || made[api.ErrBadPoints] < 2000 {
		t.Errorf("%v", made)
	}
}

// P18.7: any split counts and points, drawn at random so that most lists are nearly as they must be.
func TestEachOfBothAtRandom(t *testing.T) {
	m := maker(1807)
	made := map[api.Errno]int{}
	for range 3000 {
		k1, k2, l := m.scheme(7)
		switch m.below(6) {
		case 0:
			k1 = m.one(k1-1, k1+1, 0, mostParts+1)
		case 1:
			l[m.below(len(l))] = at(m.below(36)-18, m.below(36)-18)
		case 2:
			l[m.below(len(l))] = l[m.below(len(l))]
		case 3:
			p := l[m.below(len(l))]
			l[m.below(len(l))] = at(-p.A, -p.B)
		}
		e := headOf(k1, k2, l)
		made[e]++
		if e != api.OK {
			holdNone(t, k1, k2, l, e)
			continue
		}
		u, f := check.Compile(k1, k2, l)
		if v, spot := check.Accept(encoded(t, u)); f != api.OK || spot != (api.Spot{}) || !alike(u, v) {
			t.Errorf("%d %d %v: %v, %v", k1, k2, l, f, spot)
		}
	}
	for _, e := range []api.Errno{api.OK, api.ErrLimit, api.ErrBadPoints} {
		if made[e] < 100 {
			t.Errorf("%v", made)
		}
	}
}

// P18.5: what is compiled is shorter where there is something to leave out.
func TestShorter(t *testing.T) {
	shorter, fewer := 0, 0
	m := maker(1805)
	for range 100 {
		k1, k2, l := m.scheme(mostPoints)
		u, _ := check.Raw(k1, k2, l)
		v, _ := check.Compile(k1, k2, l)
		for k, p := range sides(&u) {
			q := sides(&v)[k]
			if _, e := prog.Check(*q); e != api.OK {
				t.Errorf("%s: %v", show(v), e)
			}
			shorter += len(p.Code) - len(q.Code)
			fewer += p.Regs - q.Regs
		}
	}
	if shorter <= 0 || fewer <= 0 {
		t.Errorf("%d instructions, %d registers fewer", shorter, fewer)
	}
}
