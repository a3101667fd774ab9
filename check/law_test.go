package check_test

import (
	"fmt"
	"slices"
	"testing"

	"swage/api"
	"swage/check"
)

// filled is a list with room behind its end, in which something stands.
func filled[T any](l []T, with T) []T {
	return append(slices.Clone(l), slices.Repeat([]T{with}, 9)...)[:len(l)]
}

// roomy is a unit whose lists have such room.
func roomy(u api.Unit) api.Unit {
	u.Points = filled(u.Points, at(7, 7))
	for _, p := range sides(&u) {
		p.Code, p.Outs = filled(p.Code, in(7, 7, 7, 7, 7)), filled(p.Outs, 7)
	}
	return u
}

// state is all that stands in a unit, and in the room of its lists.
func state(u api.Unit) string {
	s := fmt.Sprint(u.K1, u.K2, len(u.Points), u.Points[:cap(u.Points)])
	for _, p := range sides(&u) {
		s += fmt.Sprint(" ", p.Ins, p.Regs, len(p.Code), p.Code[:cap(p.Code)], len(p.Outs), p.Outs[:cap(p.Outs)])
	}
	return s
}

// wipe writes noughts into all memory of a unit's lists.
func wipe(u api.Unit) {
	clear(u.Points[:cap(u.Points)])
	for _, p := range sides(&u) {
		clear(p.Code[:cap(p.Code)])
		clear(p.Outs[:cap(p.Outs)])
	}
}

// spoil writes into all memory of a list, behind its end too, where nothing may have stood.
func spoil[T comparable](t *testing.T, l []T, with T) {
	t.Helper()
	var nothing T
	for k, v := range l[:cap(l)] {
		if k >= len(l) && v != nothing {
			t.Errorf("behind the end: %v", v)
		}
		l[:cap(l)][k] = with
	}
}

// holdOwn tells what is wrong, unless a unit is the one that is wanted, and writing into each of its lists leaves all others of it as they were.
func holdOwn(t *testing.T, u, want api.Unit) {
	t.Helper()
	if !alike(u, want) {
		t.Fatalf("%s, not %s", show(u), show(want))
	}
	want = cloned(want)
	spoil(t, u.Points, at(-9, -9))
	copy(want.Points, u.Points)
	for k, p := range sides(&u) {
		q := sides(&want)[k]
		spoil(t, p.Code, in(-9, -9, -9, -9, -9))
		copy(q.Code, p.Code)
		if !alike(u, want) {
			t.Fatalf("now %s, not %s", show(u), show(want))
		}
		spoil(t, p.Outs, -9)
		copy(q.Outs, p.Outs)
		if !alike(u, want) {
			t.Fatalf("now %s, not %s", show(u), show(want))
		}
	}
}

// several are units that are right, and such that are not, each in lists with room.
func several(t *testing.T) []api.Unit {
	t.Helper()
	m := maker(1888)
	var l []api.Unit
	for _, u := range right(t, 191, 30, 7) {
		l = append(l, roomy(u), roomy(m.change(u)))
	}
	u := compiled(t, 2, 2, "0 1 inf")
	for k := range 3 {
		for _, p := range wrongPrograms(*sides(&u)[k]) {
			v := cloned(u)
			*sides(&v)[k] = p
			l = append(l, roomy(v))
		}
	}
	return append(l, api.Unit{})
}

// R3: what is handed in stays as it is, the room behind its end too.
func TestListsStay(t *testing.T) {
	for n, u := range several(t) {
		was := state(u)
		check.Unit(u)
		for range check.Passed(u) {
		}
		check.Raw(u.K1, u.K2, u.Points)
		check.Compile(u.K1, u.K2, u.Points)
		if now := state(u); now != was {
			t.Fatalf("%s, not %s", now, was)
		}
		if _, e := wrongOf(u); e != api.OK {
			continue
		}
		b := filled(encoded(t, u), 77)
		if n%3 == 0 {
			b[n%len(b)]++
		}
		bytes := slices.Clone(b[:cap(b)])
		check.Accept(b)
		if !slices.Equal(b[:cap(b)], bytes) {
			t.Fatalf("%x, not %x", b[:cap(b)], bytes)
		}
	}
}

// R3: what stands in the room behind the end of what is handed in changes nothing.
func TestRoomIsNotRead(t *testing.T) {
	for _, u := range several(t) {
		holdAsWords(t, u)
		if _, e := wrongOf(u); e != api.OK {
			continue
		}
		b := encoded(t, u)
		if v, spot := check.Accept(filled(b, 77)); spot != (api.Spot{}) || !alike(u, v) {
			t.Errorf("%s: %s, %v", show(u), show(v), spot)
		}
		holdRefused(t, b[:len(b)-1], api.Spot{Err: api.ErrCode, At: len(b) - 1})
		v, e := check.Compile(u.K1, u.K2, u.Points)
		w, f := check.Compile(u.K1, u.K2, slices.Clone(u.Points))
		if e != f || !alike(v, w) {
			t.Errorf("%s, not %s", show(v), show(w))
		}
	}
}

// R3: what Raw and Compile answer is new memory: writing into each of its lists changes neither the others, nor what was handed in, nor what is answered later; nothing of what was handed in is kept.
func TestMadeIsNew(t *testing.T) {
	m := maker(1883)
	for range 60 {
		k1, k2, s := m.scheme(9)
		if m.below(3) == 0 {
			k2 = k1
			s = m.points(k1+k2-1, mostPoint)
		}
		l := filled(s, at(7, 7))
		for _, f := range makers() {
			u, _ := f(k1, k2, s)
			want := cloned(u)
			for range 2 {
				u, e := f(k1, k2, l)
				if e != api.OK {
					t.Fatalf("%d %d %v: %v", k1, k2, l, e)
				}
				holdOwn(t, u, want)
				if !slices.Equal(l, s) || l[:cap(l)][len(l)] != at(7, 7) {
					t.Fatalf("%v, not %v", l, s)
				}
			}
			v, _ := f(k1, k2, l)
			clear(l[:cap(l)])
			if !alike(v, want) {
				t.Fatalf("now %s, not %s", show(v), show(want))
			}
			l = filled(s, at(7, 7))
		}
	}
}

// R3: what Accept answers is new memory as well.
func TestAcceptedIsNew(t *testing.T) {
	for _, x := range right(t, 192, 30, 7) {
		b := filled(encoded(t, x), 77)
		was := slices.Clone(b)
		for range 2 {
			u, spot := check.Accept(b)
			if spot != (api.Spot{}) || !slices.Equal(b, was) {
				t.Fatalf("%x: %v", b, spot)
			}
			holdOwn(t, u, x)
		}
		u, _ := check.Accept(b)
		clear(b[:cap(b)])
		if !alike(u, x) {
			t.Fatalf("now %s, not %s", show(u), show(x))
		}
	}
}

// R3: what Passed tells is new memory as well: whoever is told may write into it, and what is told later is the same; the unit that was handed in is neither written into nor kept.
func TestPassedIsNew(t *testing.T) {
	for _, x := range right(t, 193, 8, 6) {
		want := wanted(x)
		u := roomy(x)
		was := state(u)
		all := check.Passed(u)
		for range 2 {
			n := 0
			for name, v := range all {
				if name != want[n].name {
					t.Fatalf("%s, not %s", name, want[n].name)
				}
				holdOwn(t, v, want[n].unit)
				n++
			}
			if now := state(u); now != was || n != len(want) {
				t.Fatalf("%d told, %s, not %s", n, now, was)
			}
		}
		wipe(u)
		n := 0
		for name, v := range all {
			if name != want[n].name || !alike(v, want[n].unit) {
				t.Fatalf("%s, %s, not %s, %s", name, show(v), want[n].name, show(want[n].unit))
			}
			wipe(v)
			n++
		}
	}
}

// R3: nil and empty lists are one.
func TestEmptyLists(t *testing.T) {
	u := api.Unit{K1: 1, K2: 1, Points: points(t, "inf"), Left: read(t, "in 1 regs 1 | out r0"), Right: read(t, "in 1 regs 1 | out r0"), Back: read(t, "in 1 regs 1 | out r0")}
	for _, code := range [][]api.Instr{nil, {}} {
		u.Left.Code, u.Right.Code, u.Back.Code = code, code, code
		holdWrong(t, u, 0, api.OK)
		if l := collect(u); len(l) != 12 {
			t.Errorf("%d told", len(l))
		}
	}
	for _, l := range [][]api.Point{nil, {}} {
		holdNone(t, 1, 1, l, api.ErrBadPoints)
		u.Points = l
		holdWrong(t, u, 0, api.ErrBadPoints)
	}
}

// R5: units, bytes and what Passed answers may be asked by several goroutines at one time.
func TestAtOneTime(t *testing.T) {
	u := raw(t, 3, 2, "0 1 -1 1/2")
	v := compiled(t, 3, 2, "0 1 -1 1/2")
	b := encoded(t, u)
	all := check.Passed(u)
	want := wanted(u)
	answers := make(chan bool)
	for range 8 {
		go func() {
			part, e := check.Unit(u)
			w, spot := check.Accept(b)
			r, f := check.Raw(3, 2, u.Points)
			c, g := check.Compile(3, 2, u.Points)
			fine := part == 0 && max(e, f, g, spot.Err) == api.OK && alike(u, w) && alike(u, r) && alike(v, c)
			n := 0
			for name, x := range all {
				fine = fine && name == want[n].name && alike(x, want[n].unit)
				wipe(x)
				n++
			}
			answers <- fine && n == len(want)
		}()
	}
	for range 8 {
		if !<-answers {
			t.Error("another answer")
		}
	}
}
