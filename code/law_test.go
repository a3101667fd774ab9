package code_test

import (
	"bytes"
	"fmt"
	"slices"
	"testing"

	"swage/api"
	"swage/code"
)

// encoded are a unit's bytes, which must be one that may be.
func encoded(t *testing.T, u api.Unit) []byte {
	t.Helper()
	b, e := code.Encode(u)
	if e != api.OK {
		t.Fatalf("Encode of %s: %v", show(u), e)
	}
	return b
}

// small are all units of a few: split counts, points and programs that differ little.
func small() []api.Unit {
	programs := []api.Prog{least(), plain(1, 1, 0, 2), plain(1, 2, 0, 1), plain(2, 2, 0, 1), plain(1, 1, 1, 1), {Ins: 1, Regs: 2, Outs: []int{1}}, {Ins: 1, Regs: 1, Code: []api.Instr{in(neg, 0, 0, 0, 0)}, Outs: []int{0}}}
	var l []api.Unit
	for _, points := range [][]api.Point{nil, {{}}, {{A: 1}}, {{B: 1}}, {{A: -1}}, {{A: 1, B: 1}, {A: 1}}, {{}, {}}} {
		for n := range len(programs) * len(programs) * len(programs) {
			p, q, r := programs[n%7], programs[n/7%7], programs[n/49]
			l = append(l, api.Unit{K1: 1 + n%2, K2: 1 + n%3, Points: points, Left: p, Right: q, Back: r})
		}
	}
	return l
}

// P17.4: units that are not the Same have unlike bytes, and no unit's bytes are the beginning of another one's: of bytes that stand in their order each is held against the next one.
func TestUnlikeBytes(t *testing.T) {
	l := append(small(), some(20000)...)
	for _, u := range changes(rich()) {
		if code.May(u) == api.OK {
			l = append(l, u)
		}
	}
	type told struct {
		u api.Unit
		b []byte
	}
	var all []told
	for _, u := range l {
		all = append(all, told{u, encoded(t, u)})
	}
	slices.SortFunc(all, func(x, y told) int { return bytes.Compare(x.b, y.b) })
	same := 0
	for k := 1; k < len(all); k++ {
		x, y := all[k-1], all[k]
		if equal := bytes.Equal(x.b, y.b); equal != code.Same(x.u, y.u) || bytes.HasPrefix(y.b, x.b) && !equal {
			t.Errorf("%s and %s: %s and %s", show(x.u), show(y.u), tell(x.b), tell(y.b))
		} else if equal {
			same++
		}
	}
	if len(all)-same < 15000 {
		t.Errorf("%d units, %d of them the same", len(all), same)
	}
}

// P17.4: a unit one part of which is changed has other bytes, and neither ones are the beginning of the others.
func TestChangedUnits(t *testing.T) {
	tried := 0
	b := encoded(t, rich())
	for name, v := range changes(rich()) {
		if code.May(v) != api.OK {
			continue
		}
		tried++
		if c := encoded(t, v); bytes.HasPrefix(b, c) || bytes.HasPrefix(c, b) {
			t.Errorf("%s: %s and %s", name, tell(b), tell(c))
		}
	}
	if tried < 50 {
		t.Errorf("%d changes", tried)
	}
}

// P17.5: a unit's bytes of which one is changed are refused, at that place or behind it.
func TestOneByteChanged(t *testing.T) {
	for n, u := range some(300) {
		b := encoded(t, u)
		if n > 100 && len(b) > 400 { // such long ones take long
			continue
		}
		l := slices.Clone(b)
		for at := range b {
			for _, by := range []byte{1, 2, 15, 16, 127, 128, 129, 254, 255} {
				l[at] = b[at] + by
				holdRefusedFrom(t, l, at)
			}
			l[at] = b[at]
		}
	}
}

// holdRefusedFrom tells what is wrong, unless Decode refuses these bytes at this place, or behind it.
func holdRefusedFrom(t *testing.T, b []byte, at int) {
	t.Helper()
	if u, spot := code.Decode(b); !zero(u) || spot.Err != api.ErrCode || spot.At < at || spot.At > len(b) {
		t.Errorf("Decode of %s, changed at %d: %s, %v", tell(b), at, show(u), spot)
	}
}

// P17.5: of many bytes, too, where the number is no multiple of 65521.
func TestOneOfManyChanged(t *testing.T) {
	for _, u := range long() {
		b := encoded(t, u)
		var places []int
		for at := 0; at < len(b); at += 1 + at%1999 {
			places = append(places, at)
		}
		for n := rest; n < len(b); n += rest {
			places = append(places, n-3, n-2, n, n+1)
		}
		places = append(places, len(b)-4, len(b)-3, len(b)-2, len(b)-1)
		l := slices.Clone(b)
		for k, at := range places {
			if (at+1)%rest == 0 {
				continue
			}
			l[at] = b[at] + []byte{1, 255, 128}[k%3]
			holdRefusedFrom(t, l, at)
			l[at] = b[at]
		}
	}
}

// straddling are units of more than 65521 bytes, with each part of an instruction at the place that P17.5 leaves out.
func straddling() []api.Unit {
	var l []api.Unit
	for points := range 3 {
		for outs := 1; outs <= 2; outs++ {
			for _, i := range []api.Instr{in(add, 9, 9, 9, 0), in(mul, 5, 4, 0, 511), in(div, 5, 4, 0, -512), in(shr, 127, 0, 0, 64), in(neg, 0, 1, 0, 0)} {
				u := example()
				u.Points = make([]api.Point, points)
				u.Left.Outs = make([]int, outs)
				u.Right = api.Prog{Ins: 1, Regs: mostRegs, Code: slices.Repeat([]api.Instr{i}, 12000), Outs: []int{0}}
				l = append(l, u)
			}
		}
	}
	return l
}

// P17.5: the place that it leaves out is taken for what it is: where the other byte may stand there it is the other unit.
func TestPlaceLeftOut(t *testing.T) {
	j := newJudge()
	parts := map[string]int{}
	for _, u := range straddling() {
		b := encoded(t, u)
		for _, c := range []byte{0, 1, 2, 3, 4, 5, 8, 9, 64, 65, 127, 128, 240, 253, 254, 255} {
			l := slices.Clone(b)
			l[rest-1] = c
			if !holdJudged(t, j, l) {
				parts["none"]++
				continue
			}
			v, _ := code.Decode(l)
			if code.Same(u, v) != (l[rest-1] == b[rest-1]) {
				t.Errorf("%s with a %d at %d: %s", show(u), c, rest-1, show(v))
			}
			for k, i := range v.Right.Code {
				if was := u.Right.Code[k]; i != was {
					parts[changed(was, i)]++
				}
			}
		}
	}
	for _, part := range []string{"none", "Op", "To", "A", "B", "C"} {
		if parts[part] == 0 {
			t.Errorf("no %s among %v", part, parts)
		}
	}
}

// changed is the part by which two instructions differ.
func changed(i, j api.Instr) string {
	switch {
	case i.Op != j.Op:
		return "Op"
	case i.To != j.To:
		return "To"
	case i.A != j.A:
		return "A"
	case i.B != j.B:
		return "B"
	}
	return "C"
}

// P17.5: at the other multiples of 65521 as well.
func TestPlacesLeftOut(t *testing.T) {
	j := newJudge()
	b := encoded(t, long()[1])
	fine, none := 0, 0
	for n := rest; n <= len(b); n += rest {
		for c := 0; c < 256; c += 15 {
			l := slices.Clone(b)
			l[n-1] = byte(c)
			if holdJudged(t, j, l) {
				fine++
			} else {
				none++
			}
		}
	}
	if fine == 0 || none == 0 {
		t.Errorf("%d units, %d that are none", fine, none)
	}
}

// filled is a list with room behind its end, in which something stands.
func filled[T any](l []T, with T) []T {
	return append(slices.Clone(l), slices.Repeat([]T{with}, 9)...)[:len(l)]
}

// roomy is a unit whose lists have such room.
func roomy(u api.Unit) api.Unit {
	u.Points = filled(u.Points, api.Point{A: 7, B: 7})
	for _, p := range sides(&u) {
		p.Code, p.Outs = filled(p.Code, in(7, 7, 7, 7, 7)), filled(p.Outs, 7)
	}
	return u
}

// state is all that stands in a unit, and in the room of its lists.
func state(u api.Unit) string {
	s := fmt.Sprint(u.K1, u.K2, len(u.Points), u.Points[:cap(u.Points)])
	for _, p := range sides(&u) {
		s += fmt.Sprint(" ", p.Ins, p.Regs, len(p.Code), p.Code[:cap(p.Code)], len(p.Outs), p.Outs[:cap(p.Outs)])
	}
	return s
}

// R3: what is handed in stays as it is, the room behind its end too.
func TestListsStay(t *testing.T) {
	l := append(some(1500), wrongHeads()...)
	for _, p := range wrongPrograms() {
		u := rich()
		u.Right = p
		l = append(l, u)
	}
	for _, x := range l {
		u, v := roomy(x), roomy(rich())
		was, other := state(u), state(v)
		code.May(u)
		code.Encode(u)
		code.Same(u, v)
		code.Same(v, u)
		code.Same(u, u)
		if now := state(u); now != was || state(v) != other {
			t.Fatalf("%s, not %s", now, was)
		}
	}
	for k, u := range some(1500) {
		b := filled(bytesOf(u), 77)
		if k%3 == 0 {
			b[k%len(b)]++
		}
		was := slices.Clone(b[:cap(b)])
		code.Decode(b)
		if !slices.Equal(b[:cap(b)], was) {
			t.Fatalf("%x, not %x", b[:cap(b)], was)
		}
	}
}

// R3: what stands in the room behind the end of what is handed in changes nothing.
func TestRoomIsNotRead(t *testing.T) {
	for _, u := range some(500) {
		b := bytesOf(u)
		holdBytes(t, roomy(u), filled(b, 77))
		holdNone(t, "the rest in the room", b[:len(b)-1], len(b)-1)
	}
}

// spoil writes into all memory of a list, behind its end too, where nothing may have stood.
func spoil[T comparable](t *testing.T, l []T, with T) {
	t.Helper()
	var nothing T
	for k, v := range l[:cap(l)] {
		if k >= len(l) && v != nothing {
			t.Errorf("behind the end: %v", v)
		}
		l[:cap(l)][k] = with
	}
}

// R3: the lists that are answered are new memory, the room behind their ends too: writing into each of them changes neither the others, nor what was handed in, nor what is answered later; nothing of what was handed in is kept.
func TestListsAreNew(t *testing.T) {
	for _, x := range some(1500) {
		want := bytesOf(x)
		u := roomy(x)
		was := state(u)
		for range 2 {
			b := encoded(t, u)
			if !slices.Equal(b, want) || state(u) != was {
				t.Fatalf("Encode of %s: %s, not %s", show(u), tell(b), tell(want))
			}
			spoil(t, b, 99)
		}
		b := encoded(t, u)
		clear(u.Points[:cap(u.Points)])
		for _, p := range sides(&u) {
			clear(p.Code[:cap(p.Code)])
			clear(p.Outs[:cap(p.Outs)])
		}
		if !slices.Equal(b, want) {
			t.Fatalf("now %s, not %s", tell(b), tell(want))
		}
		for k := range 7 {
			v, _ := code.Decode(b)
			if !alike(v, x) || !slices.Equal(b, want) {
				t.Fatalf("Decode of %s: %s, not %s", tell(b), show(v), show(x))
			}
			holdOthersStay(t, v, k)
		}
		v, _ := code.Decode(b)
		clear(b[:cap(b)])
		if !alike(v, x) {
			t.Fatalf("now %s, not %s", show(v), show(x))
		}
	}
}

// holdOthersStay writes into one list of a unit, by its number, and tells what is wrong, if another one is no longer as it was.
func holdOthersStay(t *testing.T, u api.Unit, k int) {
	t.Helper()
	want := cloned(u)
	switch p, q := sides(&u)[k%3], sides(&want)[k%3]; {
	case k == 6:
		spoil(t, u.Points, api.Point{A: -9, B: -9})
		copy(want.Points, u.Points)
	case k < 3:
		spoil(t, p.Code, in(-9, -9, -9, -9, -9))
		copy(q.Code, p.Code)
	default:
		spoil(t, p.Outs, -9)
		copy(q.Outs, p.Outs)
	}
	if !alike(u, want) {
		t.Fatalf("%s, not %s", show(u), show(want))
	}
}

// R5: a unit and its bytes may be asked by several goroutines at one time.
func TestAtOneTime(t *testing.T) {
	u := rich()
	want := bytesOf(u)
	answers := make(chan bool)
	for range 8 {
		go func() {
			fine := true
			for range 50 {
				b, e := code.Encode(u)
				v, spot := code.Decode(want)
				fine = fine && e == api.OK && slices.Equal(b, want) && spot == (api.Spot{}) && code.Same(u, v) && code.May(u) == api.OK
			}
			answers <- fine
		}()
	}
	for range 8 {
		if !<-answers {
			t.Error("another answer")
		}
	}
}
