package code_test

import (
	"slices"
	"testing"

	"swage/api"
	"swage/code"
	"swage/eval"
	"swage/order"
	"swage/point"
	"swage/synth"
)

// holdRefused tells what is wrong, unless May and Encode answer this error of a unit, and no bytes.
func holdRefused(t *testing.T, u api.Unit, want api.Errno) {
	t.Helper()
	if e := code.May(u); e != want {
		t.Errorf("May of %s: %v, not %v", show(u), e, want)
	}
	if b, e := code.Encode(u); len(b) != 0 || e != want {
		t.Errorf("Encode of %s: %s, %v, not %v", show(u), tell(b), e, want)
	}
}

// holdBytes tells what is wrong, unless a unit may be, and these are its bytes, and it is what they are decoded to.
func holdBytes(t *testing.T, u api.Unit, want []byte) {
	t.Helper()
	if e := code.May(u); e != api.OK {
		t.Errorf("May of %s: %v", show(u), e)
	}
	if b, e := code.Encode(u); !slices.Equal(b, want) || e != api.OK {
		t.Errorf("Encode of %s: %s, %v, not %s", show(u), tell(b), e, tell(want))
	}
	v, spot := code.Decode(want)
	if !alike(u, v) || spot != (api.Spot{}) || !code.Same(u, v) {
		t.Errorf("Decode of %s: %s, %v, not %s", tell(want), show(v), spot, show(u))
	}
	if b, e := code.Encode(v); !slices.Equal(b, want) || e != api.OK {
		t.Errorf("Encode of what was decoded: %s, %v, not %s", tell(b), e, tell(want))
	}
}

// P17.1, P17.2, P17.3: the chapter's examples.
func TestExamples(t *testing.T) {
	holdBytes(t, example(), []byte{0x41, 0x4e, 0x56, 0x31, 1, 1, 1, 0, 1, 1, 1, 0, 0, 1, 0, 1, 1, 0, 0, 1, 0, 1, 1, 0, 0, 1, 0, 3, 0x5d})
	u := example()
	u.K1 = 0
	holdRefused(t, u, api.ErrArg)
	u = example()
	u.Points[0].A = 17
	holdRefused(t, u, api.ErrArg)
	u = example()
	u.Left.Outs = nil
	holdRefused(t, u, api.ErrProg)
}

// P17.1, P17.2: split counts from 1 to MaxParts, and no others.
func TestParts(t *testing.T) {
	for _, n := range append(extremes(), 2, 3, 4, 5, 6, 7, 8, 9, 10, 16, 255, 257) {
		for _, k := range []int{1, 5, mostParts} {
			for _, both := range [][2]int{{n, k}, {k, n}, {n, n}} {
				u := rich()
				u.K1, u.K2 = both[0], both[1]
				if n < 1 || n > mostParts {
					holdRefused(t, u, api.ErrArg)
				} else {
					holdBytes(t, u, bytesOf(u))
				}
			}
		}
	}
}

// P17.1, P17.2: each coordinate from -MaxPoint to MaxPoint, and no other one, at the first point and at the last one.
func TestCoordinates(t *testing.T) {
	l := extremes()
	for n := -260; n <= 260; n++ {
		l = append(l, n)
	}
	for _, n := range l {
		for k := range 8 {
			u := rich()
			if k%2 == 0 {
				u.Points[k/2].A = n
			} else {
				u.Points[k/2].B = n
			}
			if n < -mostPoint || n > mostPoint {
				holdRefused(t, u, api.ErrArg)
			} else {
				holdBytes(t, u, bytesOf(u))
			}
		}
	}
}

// P17.1, P17.2: from 0 to 255 points, which may be none, and one as often as they will.
func TestPoints(t *testing.T) {
	for n := range 260 {
		for _, p := range []api.Point{{}, {A: -16, B: -16}, {A: 16, B: -1}} {
			u := example()
			u.Points = slices.Repeat([]api.Point{p}, n)
			if n > mostPoints {
				holdRefused(t, u, api.ErrArg)
				continue
			}
			holdBytes(t, u, bytesOf(u))
			if n > 0 {
				u.Points[n-1] = api.Point{A: 0, B: 17}
				holdRefused(t, u, api.ErrArg)
			}
		}
	}
}

// P17.1: programs that may not be, in each place: ErrProg; with a head that may not be: ErrArg, ahead of it.
func TestWrong(t *testing.T) {
	heads := wrongHeads()
	for _, u := range heads {
		holdRefused(t, u, api.ErrArg)
	}
	for n, p := range wrongPrograms() {
		for k := range 3 {
			u := rich()
			*sides(&u)[k] = p
			holdRefused(t, u, api.ErrProg)
			head := heads[(3*n+k)%len(heads)]
			u.K1, u.K2, u.Points = head.K1, head.K2, head.Points
			holdRefused(t, u, api.ErrArg)
		}
	}
	u := rich()
	u.Left, u.Right, u.Back = api.Prog{}, api.Prog{}, api.Prog{}
	holdRefused(t, u, api.ErrProg)
}

// P17.1, P17.2: each operation, with each constant, and with those that it may not have.
func TestConstants(t *testing.T) {
	for op := move; op <= shr; op++ {
		fine := constants(op)
		for _, c := range append(extremes(), fine...) {
			for _, k := range []int{0, 1, 2} {
				u := rich()
				p := sides(&u)[k]
				p.Code[1] = in(op, 1, 3, 0, c)
				if slices.Contains(fine, c) {
					holdBytes(t, u, bytesOf(u))
				} else {
					holdRefused(t, u, api.ErrProg)
				}
			}
		}
	}
}

// P17.1, P17.2: inputs and registers up to the last one, in each place of an instruction and in the outs.
func TestRegisters(t *testing.T) {
	for regs := 1; regs <= mostRegs+2; regs++ {
		for _, ins := range []int{0, 1, regs - 1, regs, regs + 1} {
			for op := move; op <= shr; op++ {
				r := regs - 1
				i := in(op, r, r, 0, constants(op)[0])
				if asksBoth(op) {
					i.B = r
				}
				u := example()
				p := sides(&u)[op%3]
				*p = api.Prog{Ins: ins, Regs: regs, Code: []api.Instr{i}, Outs: []int{r}}
				if ins < 1 || ins > regs || regs > mostRegs {
					holdRefused(t, u, api.ErrProg)
				} else {
					holdBytes(t, u, bytesOf(u))
				}
			}
		}
	}
}

// P17.1, P17.2: how many outs, and how many instructions, there may be.
func TestLengths(t *testing.T) {
	for n := range mostRegs + 3 {
		for k := range 3 {
			u := rich()
			p := sides(&u)[k]
			p.Outs = slices.Repeat([]int{p.Regs - 1}, n)
			if n < 1 || n > mostRegs {
				holdRefused(t, u, api.ErrProg)
			} else {
				holdBytes(t, u, bytesOf(u))
			}
		}
	}
	for _, n := range []int{0, 1, 2, 254, 255, 256, 257, 511, 512, 16127, 16128, mostCode - 1, mostCode, mostCode + 1, 65535, 65536} {
		for k := range 3 {
			u := rich()
			p := sides(&u)[k]
			p.Code = slices.Repeat([]api.Instr{in(mul, 1, 2, 0, -512)}, n)
			if n > mostCode {
				holdRefused(t, u, api.ErrProg)
			} else {
				holdBytes(t, u, bytesOf(u))
			}
		}
	}
}

// P17.2: bytes that are written out, of a unit whose numbers go below 0, and need both bytes.
func TestWrittenOut(t *testing.T) {
	u := api.Unit{K1: 8, K2: 3, Points: []api.Point{{A: -16, B: 16}, {A: 1, B: -1}}}
	u.Left = read(t, "in 2 regs 128 | r2 = r0 + r1 | r3 = r2 * -512 | r4 = r3 / 512 | r5 = r4 / -1 | r127 = r5 << 64 | r126 = r127 >> 1 | out r127 r0")
	u.Right = read(t, "in 3 regs 3 | r2 = r1 - r2 | r0 = -r1 | r1 = r0 | r1 = r1 * 257 | r1 = r1 / -257 | r1 = r1 * 255 | r1 = r1 * -256 | out r2")
	u.Back = read(t, "in 128 regs 128 | out r5 r4 r127")
	want := []byte{0x41, 0x4e, 0x56, 0x31, 8, 3, 2, 240, 16, 1, 255,
		2, 128, 0, 6, 3, 2, 0, 1, 0, 0, 5, 3, 2, 0, 0xfe, 0, 6, 4, 3, 0, 2, 0, 6, 5, 4, 0, 0xff, 0xff, 7, 127, 5, 0, 0, 64, 8, 126, 127, 0, 0, 1, 2, 127, 0,
		3, 3, 0, 7, 4, 2, 1, 2, 0, 0, 2, 0, 1, 0, 0, 0, 1, 1, 0, 0, 0, 0, 5, 1, 1, 0, 1, 1, 6, 1, 1, 0, 0xfe, 0xff, 5, 1, 1, 0, 0, 0xff, 5, 1, 1, 0, 0xff, 0, 1, 2,
		128, 128, 0, 0, 3, 5, 4, 127}
	sum := 0
	for k, c := range want {
		sum += (k + 1) * int(c)
	}
	if sum < 2*rest {
		t.Errorf("the sum of the check is %d alone", sum)
	}
	holdBytes(t, u, append(want, byte(sum%65521/256), byte(sum%65521%256)))
}

// P17.2, P17.3, P17.4: units drawn at random, and those whose bytes are many.
func TestBytes(t *testing.T) {
	within, beyond := 0, 0
	for _, u := range append(some(6000), long()...) {
		b := bytesOf(u)
		holdBytes(t, u, b)
		sum := 0
		for k, c := range b[:len(b)-2] {
			sum += (k + 1) * int(c)
		}
		if sum < rest {
			within++
		} else {
			beyond++
		}
	}
	if within < 1000 || beyond < 1000 {
		t.Errorf("%d checks whose sum is below 65521, %d others", within, beyond)
	}
}

// P17.2, P17.3: the check at both its ends, and where one of its bytes is at its end.
func TestCheckEnds(t *testing.T) {
	m := maker(521)
	wanted := map[int]bool{0: true, 1: true, 255: true, 256: true, 257: true, 32767: true, 32768: true, 65279: true, 65280: true, 65519: true, 65520: true}
	u := example()
	u.Points = make([]api.Point, 30)
	for tries := 0; len(wanted) > 0 && tries < 3000000; tries++ {
		u.Points[m.below(30)] = api.Point{A: m.coordinate(), B: m.coordinate()}
		b := bodyOf(u)
		c := checkOf(b)
		if n := int(c[0])*256 + int(c[1]); wanted[n] {
			delete(wanted, n)
			holdBytes(t, u, slices.Concat(b, c))
		}
	}
	if len(wanted) > 0 {
		t.Errorf("no unit whose check is one of %v", wanted)
	}
}

// P17.2, P17.3: units whose programs evaluate and interpolate, as they are made for points, and with their registers given anew.
func TestMadeUnits(t *testing.T) {
	for _, x := range []struct {
		k1, k2 int
		points string
	}{{1, 1, "inf"}, {2, 2, "0 1 inf"}, {2, 2, "0 1 -1"}, {3, 2, "0 1 -1 inf"}, {3, 3, "0 1 -1 2 inf"}, {4, 4, "0 1 -1 2 -2 1/2 inf"}, {8, 8, "0 1 -1 2 -2 1/2 -1/2 3 -3 1/3 -1/3 4 -4 16/15 inf"}} {
		points, spot := point.Read(x.points)
		left, e1 := eval.Program(x.k1, points)
		right, e2 := eval.Program(x.k2, points)
		back, e3 := synth.Program(points)
		if spot != (api.Spot{}) || e1 != api.OK || e2 != api.OK || e3 != api.OK {
			t.Fatalf("%s: %v %v %v %v", x.points, spot, e1, e2, e3)
		}
		u := api.Unit{K1: x.k1, K2: x.k2, Points: points, Left: left, Right: right, Back: back}
		holdBytes(t, u, bytesOf(u))
		for _, p := range sides(&u) {
			*p, _ = order.All(*p)
		}
		holdBytes(t, u, bytesOf(u))
	}
}
