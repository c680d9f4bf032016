package tests

import (
	"slices"
	"testing"

	"loop.example/casemate/impl"
)

// sameState says whether two machines are the same.
func sameState(a impl.VmState, b impl.VmState) bool {
	return a.Pc == b.Pc && a.Halt == b.Halt && slices.Equal(a.Regs, b.Regs) && slices.Equal(a.Mem, b.Mem)
}

func sameAsk(a impl.VmAsk, b impl.VmAsk) bool {
	return a.Kind == b.Kind && a.Way == b.Way && same(a.Bytes, b.Bytes) && a.At == b.At && a.Reg == b.Reg && a.Flag == b.Flag
}

func copyState(s impl.VmState) impl.VmState {
	s.Regs = slices.Clone(s.Regs)
	s.Mem = slices.Clone(s.Mem)
	return s
}

// machine is a machine that runs.
func machine(pc int, regs [4]int, mem [8]int) impl.VmState {
	return impl.VmState{Pc: pc, Regs: regs[:], Mem: mem[:]}
}

// drawState is a machine that is ok, with numbers at the bounds more often than others.
func drawState(d *draw) impl.VmState {
	s := impl.VmState{Pc: d.below(25)}
	for range 4 {
		s.Regs = append(s.Regs, []int{0, 1, 2, 6, 7, 8, 9, 127, 128, 254, 255, d.below(9), d.below(256)}[d.below(13)])
	}
	for range 8 {
		s.Mem = append(s.Mem, []int{0, 255, d.below(256)}[d.below(3)])
	}
	if d.below(8) == 0 {
		s.Halt = 1 + d.below(2)
	}
	return s
}

// wrongStates are machines of which just one part is not ok.
func wrongStates() []impl.VmState {
	good := machine(3, [4]int{0, 8, 255, 1}, [8]int{9, 0, 255, 3, 4, 5, 6, 7})
	var out []impl.VmState
	change := func(how func(s *impl.VmState)) {
		s := copyState(good)
		how(&s)
		out = append(out, s)
	}
	for _, far := range append([]int{-1, 25, 26}, farInts...) {
		change(func(s *impl.VmState) { s.Pc = far })
	}
	for _, far := range append([]int{-1, 3, 4}, farInts...) {
		change(func(s *impl.VmState) { s.Halt = far })
	}
	for _, far := range append([]int{-1, -256, 256, 257}, farInts...) {
		for k := range 4 {
			change(func(s *impl.VmState) { s.Regs[k] = far })
		}
		for k := range 8 {
			change(func(s *impl.VmState) { s.Mem[k] = far })
		}
	}
	for _, size := range []int{0, 1, 3, 5, 8, 260} {
		change(func(s *impl.VmState) { s.Regs = make([]int, size) })
	}
	for _, size := range []int{0, 1, 4, 7, 9, 264} {
		change(func(s *impl.VmState) { s.Mem = make([]int, size) })
	}
	change(func(s *impl.VmState) { s.Regs = nil })
	change(func(s *impl.VmState) { s.Mem = nil })
	change(func(s *impl.VmState) { *s = impl.VmState{} })
	return out
}

func TestMachineValues(t *testing.T) {
	if impl.VmRuns != 0 || impl.VmStopped != 1 || impl.VmFell != 2 {
		t.Error(impl.VmRuns, impl.VmStopped, impl.VmFell)
	}
	if impl.VmNothing != 0 || impl.VmSends != 1 || impl.VmTakes != 2 || impl.VmReads != 3 || impl.VmTells != 4 || impl.VmYields != 5 {
		t.Error(impl.VmNothing, impl.VmSends, impl.VmTakes, impl.VmReads, impl.VmTells, impl.VmYields)
	}
}

func TestMachineNew(t *testing.T) {
	if s := impl.VmNew(); !sameState(s, machine(0, [4]int{}, [8]int{})) || !impl.VmOk(s) {
		t.Error(s, impl.VmOk(s))
	}
}

func TestP53Ok(t *testing.T) {
	for pc := 0; pc <= 24; pc++ {
		for halt := 0; halt <= 2; halt++ {
			s := machine(pc, [4]int{0, 255, 0, 255}, [8]int{255, 0, 255, 0, 255, 0, 255, 0})
			s.Halt = halt
			if !impl.VmOk(s) {
				t.Error(s, "is not ok")
			}
		}
	}
	for _, s := range wrongStates() {
		if impl.VmOk(s) {
			t.Error(s, "is ok")
		}
	}
}

func plainFell(s impl.VmState) (impl.VmState, impl.VmAsk) {
	s = copyState(s)
	s.Halt = 2
	return s, impl.VmAsk{}
}

// plainStep is a step of a machine that is ok, by a program that is, line by line as the document has it.
func plainStep(s impl.VmState, code []impl.VmOrder) (impl.VmState, impl.VmAsk) {
	was := s
	s = copyState(s)
	if s.Halt != 0 {
		return s, impl.VmAsk{}
	}
	if s.Pc >= len(code) {
		s.Halt = 1
		return s, impl.VmAsk{}
	}
	o, r := code[s.Pc], s.Regs
	ask := impl.VmAsk{}
	s.Pc++
	switch o.Op {
	case 1:
		r[o.A] = o.B
	case 2:
		r[o.A] = r[o.B]
	case 3:
		r[o.A] = (r[o.A] + r[o.B]) % 256
	case 4:
		r[o.A] = (r[o.A] - r[o.B] + 256) % 256
	case 5:
		less := map[bool]int{true: 1}
		r[o.A] = less[r[o.B] < r[o.C]]
	case 6:
		if r[o.B] >= 8 {
			return plainFell(was)
		}
		r[o.A] = s.Mem[r[o.B]]
	case 7:
		if r[o.A] >= 8 {
			return plainFell(was)
		}
		s.Mem[r[o.A]] = r[o.B]
	case 8:
		if r[o.B] == 0 {
			s.Pc = o.A
		}
	case 9:
		if r[o.B]+r[o.C] > 8 {
			return plainFell(was)
		}
		ask = impl.VmAsk{Kind: 1, Way: o.A, Reg: o.B}
		for k := range r[o.C] {
			ask.Bytes = append(ask.Bytes, byte(s.Mem[r[o.B]+k]))
		}
	case 10:
		ask = impl.VmAsk{Kind: 2, Way: o.A, At: r[o.B], Reg: o.C}
	case 11:
		ask = impl.VmAsk{Kind: 3, Reg: o.A, Flag: o.B}
	case 12:
		ask = impl.VmAsk{Kind: 4, Bytes: []byte{byte(r[o.A])}}
	case 13:
		ask = impl.VmAsk{Kind: 5}
	case 14:
		s.Pc--
		s.Halt = 1
	}
	return s, ask
}

// checkStep holds a step against the plain one.
func checkStep(t *testing.T, s impl.VmState, code []impl.VmOrder) (impl.VmState, impl.VmAsk) {
	t.Helper()
	got, ask := impl.VmStep(s, code)
	want, wants := plainStep(s, code)
	if !sameState(got, want) || !sameAsk(ask, wants) {
		t.Fatalf("%v by %v\nis   %v %v\nnot  %v %v", s, code[min(s.Pc, len(code)):], got, ask, want, wants)
	}
	return got, ask
}

// codeWith is a program that is ok, with an order that is ok at a place.
func codeWith(o impl.VmOrder, at int) []impl.VmOrder {
	code := yields(24)
	code[at] = o
	return code
}

func TestMachineEachOrder(t *testing.T) {
	d := &draw{x: 53}
	for _, o := range okOrders() {
		for range 60 {
			s := drawState(d)
			checkStep(t, s, codeWith(o, s.Pc%24))
		}
	}
}

// behind checks a step by a program of one order, and what stands behind it.
func behind(t *testing.T, line string, s impl.VmState, want impl.VmState, wants impl.VmAsk) {
	t.Helper()
	o, ok := impl.CodRead(line)
	if !ok {
		t.Fatal(line, "is not read")
	}
	got, ask := impl.VmStep(s, []impl.VmOrder{o})
	if !sameState(got, want) || !sameAsk(ask, wants) {
		t.Errorf("%q at %v: %v %v, not %v %v", line, s, got, ask, want, wants)
	}
}

func TestMachineNumbers(t *testing.T) {
	none := impl.VmAsk{}
	mem := [8]int{10, 11, 12, 13, 14, 15, 16, 17}
	s := machine(0, [4]int{200, 56, 55, 255}, mem)
	behind(t, "set 3 0", s, machine(1, [4]int{200, 56, 55, 0}, mem), none)
	behind(t, "set 0 255", s, machine(1, [4]int{255, 56, 55, 255}, mem), none)
	behind(t, "move 1 0", s, machine(1, [4]int{200, 200, 55, 255}, mem), none)
	behind(t, "move 2 2", s, machine(1, [4]int{200, 56, 55, 255}, mem), none)
	behind(t, "add 0 1", s, machine(1, [4]int{0, 56, 55, 255}, mem), none)
	behind(t, "add 0 2", s, machine(1, [4]int{255, 56, 55, 255}, mem), none)
	behind(t, "add 3 3", s, machine(1, [4]int{200, 56, 55, 254}, mem), none)
	behind(t, "sub 2 1", s, machine(1, [4]int{200, 56, 255, 255}, mem), none)
	behind(t, "sub 1 2", s, machine(1, [4]int{200, 1, 55, 255}, mem), none)
	behind(t, "sub 0 0", s, machine(1, [4]int{0, 56, 55, 255}, mem), none)
	behind(t, "less 3 2 1", s, machine(1, [4]int{200, 56, 55, 1}, mem), none)
	behind(t, "less 3 1 2", s, machine(1, [4]int{200, 56, 55, 0}, mem), none)
	behind(t, "less 0 0 0", s, machine(1, [4]int{0, 56, 55, 255}, mem), none)
	behind(t, "less 1 1 0", s, machine(1, [4]int{200, 1, 55, 255}, mem), none)
}

func TestMachineMemoryBounds(t *testing.T) {
	none := impl.VmAsk{}
	mem := [8]int{10, 11, 12, 13, 14, 15, 16, 17}
	last, past := machine(0, [4]int{7, 99, 0, 0}, mem), machine(0, [4]int{8, 99, 0, 0}, mem)
	behind(t, "load 2 0", last, machine(1, [4]int{7, 99, 17, 0}, mem), none)
	behind(t, "load 0 0", last, machine(1, [4]int{17, 99, 0, 0}, mem), none)
	behind(t, "load 1 2", last, machine(1, [4]int{7, 10, 0, 0}, mem), none)
	stored := mem
	stored[7] = 99
	behind(t, "store 0 1", last, machine(1, [4]int{7, 99, 0, 0}, stored), none)
	for _, line := range []string{"load 2 0", "load 0 0", "load 2 1", "store 0 1", "store 0 0", "store 1 2"} {
		fell := copyState(past)
		fell.Halt = impl.VmFell
		behind(t, line, past, fell, none)
	}
	far := machine(0, [4]int{255, 99, 0, 0}, mem)
	fell := copyState(far)
	fell.Halt = impl.VmFell
	behind(t, "load 2 0", far, fell, none)
	behind(t, "store 0 2", far, fell, none)
}

func TestMachineSendBounds(t *testing.T) {
	mem := [8]int{10, 11, 12, 13, 14, 15, 16, 255}
	all := []byte{10, 11, 12, 13, 14, 15, 16, 255}
	for at := 0; at <= 255; at++ {
		for _, size := range []int{0, 1, 2, 7, 8, 9, 255} {
			s := machine(0, [4]int{at, size, 0, 0}, mem)
			if at+size > 8 {
				fell := copyState(s)
				fell.Halt = impl.VmFell
				behind(t, "send 9 0 1", s, fell, impl.VmAsk{})
				continue
			}
			behind(t, "send 9 0 1", s, machine(1, [4]int{at, size, 0, 0}, mem), impl.VmAsk{Kind: impl.VmSends, Way: 9, Bytes: all[at : at+size]})
		}
	}
	s := machine(0, [4]int{0, 0, 4, 0}, mem)
	behind(t, "send 0 2 2", s, machine(1, [4]int{0, 0, 4, 0}, mem), impl.VmAsk{Kind: impl.VmSends, Bytes: all[4:], Reg: 2})
}

func TestMachineAsks(t *testing.T) {
	mem := [8]int{10, 11, 12, 13, 14, 15, 16, 17}
	s := machine(0, [4]int{200, 8, 255, 0}, mem)
	on := copyState(s)
	on.Pc = 1
	behind(t, "take 9 2 3", s, on, impl.VmAsk{Kind: impl.VmTakes, Way: 9, At: 255, Reg: 3})
	behind(t, "take 0 1 1", s, on, impl.VmAsk{Kind: impl.VmTakes, At: 8, Reg: 1})
	behind(t, "read 1 3", s, on, impl.VmAsk{Kind: impl.VmReads, Reg: 1, Flag: 3})
	behind(t, "read 2 2", s, on, impl.VmAsk{Kind: impl.VmReads, Reg: 2, Flag: 2})
	behind(t, "tell 2", s, on, impl.VmAsk{Kind: impl.VmTells, Bytes: []byte{255}})
	behind(t, "tell 3", s, on, impl.VmAsk{Kind: impl.VmTells, Bytes: []byte{0}})
	behind(t, "yield", s, on, impl.VmAsk{Kind: impl.VmYields})
	stopped := copyState(s)
	stopped.Halt = impl.VmStopped
	behind(t, "stop", s, stopped, impl.VmAsk{})
}

func TestMachineJumps(t *testing.T) {
	for size := 1; size <= 24; size++ {
		for at := range size {
			for to := 0; to <= size+1 && to <= 24; to++ {
				code := yields(size)
				code[at] = impl.VmOrder{Op: impl.VmJump, A: to, B: 1}
				for _, n := range []int{0, 1, 255} {
					s := machine(at, [4]int{9, n, 9, 9}, [8]int{})
					want := copyState(s)
					want.Pc = at + 1
					if n == 0 {
						want.Pc = to
					}
					if to > size {
						want = impl.VmState{}
					}
					if got, ask := impl.VmStep(s, code); !sameState(got, want) || !sameAsk(ask, impl.VmAsk{}) {
						t.Fatalf("a jump at %d of %d to %d with %d: %v %v", at, size, to, n, got, ask)
					}
				}
			}
		}
	}
}

func TestMachinePastTheEnd(t *testing.T) {
	for size := 0; size <= 24; size++ {
		for pc := 0; pc <= 24; pc++ {
			s := machine(pc, [4]int{1, 2, 3, 4}, [8]int{5, 6, 7, 8})
			want, wants := copyState(s), impl.VmAsk{}
			if pc < size {
				want.Pc++
				wants.Kind = impl.VmYields
			} else {
				want.Halt = impl.VmStopped
			}
			if got, ask := impl.VmStep(s, yields(size)); !sameState(got, want) || !sameAsk(ask, wants) {
				t.Fatalf("at %d of %d: %v %v", pc, size, got, ask)
			}
		}
	}
}

func TestMachineStepNothing(t *testing.T) {
	check := func(s impl.VmState, code []impl.VmOrder) {
		t.Helper()
		if got, ask := impl.VmStep(s, code); !sameState(got, impl.VmState{}) || !sameAsk(ask, impl.VmAsk{}) {
			t.Fatalf("%v by %v: %v %v", s, code, got, ask)
		}
	}
	for _, s := range wrongStates() {
		check(s, yields(24))
		check(s, nil)
		for halt := 1; halt <= 2; halt++ {
			if s.Halt == 0 {
				s.Halt = halt
				check(s, yields(24))
			}
		}
	}
	for halt := 0; halt <= 2; halt++ {
		for _, pc := range []int{0, 1, 24} {
			s := impl.VmNew()
			s.Pc, s.Halt = pc, halt
			check(s, yields(25))
			// One order that is not ok is enough, even if it is not the one to be done.
			check(s, append(yields(2), impl.VmOrder{Op: 15}))
			check(s, append(yields(2), impl.VmOrder{Op: 13, A: 1}))
			check(s, append(yields(2), impl.VmOrder{Op: 8, A: 4}))
			check(s, append([]impl.VmOrder{{}}, yields(2)...))
		}
	}
}

// askKinds are all kinds of asks that may be.
var askKinds = []int{0, 1, 2, 3, 4, 5}

// drawAsk is an ask that may be.
func drawAsk(d *draw) impl.VmAsk {
	return impl.VmAsk{Kind: d.below(6), Way: d.below(10), Bytes: d.bytes(d.below(9)), At: []int{d.below(10), 255, d.below(256)}[d.below(3)], Reg: d.below(4), Flag: d.below(4)}
}

// wrongAsks are asks of which just one part may not be.
func wrongAsks() []impl.VmAsk {
	var out []impl.VmAsk
	for _, kind := range askKinds {
		good := impl.VmAsk{Kind: kind, Way: 1, Bytes: []byte{1}, At: 2, Reg: 3, Flag: 1}
		change := func(how func(a *impl.VmAsk)) {
			a := good
			how(&a)
			out = append(out, a)
		}
		for _, far := range append([]int{-1, 6, 7}, farInts...) {
			change(func(a *impl.VmAsk) { a.Kind = far })
		}
		for _, far := range append([]int{-1, 10, 11}, farInts...) {
			change(func(a *impl.VmAsk) { a.Way = far })
		}
		for _, far := range append([]int{-1, 256, 257}, farInts...) {
			change(func(a *impl.VmAsk) { a.At = far })
		}
		for _, far := range append([]int{-1, 4, 5}, farInts...) {
			change(func(a *impl.VmAsk) { a.Reg = far })
			change(func(a *impl.VmAsk) { a.Flag = far })
		}
		for _, size := range []int{9, 10, 256, 264} {
			change(func(a *impl.VmAsk) { a.Bytes = upward(size) })
		}
	}
	return out
}

// plainGive is what VmGive answers if all is as it may be, line by line as the document has it.
func plainGive(s impl.VmState, a impl.VmAsk, got []byte, yes bool) impl.VmState {
	s = copyState(s)
	if s.Halt != 0 {
		return s
	}
	switch {
	case a.Kind == 1 && yes:
		s.Regs[a.Reg] = 1
	case a.Kind == 1:
		s.Regs[a.Reg] = 0
	case a.Kind == 2 && yes && a.At+len(got) > 8:
		s.Halt = 2
	case a.Kind == 2 && yes:
		for k := range got {
			s.Mem[a.At+k] = int(got[k])
		}
		s.Regs[a.Reg] = len(got) + 1
	case a.Kind == 2:
		s.Regs[a.Reg] = 0
	case a.Kind == 3 && yes && len(got) > 0:
		s.Regs[a.Reg] = int(got[0])
		s.Regs[a.Flag] = 1
	case a.Kind == 3:
		s.Regs[a.Reg] = 0
		s.Regs[a.Flag] = 0
	}
	return s
}

func TestMachineGive(t *testing.T) {
	d := &draw{x: 55}
	for range 60000 {
		s, a, got, yes := drawState(d), drawAsk(d), d.bytes(d.below(9)), d.below(3) > 0
		want := plainGive(s, a, got, yes)
		if after := impl.VmGive(s, a, got, yes); !sameState(after, want) {
			t.Fatalf("%v given %v %v %v\nis   %v\nnot  %v", s, a, got, yes, after, want)
		}
	}
}

func TestMachineGiveReads(t *testing.T) {
	mem := [8]int{1, 2, 3, 4, 5, 6, 7, 8}
	s := machine(4, [4]int{50, 60, 70, 80}, mem)
	check := func(reg int, flag int, got []byte, yes bool, want [4]int) {
		t.Helper()
		after := impl.VmGive(s, impl.VmAsk{Kind: impl.VmReads, Reg: reg, Flag: flag}, got, yes)
		if !sameState(after, machine(4, want, mem)) {
			t.Errorf("read %d %d of %v %v: %v", reg, flag, got, yes, after)
		}
	}
	check(0, 3, []byte{9}, true, [4]int{9, 60, 70, 1})
	check(3, 0, []byte{255, 9}, true, [4]int{1, 60, 70, 255})
	check(1, 2, []byte{0}, true, [4]int{50, 0, 1, 80})
	check(1, 2, nil, true, [4]int{50, 0, 0, 80})
	check(1, 2, []byte{9}, false, [4]int{50, 0, 0, 80})
	check(2, 2, []byte{9}, true, [4]int{50, 60, 1, 80})
	check(2, 2, []byte{}, true, [4]int{50, 60, 0, 80})
	check(2, 2, []byte{9}, false, [4]int{50, 60, 0, 80})
}

func TestMachineGiveTakes(t *testing.T) {
	mem := [8]int{101, 102, 103, 104, 105, 106, 107, 108}
	for at := 0; at <= 255; at++ {
		for size := 0; size <= 8; size++ {
			s := machine(24, [4]int{50, 60, 70, 80}, mem)
			a := impl.VmAsk{Kind: impl.VmTakes, Way: 9, At: at, Reg: 2}
			want := copyState(s)
			if at+size > 8 {
				want.Halt = impl.VmFell
			} else {
				for k, c := range upward(size) {
					want.Mem[at+k] = int(c)
				}
				want.Regs[2] = size + 1
			}
			if after := impl.VmGive(s, a, upward(size), true); !sameState(after, want) {
				t.Fatalf("%d bytes at %d: %v, not %v", size, at, after, want)
			}
			want = machine(24, [4]int{50, 60, 0, 80}, mem)
			if after := impl.VmGive(s, a, upward(size), false); !sameState(after, want) {
				t.Fatalf("no, with %d bytes at %d: %v, not %v", size, at, after, want)
			}
		}
	}
}

func TestMachineGiveNothing(t *testing.T) {
	check := func(s impl.VmState, a impl.VmAsk, got []byte) {
		t.Helper()
		for _, yes := range []bool{false, true} {
			if after := impl.VmGive(s, a, got, yes); !sameState(after, impl.VmState{}) {
				t.Fatalf("%v given %v %v %v: %v", s, a, got, yes, after)
			}
		}
	}
	for _, kind := range askKinds {
		for _, s := range wrongStates() {
			check(s, impl.VmAsk{Kind: kind}, []byte{1})
		}
	}
	for halt := 0; halt <= 2; halt++ {
		s := impl.VmNew()
		s.Halt = halt
		for _, a := range wrongAsks() {
			check(s, a, []byte{1})
			check(s, a, nil)
		}
		for _, kind := range askKinds {
			for _, size := range []int{9, 10, 256, 264} {
				check(s, impl.VmAsk{Kind: kind}, upward(size))
			}
		}
	}
}

func TestMachineAsksThatMayBe(t *testing.T) {
	for _, kind := range askKinds {
		for _, a := range []impl.VmAsk{{Kind: kind}, {Kind: kind, Way: 9, Bytes: upward(8), At: 255, Reg: 3, Flag: 3}} {
			for _, got := range [][]byte{nil, upward(8)} {
				if after := impl.VmGive(impl.VmNew(), a, got, true); !impl.VmOk(after) || !sameState(after, plainGive(impl.VmNew(), a, got, true)) {
					t.Errorf("%v given %v: %v", a, got, after)
				}
			}
		}
	}
}

// drawCode is a program that is ok, all of its orders drawn.
func drawCode(d *draw, orders []impl.VmOrder, size int) []impl.VmOrder {
	var code []impl.VmOrder
	for range size {
		// As many of each Op, however many orders it has.
		op := 1 + d.below(14)
		var o impl.VmOrder
		for o.Op != op {
			o = orders[d.below(len(orders))]
		}
		if op == impl.VmJump {
			o.A = d.below(size + 1)
		}
		code = append(code, o)
	}
	return code
}

// runs calls for each step of many machines, by many programs, answered at random.
func runs(d *draw, many int, each func(was impl.VmState, code []impl.VmOrder, after impl.VmState, ask impl.VmAsk)) {
	orders := okOrders()
	for range many {
		code := drawCode(d, orders, d.below(25))
		s := drawState(d)
		if d.below(2) == 0 {
			s = impl.VmNew()
		}
		for range 30 {
			after, ask := impl.VmStep(s, code)
			each(s, code, after, ask)
			s = impl.VmGive(after, ask, d.bytes(d.below(9)), d.below(2) == 0)
		}
	}
}

func TestP53StaysOk(t *testing.T) {
	runs(&draw{x: 530}, 2000, func(was impl.VmState, code []impl.VmOrder, after impl.VmState, ask impl.VmAsk) {
		if !impl.CodOk(code) || !impl.VmOk(was) || !impl.VmOk(after) {
			t.Fatalf("%v by %v: %v", was, code, after)
		}
		checkStep(t, was, code)
		if was.Halt != impl.VmRuns && (!sameState(was, after) || !sameAsk(ask, impl.VmAsk{})) {
			t.Fatalf("%v stands still, but is %v and asks %v", was, after, ask)
		}
	})
}

func TestP53GiveStaysOk(t *testing.T) {
	d := &draw{x: 531}
	for range 30000 {
		s, a, got, yes := drawState(d), drawAsk(d), d.bytes(d.below(9)), d.below(2) == 0
		after := impl.VmGive(s, a, got, yes)
		if !impl.VmOk(after) {
			t.Fatalf("%v given %v %v %v: %v", s, a, got, yes, after)
		}
		if s.Halt != impl.VmRuns && !sameState(s, after) {
			t.Fatalf("%v stands still, but given %v it is %v", s, a, after)
		}
	}
}

// changed counts in how many places two lists of the same size differ.
func changed(a []int, b []int) int {
	n := 0
	for k := range a {
		if a[k] != b[k] {
			n++
		}
	}
	return n
}

func TestP54StepChangesOneThing(t *testing.T) {
	runs(&draw{x: 54}, 2000, func(was impl.VmState, code []impl.VmOrder, after impl.VmState, ask impl.VmAsk) {
		n := changed(was.Regs, after.Regs) + changed(was.Mem, after.Mem)
		if n > 1 {
			t.Fatalf("%v by %v: %v", was, code, after)
		}
		if ask.Kind != impl.VmNothing && (n > 0 || after.Pc != was.Pc+1 || after.Halt != was.Halt) {
			t.Fatalf("%v by %v asks %v: %v", was, code, ask, after)
		}
	})
}

func TestP55GiveChangesFew(t *testing.T) {
	regs := map[int]int{impl.VmSends: 1, impl.VmTakes: 1, impl.VmReads: 2}
	d := &draw{x: 550}
	for range 60000 {
		s, a, got, yes := drawState(d), drawAsk(d), d.bytes(d.below(9)), d.below(2) == 0
		after := impl.VmGive(s, a, got, yes)
		most := 0
		if a.Kind == impl.VmTakes {
			most = len(got)
		}
		if changed(s.Regs, after.Regs) > regs[a.Kind] || changed(s.Mem, after.Mem) > most || s.Pc != after.Pc {
			t.Fatalf("%v given %v %v %v: %v", s, a, got, yes, after)
		}
	}
}

func TestP56WithoutJumpsItEnds(t *testing.T) {
	d := &draw{x: 56}
	var orders []impl.VmOrder
	for _, o := range okOrders() {
		// A program that stops at once would tell little.
		if o.Op != impl.VmJump && o.Op != impl.VmStop {
			orders = append(orders, o)
		}
	}
	for k := range 3000 {
		var code []impl.VmOrder
		for range k % 25 {
			code = append(code, orders[d.below(len(orders))])
		}
		s, ask := impl.VmNew(), impl.VmAsk{}
		for range len(code) + 1 {
			s, ask = impl.VmStep(s, code)
			s = impl.VmGive(s, ask, d.bytes(d.below(9)), d.below(2) == 0)
		}
		if s.Halt != impl.VmStopped && s.Halt != impl.VmFell {
			t.Fatalf("%v by %v", s, code)
		}
	}
	for size := 0; size <= 24; size++ {
		s := impl.VmNew()
		for k := range size + 1 {
			if s.Halt != impl.VmRuns {
				t.Fatal("stopped ahead of step", k, "of", size)
			}
			s, _ = impl.VmStep(s, yields(size))
		}
		if s.Halt != impl.VmStopped || s.Pc != size {
			t.Fatal(size, "orders:", s)
		}
	}
}

// fencedState is a machine whose lists lie between numbers that nobody may touch.
type fencedState struct {
	regs *fenced[int]
	mem  *fenced[int]
	s    impl.VmState
}

func fenceState(s impl.VmState) *fencedState {
	f := &fencedState{regs: fence(s.Regs, -77), mem: fence(s.Mem, -77), s: s}
	f.s.Regs, f.s.Mem = f.regs.list, f.mem.list
	return f
}

func (f *fencedState) untouched() bool {
	return f.regs.untouched() && f.mem.untouched()
}

// scribble writes all over a list, spare room included.
func scribble[T any](list []T, mark T) {
	room := list[:cap(list)]
	for k := range room {
		room[k] = mark
	}
}

// checkStateMemory writes over the one list of a machine, and looks at the other one.
func checkStateMemory(t *testing.T, name string, s impl.VmState) {
	t.Helper()
	mem := slices.Clone(s.Mem)
	scribble(s.Regs, -5)
	if !slices.Equal(mem, s.Mem) {
		t.Errorf("%s: Regs and Mem share memory", name)
	}
	regs := slices.Clone(s.Regs)
	scribble(s.Mem, -6)
	if !slices.Equal(regs, s.Regs) {
		t.Errorf("%s: Mem and Regs share memory", name)
	}
}

func TestMachineNewMemory(t *testing.T) {
	checkStateMemory(t, "VmNew", impl.VmNew())
	if s := impl.VmNew(); !sameState(s, machine(0, [4]int{}, [8]int{})) {
		t.Error("VmNew is kept:", s)
	}
}

func TestMachineStepMemory(t *testing.T) {
	d := &draw{x: 57}
	for _, o := range okOrders() {
		s := drawState(d)
		f := fenceState(s)
		code := fence(codeWith(o, s.Pc%24), impl.VmOrder{Op: -7, A: -7, B: -7, C: -7})
		after, ask := impl.VmStep(f.s, code.list)
		was, asked := copyState(after), ask
		asked.Bytes = slices.Clone(ask.Bytes)
		scribble(ask.Bytes, 0xEE)
		if !sameState(after, was) {
			t.Fatalf("%v: the ask shares memory with the machine", o)
		}
		checkStateMemory(t, "VmStep", after)
		if !impl.VmOk(f.s) || !f.untouched() || !code.untouched() {
			t.Fatalf("%v: an argument was written into, or is shared with the answer", o)
		}
		if again, asks := impl.VmStep(f.s, code.list); !sameState(again, was) || !sameAsk(asks, asked) {
			t.Fatalf("%v answers %v %v and then %v %v", o, was, asked, again, asks)
		}
	}
}

func TestMachineGiveMemory(t *testing.T) {
	d := &draw{x: 58}
	for range 3000 {
		f := fenceState(drawState(d))
		a := drawAsk(d)
		held, got := fence(a.Bytes, 0xA5), fence(d.bytes(d.below(9)), 0xA5)
		a.Bytes = held.list
		yes := d.below(3) > 0
		after := impl.VmGive(f.s, a, got.list, yes)
		was := copyState(after)
		checkStateMemory(t, "VmGive", after)
		if !f.untouched() || !held.untouched() || !got.untouched() {
			t.Fatalf("%v: an argument was written into, or is shared with the answer", a)
		}
		if again := impl.VmGive(f.s, a, got.list, yes); !sameState(again, was) {
			t.Fatalf("%v answers %v and then %v", a, was, again)
		}
	}
}

func TestMachineOkMemory(t *testing.T) {
	f := fenceState(machine(24, [4]int{255, 255, 255, 255}, [8]int{}))
	if !impl.VmOk(f.s) || !f.untouched() {
		t.Error("VmOk writes into the machine")
	}
}
