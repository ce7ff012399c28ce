package code_test

import (
	"bytes"
	"math"
	"strings"
	"testing"

	"retcon/api"
	"retcon/code"
)

// form is an Op's row of the document's table: which registers it has, how great its N may be (0: it has none), whether it has S.
type form struct {
	op      int
	a, b, c bool
	most    int
	s       bool
}

// forms is the document's table, its numbers written out: the constants are held against them too.
func forms() []form {
	return []form{
		{op: 1, a: true, s: true},
		{op: 2, a: true, b: true},
		{op: 3, a: true, b: true, c: true},
		{op: 4, a: true, b: true},
		{op: 5, a: true},
		{op: 6, a: true, b: true, c: true, most: 16},
		{op: 7, a: true, b: true, c: true},
		{op: 8, a: true, b: true, c: true},
		{op: 9, a: true, b: true, c: true},
		{op: 10, a: true, b: true, c: true},
		{op: 11, a: true, b: true, c: true},
		{op: 12, a: true, most: 60},
		{op: 13, most: 60},
		{op: 14, a: true},
		{op: 15},
	}
}

// mayBe tells sentence by sentence whether an instruction may be.
func mayBe(i api.Instr) bool {
	if i.Op < 1 || i.Op > 15 {
		return false
	}
	f := forms()[i.Op-1]
	register := func(has bool, n int) bool { return has && n >= 0 && n <= 7 || !has && n == 0 }
	number := f.most > 0 && i.N >= 1 && i.N <= f.most || f.most == 0 && i.N == 0
	text := f.s && len(i.S) <= 64 || !f.s && i.S == ""
	return register(f.a, i.A) && register(f.b, i.B) && register(f.c, i.C) && number && text
}

// written is the bytes of an instruction that may be: no number in it is more than one byte long.
func written(i api.Instr) []byte {
	f := forms()[i.Op-1]
	b := []byte{byte(i.Op)}
	for _, x := range []struct {
		has bool
		n   int
	}{{f.a, i.A}, {f.b, i.B}, {f.c, i.C}, {f.most > 0, i.N}} {
		if x.has {
			b = append(b, byte(x.n))
		}
	}
	if f.s {
		b = append(append(b, byte(len(i.S))), i.S...)
	}
	return b
}

// P5.1: what the three calls answer of one instruction.
func holdTold(t *testing.T, i api.Instr) {
	t.Helper()
	var want []byte
	err := api.ErrArg
	if mayBe(i) {
		want, err = written(i), api.OK
	}
	b, e := code.Bytes(i)
	if !bytes.Equal(b, want) || e != err {
		t.Fatalf("Bytes(%+v): %v, %v; want %v, %v", i, b, e, want, err)
	}
	if got := code.Check(i); got != err {
		t.Fatalf("Check(%+v): %v, want %v", i, got, err)
	}
	if got := code.Size(i); got != len(want) {
		t.Fatalf("Size(%+v): %d, want %d", i, got, len(want))
	}
}

// P5.1: the examples of the document.
func TestExamples(t *testing.T) {
	for _, x := range []struct {
		i api.Instr
		b []byte
	}{
		{api.Instr{Op: api.OpSet, A: 1, S: "ab"}, []byte{1, 1, 2, 97, 98}},
		{api.Instr{Op: api.OpScan, B: 1, C: 2, N: 16}, []byte{6, 0, 1, 2, 16}},
		{api.Instr{Op: api.OpHalt}, []byte{15}},
		{api.Instr{Op: api.OpJump, N: 60}, []byte{13, 60}},
	} {
		if b, err := code.Bytes(x.i); !bytes.Equal(b, x.b) || err != api.OK {
			t.Errorf("Bytes(%+v): %v, %v; want %v", x.i, b, err, x.b)
		}
	}
	for _, i := range []api.Instr{{Op: api.OpSet, A: 8}, {Op: api.OpHalt, A: 1}, {Op: api.OpScan, N: 17}, {Op: 0}} {
		if err := code.Check(i); err != api.ErrArg {
			t.Errorf("Check(%+v): %v", i, err)
		}
	}
	if n := code.Size(api.Instr{Op: api.OpMov, A: 1, B: 2}); n != 3 {
		t.Error("Size(mov 1 2):", n)
	}
}

// numbers are those at the edges of all bounds, and the utmost ones.
func numbers() []int {
	return []int{math.MinInt, -1, 0, 1, 7, 8, 15, 16, 17, 60, 61, 127, 128, 256, 263, math.MaxInt}
}

// texts are those at the edges of the bound, bytes that are no text among them.
func texts() []string {
	return []string{"", "a", "\x00", "\xff\x80", strings.Repeat("x", 63), strings.Repeat("\xe4", 64), strings.Repeat("x", 65), strings.Repeat("x", 128), strings.Repeat("x", 70000)}
}

// P5.1: each Op, and what is none, with all numbers in all fields.
func TestNumbers(t *testing.T) {
	ops := append(numbers(), 2, 3, 4, 5, 6, 9, 10, 11, 12, 13, 14)
	for _, op := range ops {
		for _, a := range numbers() {
			for _, b := range numbers() {
				for _, c := range numbers() {
					for _, n := range numbers() {
						holdTold(t, api.Instr{Op: op, A: a, B: b, C: c, N: n})
					}
				}
			}
		}
	}
}

// P5.1: each Op, and what is none, with all texts, beside numbers that it may have and such as it may not.
func TestTexts(t *testing.T) {
	for op := -1; op <= 17; op++ {
		for _, s := range texts() {
			for _, r := range []int{0, 7, 8} {
				holdTold(t, api.Instr{Op: op, S: s})
				holdTold(t, api.Instr{Op: op, A: r, S: s})
				holdTold(t, api.Instr{Op: op, A: r, N: 1, S: s})
				holdTold(t, api.Instr{Op: op, A: r, B: r, S: s})
				holdTold(t, api.Instr{Op: op, A: r, B: r, C: r, S: s})
				holdTold(t, api.Instr{Op: op, A: r, B: r, C: r, N: 1, S: s})
			}
		}
	}
}

// P5.1: each field by itself, from below its bounds to above them, the others being as they may.
func TestEachBound(t *testing.T) {
	for _, f := range forms() {
		plain := api.Instr{Op: f.op, N: min(1, f.most)}
		if !mayBe(plain) {
			t.Fatalf("%+v", plain)
		}
		for n := -3; n <= 300; n++ {
			a, b, c, last := plain, plain, plain, plain
			a.A, b.B, c.C, last.N = n, n, n, n
			for _, i := range []api.Instr{a, b, c, last} {
				holdTold(t, i)
			}
			if n >= 0 {
				plain.S = strings.Repeat("s", n)
				holdTold(t, plain)
				plain.S = ""
			}
		}
	}
}
