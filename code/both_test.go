package code_test

import (
	"bytes"
	"math"
	"slices"
	"strings"
	"testing"

	"retcon/api"
	"retcon/code"
)

// every is each instruction that may be, but for the texts of sets: of these a few of each length.
func every() []api.Instr {
	var all []api.Instr
	registers := func(has bool) int {
		if has {
			return 8
		}
		return 1
	}
	for _, f := range forms() {
		for a := range registers(f.a) {
			for b := range registers(f.b) {
				for c := range registers(f.c) {
					for n := min(1, f.most); n <= f.most; n++ {
						i := api.Instr{Op: f.op, A: a, B: b, C: c, N: n}
						all = append(all, i)
						for size := 1; f.s && size <= 64; size++ {
							for _, s := range []string{"\x00", "x", "\xff"} {
								i.S = strings.Repeat(s, size)
								all = append(all, i)
							}
						}
					}
				}
			}
		}
	}
	return all
}

// P5.3 (P2): an instruction's bytes are read as it, wherever they stand.
func TestWrittenIsRead(t *testing.T) {
	aheads := [][]byte{nil, {128}, bytes.Repeat([]byte{255}, 200)}
	behinds := [][]byte{nil, {0}, {128, 0}, bytes.Repeat([]byte{15}, 200)}
	for _, i := range every() {
		b, err := code.Bytes(i)
		if err != api.OK || code.Check(i) != api.OK || code.Size(i) != len(b) {
			t.Fatalf("%+v: %v, %v", i, b, err)
		}
		for _, ahead := range aheads {
			for _, behind := range behinds {
				got, end, f := code.Read(slices.Concat(ahead, b, behind), len(ahead))
				if got != i || end != len(ahead)+len(b) || f != (api.Fault{}) {
					t.Fatalf("%+v behind %v, ahead of %v: %+v, %d, %v", i, ahead, behind, got, end, f)
				}
			}
		}
		for cut := range b {
			if got, end, f := code.Read(b[:cut], 0); got != (api.Instr{}) || end != 0 || f != (api.Fault{Err: api.ErrBytes, At: cut}) {
				t.Fatalf("%+v cut to %d: %+v, %d, %v", i, cut, got, end, f)
			}
		}
	}
}

// P5.3: no instruction's bytes begin another one's: sorted, one that does so stands just ahead of one that it begins.
func TestNoneBeginsAnother(t *testing.T) {
	var all []string
	for _, i := range every() {
		b, _ := code.Bytes(i)
		all = append(all, string(b))
	}
	slices.Sort(all)
	for n := 1; n < len(all); n++ {
		if strings.HasPrefix(all[n], all[n-1]) {
			t.Fatalf("%v begins %v", []byte(all[n-1]), []byte(all[n]))
		}
	}
}

// P5.3: instructions in a row are read one behind the other, up to the end.
func TestRow(t *testing.T) {
	all := every()
	var b []byte
	for _, i := range all {
		one, _ := code.Bytes(i)
		b = append(b, one...)
	}
	at := 0
	for n, want := range all {
		i, end, f := code.Read(b, at)
		if i != want || f != (api.Fault{}) {
			t.Fatalf("%d at %d: %+v, %v; want %+v", n, at, i, f, want)
		}
		at = end
	}
	if at != len(b) {
		t.Fatal(at, len(b))
	}
}

// Rule 4: what is handed in stays as it was, its spare room is neither read nor written; what is told is memory of its own, its spare room too.
func TestMemory(t *testing.T) {
	room := []byte{9, 1, 1, 2, 97, 98, 15, 99}
	before := bytes.Clone(room)
	i, end, f := code.Read(room[:6:8], 1)
	if want := (api.Instr{Op: api.OpSet, A: 1, S: "ab"}); i != want || end != 6 || f != (api.Fault{}) {
		t.Fatal(i, end, f)
	}
	if _, _, f := code.Read(room[:5:8], 1); f != (api.Fault{Err: api.ErrBytes, At: 5}) {
		t.Fatal("the spare room was read:", f)
	}
	if _, _, f := code.Read(room[:6:8], 6); f != (api.Fault{Err: api.ErrBytes, At: 6}) {
		t.Fatal("the spare room was read:", f)
	}
	if _, _, f := code.Read(room[:6:8], 7); f != (api.Fault{Err: api.ErrRange}) {
		t.Fatal("the spare room was read:", f)
	}
	if !bytes.Equal(room, before) {
		t.Fatal(room)
	}
	for n := range room {
		room[n] = 'z'
	}
	if i.S != "ab" {
		t.Fatal(i)
	}
	a, _ := code.Bytes(i)
	b, _ := code.Bytes(i)
	a = a[:cap(a)]
	for n := range a {
		a[n] = 'z'
	}
	if c, _ := code.Bytes(i); !bytes.Equal(b, before[1:6]) || !bytes.Equal(c, before[1:6]) {
		t.Fatal(b, c)
	}
}

// P1 (calm): the same calls, the same answers; none of them panics at the utmost arguments.
func TestSameCallsSameAnswers(t *testing.T) {
	for _, n := range numbers() {
		for _, i := range []api.Instr{{Op: n}, {Op: 1, A: n}, {Op: 6, N: n}, {Op: n, A: n, B: n, C: n, N: n, S: "s"}} {
			a, aerr := code.Bytes(i)
			b, berr := code.Bytes(i)
			if !bytes.Equal(a, b) || aerr != berr || code.Check(i) != aerr || code.Size(i) != len(a) {
				t.Fatalf("%+v: %v, %v; %v, %v", i, a, aerr, b, berr)
			}
		}
		for _, b := range [][]byte{nil, {}, {1}, bytes.Repeat([]byte{128}, 300), bytes.Repeat([]byte{1}, 300), bytes.Repeat([]byte{255}, 300)} {
			i, end, f := code.Read(b, n)
			again, at, g := code.Read(b, n)
			if i != again || end != at || f != g {
				t.Fatalf("Read(%v, %d): %+v, %d, %v; %+v, %d, %v", b, n, i, end, f, again, at, g)
			}
		}
	}
	if _, _, f := code.Read(nil, math.MinInt); f != (api.Fault{Err: api.ErrRange}) {
		t.Fatal(f)
	}
}
