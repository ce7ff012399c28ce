package prog_test

import (
	"bytes"
	"slices"
	"testing"

	"retcon/api"
	"retcon/prog"
)

// chance is a row of numbers that look like chance and are the same each time.
type chance uint64

func (c *chance) next(below int) int {
	*c = *c*6364136223846793005 + 1442695040888963407
	return int(uint64(*c>>33) % uint64(below))
}

// instr is one that may be.
func (c *chance) instr() api.Instr {
	a, b, d := c.next(8), c.next(8), c.next(8)
	switch op := 1 + c.next(15); op {
	case api.OpSet:
		s := make([]byte, c.next(12)*c.next(3)*c.next(3))
		for n := range s {
			s[n] = byte(c.next(256))
		}
		return api.Instr{Op: op, A: a, S: string(s)}
	case api.OpMov, api.OpPut:
		return api.Instr{Op: op, A: a, B: b}
	case api.OpDel, api.OpAbort:
		return api.Instr{Op: op, A: a}
	case api.OpScan:
		return api.Instr{Op: op, A: a, B: b, C: d, N: 1 + c.next(16)}
	case api.OpSkip:
		return api.Instr{Op: op, A: a, N: 1 + c.next(3)}
	case api.OpJump:
		return api.Instr{Op: op, N: 1 + c.next(3)}
	case api.OpHalt:
		return api.Instr{Op: op}
	default:
		return api.Instr{Op: op, A: a, B: b, C: d}
	}
}

// P6.3 (P2): a transaction's bytes are read as it; two have one ID only if they are the same.
func TestWrittenIsRead(t *testing.T) {
	var c chance
	by := map[api.ID][]api.Instr{}
	were := 0
	for range 60000 {
		var l []api.Instr
		for range c.next(5) * (1 + c.next(15)) {
			l = append(l, c.instr())
		}
		holdTold(t, l)
		b, err := prog.Bytes(l)
		if err != api.OK {
			continue
		}
		were++
		if again, f := prog.Read(b); !prog.Same(again, l) || f != (api.Fault{}) {
			t.Fatalf("%+v: %v, read as %+v, %v", l, b, again, f)
		}
		id, _ := prog.ID(l)
		if other, ok := by[id]; ok && !prog.Same(other, l) {
			t.Fatalf("%+v and %+v: %v", l, other, id)
		}
		by[id] = l
	}
	if were < 20000 {
		t.Fatal("too few may be:", were)
	}
}

// Rule 4: what is handed in stays as it was, its spare room is neither read nor written; what is told is memory of its own, its spare room too.
func TestMemory(t *testing.T) {
	room := list(jump(1), text(2), text(3))
	before := slices.Clone(room)
	b, err := prog.Bytes(room[:2:3])
	if want := row(2, 13, 1, 1, 5, 2, 255, 255); !bytes.Equal(b, want) || err != api.OK {
		t.Fatal(b, err)
	}
	if err, at := prog.Check(room[:1:3]); err != api.ErrRange || at != 0 {
		t.Fatal("the spare room was read:", err, at)
	}
	if prog.Same(room[:1:3], room[:2:3]) || !slices.Equal(room, before) {
		t.Fatal(room)
	}

	full := append(bytes.Clone(b), 15)
	l, f := prog.Read(full[: len(full)-1 : len(full)])
	if !slices.Equal(l, before[:2]) || f != (api.Fault{}) {
		t.Fatal(l, f)
	}
	if _, f := prog.Read(full[:7:len(full)]); f != (api.Fault{Err: api.ErrBytes, At: 7}) {
		t.Fatal("the spare room was read:", f)
	}
	if !bytes.Equal(full, append(bytes.Clone(b), 15)) {
		t.Fatal(full)
	}
	for n := range full {
		full[n] = 'z'
	}
	if !slices.Equal(l, before[:2]) {
		t.Fatal(l)
	}
	spoilBytes(t, room[:2])
	spoilList(t, b)
}

// spoilBytes writes over what Bytes told, spare room and all: another answer is as ever.
func spoilBytes(t *testing.T, l []api.Instr) {
	t.Helper()
	a, _ := prog.Bytes(l)
	b, _ := prog.Bytes(l)
	want := bytes.Clone(b)
	a = a[:cap(a)]
	for n := range a {
		a[n] = 'z'
	}
	if c, _ := prog.Bytes(l); !bytes.Equal(b, want) || !bytes.Equal(c, want) {
		t.Fatal(b, c)
	}
}

// spoilList writes over what Read told, spare room and all: another answer is as ever.
func spoilList(t *testing.T, b []byte) {
	t.Helper()
	k, _ := prog.Read(b)
	l, _ := prog.Read(b)
	want := slices.Clone(l)
	k = k[:cap(k)]
	for n := range k {
		k[n] = api.Instr{Op: 99}
	}
	if m, _ := prog.Read(b); !slices.Equal(l, want) || !slices.Equal(m, want) {
		t.Fatal(l, m)
	}
}

// P1 (calm): the same calls, the same answers; none of them panics at any bytes.
func TestSameCallsSameAnswers(t *testing.T) {
	var c chance
	for range 20000 {
		b := make([]byte, c.next(30)*c.next(20))
		for n := range b {
			b[n] = byte(c.next(1 << (1 + c.next(8))))
		}
		if len(b) > 0 && c.next(2) > 0 {
			b[0] = byte(c.next(4))
		}
		holdRead(t, b)
		l, f := prog.Read(b)
		again, g := prog.Read(b)
		if !prog.Same(l, again) || f != g {
			t.Fatalf("Read(%v): %+v, %v; %+v, %v", b, l, f, again, g)
		}
	}
}
