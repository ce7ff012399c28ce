package keys_test

import (
	"slices"
	"testing"

	"retcon/api"
	"retcon/keys"
)

// call is a call that tells a list, of two lists and spans.
type call struct {
	name string
	do   func(a, b []string, s []api.Span) []string
}

func calls() []call {
	return []call{
		{"Sort", func(a, _ []string, _ []api.Span) []string { return keys.Sort(a) }},
		{"Union", func(a, b []string, _ []api.Span) []string { return keys.Union(a, b) }},
		{"Minus", func(a, b []string, _ []api.Span) []string { return keys.Minus(a, b) }},
		{"Both", func(a, b []string, _ []api.Span) []string { return keys.Both(a, b) }},
		{"Among", func(a, _ []string, s []api.Span) []string { return keys.Among(a, s) }},
	}
}

// overwrite marks all of a list, its spare room too.
func overwrite(l []string) {
	l = l[:cap(l)]
	for i := range l {
		l[i] = "mark"
	}
}

// Rule 4: what is handed in stays as it was, its spare room is neither read nor written; what is told shares nothing with it, or with what is told else.
func TestMemory(t *testing.T) {
	for _, c := range calls() {
		for _, a := range [][]string{{}, words("a"), words("a b c"), words("c a b c"), {"", "b"}} {
			for _, b := range [][]string{{}, words("b"), words("a b c"), words("d b")} {
				for _, in := range [][]api.Span{{}, {s("a", "b")}, {s("c", ""), s("", "b")}} {
					holdMemory(t, c, a, b, in)
				}
			}
		}
	}
}

func holdMemory(t *testing.T, c call, a, b []string, in []api.Span) {
	t.Helper()
	roomA, roomB := append(slices.Clone(a), "b", "x"), append(slices.Clone(b), "a", "y")
	roomS := append(slices.Clone(in), s("", ""), s("b", ""))
	beforeA, beforeB, beforeS := slices.Clone(roomA), slices.Clone(roomB), slices.Clone(roomS)
	givenA, givenB, givenS := roomA[:len(a)], roomB[:len(b)], roomS[:len(in)]
	want := c.do(slices.Clip(slices.Clone(a)), slices.Clip(slices.Clone(b)), slices.Clip(slices.Clone(in)))
	got, other := c.do(givenA, givenB, givenS), c.do(givenA, givenB, givenS)
	if !slices.Equal(got, want) || !slices.Equal(other, want) {
		t.Fatalf("%s of %q, %q, %q: %q, %q, want %q", c.name, a, b, in, got, other, want)
	}
	overwrite(got)
	if !slices.Equal(roomA, beforeA) || !slices.Equal(roomB, beforeB) || !slices.Equal(roomS, beforeS) {
		t.Fatalf("%s of %q, %q, %q: changed to %q, %q, %q", c.name, beforeA, beforeB, beforeS, roomA, roomB, roomS)
	}
	overwrite(roomA)
	overwrite(roomB)
	if !slices.Equal(other, want) {
		t.Fatalf("%s of %q, %q, %q: told %q, later %q", c.name, a, b, in, want, other)
	}
}

// Rule 4: the spare room of a set is not that of the list that it is told from, though it is the same list.
func TestMemoryOfOneList(t *testing.T) {
	for _, c := range calls() {
		l := append(make([]string, 0, 8), "a", "b")
		got := c.do(l, l[:0], spansOf(s("", "")))
		if c.name == "Both" {
			got = keys.Both(l, l)
		}
		if !slices.Equal(got, words("a b")) {
			t.Fatalf("%s: %q", c.name, got)
		}
		overwrite(got)
		if !slices.Equal(l[:cap(l)][:3], []string{"a", "b", ""}) {
			t.Errorf("%s: changed to %q", c.name, l[:cap(l)])
		}
	}
}

// Rule 4: the calls that tell whether leave what is handed in as it was, and do not read its spare room.
func TestMemoryOfWhether(t *testing.T) {
	room := words("c a b a x")
	some := words("d x c")
	in := spansOf(s("x", "y"), s("e", "f"), s("", ""))
	for range 2 {
		if keys.Check(room[:2]) || !keys.Check(room[1:3]) || keys.Has(room[:3], "x") || keys.Meets(room[:3], some[:2], in[:2]) {
			t.Error("spare room was read")
		}
	}
	if !slices.Equal(room, words("c a b a x")) || !slices.Equal(some, words("d x c")) || !slices.Equal(in, spansOf(s("x", "y"), s("e", "f"), s("", ""))) {
		t.Errorf("changed to %q, %q, %q", room, some, in)
	}
}

// P1, rule 7: the same arguments, the same answers, each time: none hangs on the order of a map.
func TestSameCallsSameAnswers(t *testing.T) {
	var a, b []string
	for i := range 300 {
		a, b = append(a, name(i*7%300)), append(b, name(i*11%400))
	}
	in := spansOf(s(name(50), name(90)), s(name(200), ""))
	for _, c := range calls() {
		want := c.do(a, b, in)
		for range 20 {
			if got := c.do(a, b, in); !slices.Equal(got, want) {
				t.Fatalf("%s: %q, then %q", c.name, want, got)
			}
		}
	}
}
