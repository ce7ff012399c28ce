package effect_test

import (
	"bytes"
	"slices"
	"testing"

	"retcon/api"
	"retcon/effect"
)

// room is an effect with spare room behind each of its lists, in which all stands that would make it another one.
func room() api.Effect {
	return api.Effect{
		Reads:  append([]string{"b", "d"}, "", "x"),
		Spans:  append(spans("c", "d", "e", "f"), spans("b", "a", "", "")...),
		Writes: append(puts("b", "2", "c", ""), api.Write{K: "", V: "1", Del: true}),
	}
}

// cut is an effect without its spare room told: that stays behind its lists.
func cut(x api.Effect) api.Effect {
	x.Reads, x.Spans, x.Writes = x.Reads[:2], x.Spans[:2], x.Writes[:2]
	return x
}

// clone is an effect in memory of its own, without spare room.
func clone(x api.Effect) api.Effect {
	x.Reads, x.Spans, x.Writes = slices.Clip(slices.Clone(x.Reads)), slices.Clip(slices.Clone(x.Spans)), slices.Clip(slices.Clone(x.Writes))
	return x
}

// overwrite marks all of a list, its spare room too.
func overwrite[T any](l []T, mark T) {
	l = l[:cap(l)]
	for i := range l {
		l[i] = mark
	}
}

func overwriteAll(x api.Effect) {
	overwrite(x.Reads, "mark")
	overwrite(x.Spans, api.Span{Lo: "mark"})
	overwrite(x.Writes, api.Write{K: "mark"})
}

// Rule 4: what is handed in stays as it was, its spare room is neither read nor written; what is told shares nothing with it, or with what is told else.
func TestMemory(t *testing.T) {
	whole, was := room(), room()
	x := cut(whole)
	own := clone(x)
	some := []string{"z", "y", "b"}
	for range 2 {
		if effect.Check(x) != api.OK || effect.Meets(x, some[:2]) || effect.Meets(x, []string{"x", "", "a"}) || !effect.Meets(x, some) {
			t.Fatal("spare room was read")
		}
	}
	one, err := effect.Bytes(x)
	two, _ := effect.Bytes(x)
	if want := row(own); err != api.OK || !bytes.Equal(one, want) || !bytes.Equal(two, want) {
		t.Fatal(one, two, err)
	}
	overwrite(one, 'z')
	if three, _ := effect.Bytes(x); !bytes.Equal(two, row(own)) || !bytes.Equal(three, row(own)) {
		t.Fatal(two, three)
	}
	keys, again := effect.Keys(x), effect.Keys(x)
	if !slices.Equal(keys, []string{"b", "c"}) {
		t.Fatal(keys)
	}
	overwrite(keys, "mark")
	if !equal(whole, was) || !slices.Equal(some, []string{"z", "y", "b"}) {
		t.Fatalf("changed to %+v, %q", whole, some)
	}
	overwriteAll(whole)
	if !slices.Equal(again, []string{"b", "c"}) || !bytes.Equal(two, row(own)) {
		t.Fatal(again, two)
	}
}

// Rule 4: so it is with Read: the bytes stay as they were, and what is told is not theirs.
func TestMemoryOfRead(t *testing.T) {
	want := clone(cut(room()))
	b := row(want)
	full := append(bytes.Clone(b), 0, 0, 0)
	given := full[:len(b)]
	one, f := effect.Read(given)
	two, g := effect.Read(given)
	if !equal(one, want) || !equal(two, want) || f != (api.Fault{}) || g != f {
		t.Fatal(one, two, f, g)
	}
	if _, f := effect.Read(full[:len(b)-1]); f.Err != api.ErrBytes {
		t.Fatal("spare room was read:", f)
	}
	overwriteAll(one)
	if !bytes.Equal(full, append(bytes.Clone(b), 0, 0, 0)) {
		t.Fatal(full)
	}
	overwrite(full, 'z')
	if !equal(two, want) {
		t.Fatalf("%+v, later %+v", want, two)
	}
}

// Rule 2: beside an error nothing is told.
func TestNothingBesideErrors(t *testing.T) {
	bad := cut(room())
	bad.Steps = 201
	if b, err := effect.Bytes(bad); len(b) != 0 || err != api.ErrArg {
		t.Error(b, err)
	}
	good := row(cut(room()))
	for _, b := range [][]byte{good[:len(good)-1], append(bytes.Clone(good), 0), append([]byte{1}, good[1:]...)} {
		if x, f := effect.Read(b); x.Why != 0 || x.Steps != 0 || x.Reads != nil || x.Spans != nil || x.Writes != nil || f.Err == api.OK {
			t.Errorf("%+v, %v", x, f)
		}
	}
}

// P1: the same arguments, the same answers, each time, whatever was asked and told between.
func TestSameCallsSameAnswers(t *testing.T) {
	x := cut(room())
	want := row(x)
	for i := range 50 {
		b, err := effect.Bytes(x)
		y, f := effect.Read(want)
		if !bytes.Equal(b, want) || err != api.OK || !equal(x, y) || f != (api.Fault{}) || !slices.Equal(effect.Keys(x), []string{"b", "c"}) || !effect.Meets(x, []string{"e5", "d"}) {
			t.Fatal(i, b, err, y, f)
		}
		effect.Read(want[:i%len(want)])
		effect.Bytes(room())
	}
}
