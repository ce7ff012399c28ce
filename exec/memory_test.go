package exec_test

import (
	"fmt"
	"math/rand/v2"
	"slices"
	"testing"

	"retcon/api"
	"retcon/exec"
)

// overwrite marks all of a list, its spare room too.
func overwrite[T any](l []T, mark T) {
	l = l[:cap(l)]
	for i := range l {
		l[i] = mark
	}
}

// Rule 4: what is handed in stays as it was, its spare room is neither read nor written; what is told shares nothing with it, or with what is told else.
func TestMemory(t *testing.T) {
	cases(t, 2000, func(_ *rand.Rand, l []api.Instr, state []api.Pair) {
		roomL := slices.Concat(l, tx(set(9, "bad"), tell("k", 0)))
		roomS := slices.Concat(state, of("", "", "zz", "1", "a", "2"))
		wasL, wasS := slices.Clone(roomL), slices.Clone(roomS)
		want, _ := exec.Run(slices.Clip(slices.Clone(l)), slices.Clip(slices.Clone(state)))
		one, _ := exec.Run(roomL[:len(l)], roomS[:len(state)])
		two, _ := exec.Run(roomL[:len(l)], roomS[:len(state)])
		if !equal(one, want) || !equal(two, want) {
			t.Fatalf("%+v\non %q: %+v, %+v; want %+v", l, state, one, two, want)
		}
		overwrite(one.Reads, "mark")
		overwrite(one.Spans, api.Span{Lo: "mark"})
		overwrite(one.Writes, api.Write{K: "mark"})
		if !slices.Equal(roomL, wasL) || !slices.Equal(roomS, wasS) {
			t.Fatalf("changed to %+v, %q", roomL, roomS)
		}
		overwrite(roomL, api.Instr{Op: 99})
		overwrite(roomS, api.Pair{K: "mark"})
		if !equal(two, want) {
			t.Fatalf("%+v: told %+v, later %+v", wasL, want, two)
		}
	})
}

// Rule 3: so does a call that answers an error.
func TestMemoryOfErrors(t *testing.T) {
	l, state := tx(tell("a", 0), halt()), of("b", "", "a", "")
	exec.Run(l, state)
	exec.Run(append(l, api.Instr{}), state)
	if !slices.Equal(l, tx(tell("a", 0), halt())) || !slices.Equal(state, of("b", "", "a", "")) {
		t.Errorf("changed to %+v, %q", l, state)
	}
}

// P1, rule 7: the same arguments, the same answers, each time: none hangs on the order of a map.
func TestSameCallsSameAnswers(t *testing.T) {
	l := tx(tell("d", 0), tell("b", 7), tell("c", 0), tell("a", 7), set(0, "f"), get(1, 0, 1), set(0, "e"), del(0), set(1, ""), scan(2, 1, 1, 4), put(2, 1))
	want, err := exec.Run(l, of("f", "1"))
	if err != api.OK || len(want.Writes) != 5 {
		t.Fatalf("%+v, %v", want, err)
	}
	for range 200 {
		if got, err := exec.Run(l, of("f", "1")); err != api.OK || !equal(got, want) {
			t.Fatalf("%+v, then %+v, %v", want, got, err)
		}
	}
}

// P8.1: the greatest state there may be is run, one key more is told.
func TestGreatestState(t *testing.T) {
	state := make([]api.Pair, 65537)
	for i := range state {
		state[i] = api.Pair{K: fmt.Sprintf("%05d", i), V: fmt.Sprint(i)}
	}
	l := tx(set(0, "65535"), get(1, 0, 2), scan(3, 0, 4, 16), set(5, "99999"), put(5, 1), tell("x", 2), tell("y", 3), tell("z", 4))
	want := api.Effect{Steps: 12, Reads: []string{"65535"}, Spans: spans("65535", ""), Writes: wrote("99999", "65535", "x", n8(1), "y", "65535", "z", n8(1))}
	hold(t, l, state[:65536], want)
	if got, err := exec.Run(l, state); err != api.ErrLong || !equal(got, api.Effect{}) {
		t.Errorf("%+v, %v", got, err)
	}
}

// P1: none panics, at instructions and pairs that may be anything.
func TestCalm(t *testing.T) {
	r := seeded()
	odd := []int{-1 << 63, -1, 0, 1, 2, 3, 7, 8, 15, 16, 60, 61, 1<<63 - 1}
	were := 0
	for range 40000 {
		l := make([]api.Instr, r.IntN(4))
		for i := range l {
			l[i] = api.Instr{Op: r.IntN(18) - 1}
			for _, field := range []*int{&l[i].A, &l[i].B, &l[i].C, &l[i].N} {
				if r.IntN(2) == 0 {
					*field = pick(r, odd)
				}
			}
			if r.IntN(4) == 0 {
				l[i].S = pick(r, someTexts())
			}
		}
		var state []api.Pair
		for range r.IntN(3) {
			state = append(state, api.Pair{K: pick(r, someTexts()), V: pick(r, someTexts())})
		}
		if got, err := exec.Run(l, state); err == api.OK {
			were++
		} else if !equal(got, api.Effect{}) {
			t.Fatalf("%+v, %q: %+v, %v", l, state, got, err)
		}
	}
	if were < 1000 {
		t.Error("too few may be:", were)
	}
}
