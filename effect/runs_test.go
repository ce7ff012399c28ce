package effect_test

import (
	"math/rand/v2"
	"slices"
	"testing"

	"retcon/api"
	"retcon/cell"
	"retcon/effect"
	"retcon/exec"
)

func set(a int, s string) api.Instr { return api.Instr{Op: api.OpSet, A: a, S: s} }

// texts are what registers hold at first: keys near one another, ends of spans, and what is no key.
func texts() []string {
	return []string{"a", "a\x00", "b", "c", "d", "e", "f", "\xff", long(32), "", long(33), long(64)}
}

// instr is an instruction that may be, with so many behind it.
func instr(r *rand.Rand, behind int) api.Instr {
	a, b, c := r.IntN(5), r.IntN(5), r.IntN(5)
	switch op := pick(r, []int{1, 1, 1, 2, 3, 3, 3, 4, 4, 5, 6, 6, 7, 10, 11, 12, 13, 14, 15}); op {
	case api.OpSet:
		return set(a, pick(r, texts()))
	case api.OpMov, api.OpPut:
		return api.Instr{Op: op, A: a, B: b}
	case api.OpDel, api.OpAbort:
		return api.Instr{Op: op, A: a}
	case api.OpScan:
		return api.Instr{Op: op, A: a, B: b, C: c, N: 1 + r.IntN(4)}
	case api.OpSkip:
		if behind > 0 {
			return api.Instr{Op: op, A: a, N: 1 + r.IntN(min(behind, 3))}
		}
	case api.OpJump:
		if behind > 0 {
			return api.Instr{Op: op, N: 1 + r.IntN(min(behind, 3))}
		}
	case api.OpGet, api.OpAdd, api.OpCmp, api.OpCat:
		return api.Instr{Op: op, A: a, B: b, C: c}
	}
	return api.Instr{Op: api.OpHalt}
}

// tx begins with keys in all registers that it asks, so that it does not end at once.
func tx(r *rand.Rand) []api.Instr {
	var l []api.Instr
	for a := range 5 {
		l = append(l, set(a, pick(r, texts()[:9])))
	}
	n := r.IntN(25)
	for i := range n {
		l = append(l, instr(r, n-1-i))
	}
	return l
}

// state is some of the keys, each with one of few values.
func state(r *rand.Rand) []api.Pair {
	var l []api.Pair
	for _, k := range keysOfStates() {
		if r.IntN(2) == 0 {
			l = append(l, api.Pair{K: k, V: pick(r, []string{"", "a", "1"})})
		}
	}
	return l
}

func keysOfStates() []string {
	l := append(texts()[:9], "aa", "b\x00", "cc", "e1", "e2", "g")
	slices.Sort(l)
	return l
}

// near is a state that differs from another one in few keys.
func near(r *rand.Rand, l []api.Pair) []api.Pair {
	var w []api.Write
	for range 1 + r.IntN(2) {
		k := pick(r, keysOfStates())
		w = append(w, pick(r, append(puts(k, "1", k, "", k, "2"), dels(k)...)))
	}
	told, _ := cell.Apply(l, w)
	return told
}

// P9.4, P9.3: what exec.Run tells may be, and is written and read.
func TestRunMayBe(t *testing.T) {
	r := seeded()
	var ends [4]int
	for range 20000 {
		l, on := tx(r), state(r)
		x, err := exec.Run(l, on)
		if err != api.OK {
			t.Fatalf("%+v: %v", l, err)
		}
		if err := hold(t, x); err != api.OK {
			t.Fatalf("%+v on %q: %+v, %v", l, on, x, err)
		}
		ends[x.Why]++
	}
	if ends[api.EndDone] < 2000 || ends[api.EndAbort] < 500 || ends[api.EndKey] < 2000 {
		t.Error(ends)
	}
}

// P9.4: transactions that read, scan or write as often, and as much, as may be.
func TestRunAtItsBounds(t *testing.T) {
	row := make([]api.Pair, 300)
	for i := range row {
		row[i] = api.Pair{K: "k" + name(i/100) + name(i%100), V: long(64)}
	}
	key := api.Instr{Op: api.OpCat, A: 0, B: 0, C: 1} // one byte more
	get := api.Instr{Op: api.OpGet, A: 7, B: 0, C: 6}
	put := api.Instr{Op: api.OpPut, A: 0, B: 2}
	scan := api.Instr{Op: api.OpScan, A: 7, B: 0, C: 3, N: 1}
	all := api.Instr{Op: api.OpScan, A: 7, B: 4, C: 3, N: 16}
	var parted []api.Instr
	for i := range 20 {
		parted = append(parted, set(0, name(i)), set(3, name(i)+"5"), scan)
	}
	for i, x := range []struct {
		ahead, part []api.Instr
		times       int
		why         int
		reads       int
		spans       int
		writes      int
	}{
		{[]api.Instr{set(1, "k")}, []api.Instr{key, get}, 29, api.EndDone, 29, 0, 0},
		{[]api.Instr{set(1, "k")}, []api.Instr{key, put}, 29, api.EndDone, 0, 0, 29},
		{[]api.Instr{set(1, "k")}, []api.Instr{key, get, put}, 19, api.EndDone, 19, 0, 19},
		{[]api.Instr{set(0, long(29)), set(1, "k")}, []api.Instr{key, get}, 4, api.EndKey, 3, 0, 0},
		{[]api.Instr{set(0, "x"), set(1, "k")}, []api.Instr{key, scan}, 29, api.EndDone, 0, 1, 0},
		{[]api.Instr{set(0, long(63)), set(1, "z"), set(3, long(64))}, []api.Instr{key, scan}, 1, api.EndDone, 0, 0, 0},
		{[]api.Instr{set(0, long(64))}, []api.Instr{scan}, 1, api.EndDone, 0, 1, 0},
		{nil, []api.Instr{set(3, ""), all}, 30, api.EndFuel, 0, 1, 0},
		{nil, parted, 1, api.EndDone, 0, 20, 0},
	} {
		l := slices.Concat(x.ahead, slices.Repeat(x.part, x.times))
		e, err := exec.Run(l, row)
		if err != api.OK || hold(t, e) != api.OK {
			t.Fatalf("%d: %+v, %v", i, e, err)
		}
		if e.Why != x.why || len(e.Reads) != x.reads || len(e.Spans) != x.spans || len(e.Writes) != x.writes {
			t.Errorf("%d: %+v", i, e)
		}
	}
}

// P9.4: an effect that meets none of the keys in which two states differ is what its transaction comes to on both; of those that meet one, many are not.
func TestUnmetIsTheSame(t *testing.T) {
	r := seeded()
	unmet, met, unlike := 0, 0, 0
	for range 30000 {
		l, a := tx(r), state(r)
		b := near(r, a)
		x, _ := exec.Run(l, a)
		y, _ := exec.Run(l, b)
		changed := cell.Changed(a, b)
		if want := meets(x, changed); effect.Meets(x, changed) != want {
			t.Fatalf("Meets(%+v, %q): not %v", x, changed, want)
		}
		switch {
		case effect.Meets(x, changed):
			met++
			if !equal(x, y) {
				unlike++
			}
		case !equal(x, y):
			t.Fatalf("%+v\non %q: %+v\non %q: %+v", l, a, x, b, y)
		case len(changed) > 0:
			unmet++
		}
	}
	if unmet < 5000 || met < 2000 || unlike < 1000 {
		t.Error(unmet, met, unlike)
	}
}
