package replay_test

import (
	"slices"
	"testing"

	"retcon/api"
	"retcon/replay"
)

// overwrite marks all of a list, its spare room too.
func overwrite[T any](l []T, mark T) {
	l = l[:cap(l)]
	for i := range l {
		l[i] = mark
	}
}

func overwriteAll(l []api.Effect) {
	for _, x := range l {
		overwrite(x.Reads, "mark")
		overwrite(x.Spans, api.Span{Lo: "mark"})
		overwrite(x.Writes, api.Write{K: "mark"})
	}
	overwrite(l, api.Effect{Why: 9})
}

// mine is effects in memory of their own, without spare room.
func mine(l []api.Effect) []api.Effect {
	told := slices.Clone(l)
	for i, x := range told {
		told[i].Reads, told[i].Spans, told[i].Writes = slices.Clone(x.Reads), slices.Clone(x.Spans), slices.Clone(x.Writes)
	}
	return told
}

// roomy is a log and a state of so many, and in the spare room of both, and of each transaction, what may not be.
func roomy() ([][]api.Instr, []api.Pair) {
	l := log(a(), b(), last("", "", 5, "c"), del("x"), aborted(a()))
	for i, x := range l {
		l[i] = slices.Concat(x, one(api.Instr{Op: 99}))[:len(x)]
	}
	return append(l, one(api.Instr{})), append(of("m", "1", "x", "2", "y", "3"), of("", "", "a", "")...)
}

func cloned(l [][]api.Instr) [][]api.Instr {
	told := slices.Clone(l)
	for i, x := range told {
		told[i] = slices.Clone(x[:cap(x)])
	}
	return told
}

// Rule 4: what is handed in stays as it was, its spare room is neither read nor written; what is told shares nothing with it, or with what is told else.
func TestMemory(t *testing.T) {
	l, on := roomy()
	wasL, wasOn := cloned(l), slices.Clone(on)
	came, s, err := replay.From(on[:3], l[:5])
	again, state, _ := replay.From(on[:3], l[:5])
	all, _ := replay.All(l[:5])
	run, _ := replay.State(l[:5], 3)
	want, states := byTheWords(t, on[:3], l[:5])
	if !same(came, want) || !slices.Equal(s, states[5]) || err != api.OK {
		t.Fatalf("%+v, %q, %v", came, s, err)
	}
	if s, err := replay.State(l[:5], 6); s != nil || err != api.ErrRange {
		t.Fatalf("spare room was read: %q, %v", s, err)
	}
	wantAll, wantRun := mine(all), slices.Clone(run)
	overwriteAll(came)
	overwrite(s, api.Pair{K: "mark"})
	if !slices.EqualFunc(cloned(l), wasL, slices.Equal) || !slices.Equal(on, wasOn) {
		t.Fatalf("changed to %+v, %q", l, on)
	}
	for _, x := range l {
		overwrite(x, api.Instr{Op: 99})
	}
	overwrite(l, nil)
	overwrite(on, api.Pair{K: "mark"})
	if !same(again, want) || !slices.Equal(state, states[5]) || !same(all, wantAll) || !slices.Equal(run, wantRun) {
		t.Fatalf("later %+v, %q, %+v, %q", again, state, all, run)
	}
}

// Rule 4: of nothing that is run, and of what writes nothing, the state is new memory, too.
func TestMemoryOfNothing(t *testing.T) {
	for _, l := range [][][]api.Instr{nil, {}, log(nil), log(aborted(a()), nil)} {
		on := append(of("a", "1", "b", "2"), of("c", "3")...)
		_, s, err := replay.From(on[:2], l)
		if !slices.Equal(s, of("a", "1", "b", "2")) || err != api.OK {
			t.Fatal(s, err)
		}
		overwrite(s, api.Pair{K: "mark"})
		if !slices.Equal(on, of("a", "1", "b", "2", "c", "3")) {
			t.Fatal(on)
		}
	}
}

// Rule 4: no list of an answer shares room with another one of it.
func TestMemoryOfOneAnswer(t *testing.T) {
	l := log(a(), b(), tx(move("a", "c"), move("b", "d")), last("a", "z", 3, "e"))
	want, states := byTheWords(t, nil, l)
	for i := range l {
		came, s, _ := replay.From(nil, l)
		overwriteAll(came[i : i+1 : i+1])
		came[i] = want[i]
		if !same(came, want) || !slices.Equal(s, states[4]) {
			t.Fatalf("%d: %+v, %q", i, came, s)
		}
		came, s, _ = replay.From(nil, l)
		overwrite(s, api.Pair{K: "mark"})
		if !same(came, want) {
			t.Fatalf("%+v", came)
		}
	}
}

// Rule 4: so it is with Through.
func TestMemoryOfThrough(t *testing.T) {
	room := puts("a", "1", "b", "2", "", "no")
	l := []api.Effect{wrote(room[:2]...), {Reads: []string{"a"}}, wrote(puts("c", "3")...), {Why: 9}}
	was := mine(l)
	for n, want := range [][]api.Pair{nil, of("a", "1", "b", "2"), of("a", "1", "b", "2"), of("a", "1", "b", "2", "c", "3")} {
		one, err := replay.Through(l[:3], n)
		two, _ := replay.Through(l[:3], n)
		if !slices.Equal(one, want) || err != api.OK {
			t.Fatalf("%d: %q, %v", n, one, err)
		}
		overwrite(one, api.Pair{K: "mark"})
		if !slices.Equal(two, want) || !same(l, was) || !slices.Equal(room, puts("a", "1", "b", "2", "", "no")) {
			t.Fatalf("%d: %q, %+v, %+v", n, two, l, room)
		}
	}
	if s, err := replay.Through(l[:3], 4); s != nil || err != api.ErrRange {
		t.Fatalf("spare room was read: %q, %v", s, err)
	}
	s, _ := replay.Through(l[:3], 3)
	overwriteAll(l)
	if !slices.Equal(s, of("a", "1", "b", "2", "c", "3")) {
		t.Fatal(s)
	}
}

// Rule 3: a call that answers an error has changed nothing.
func TestMemoryOfErrors(t *testing.T) {
	l, on := log(a(), one(api.Instr{})), of("b", "", "a", "")
	came := []api.Effect{wrote(puts("a", "1")...), {Why: 9}}
	wasL, wasOn, wasCame := cloned(l), slices.Clone(on), mine(came)
	replay.Check(l)
	replay.From(on, l)
	replay.From(on, l[:1])
	replay.All(l)
	replay.State(l, 1)
	replay.State(l[:1], 2)
	replay.Through(came, 1)
	replay.Through(came[:1], 2)
	if !slices.EqualFunc(l, wasL, slices.Equal) || !slices.Equal(on, wasOn) || !same(came, wasCame) {
		t.Errorf("%+v, %q, %+v", l, on, came)
	}
}

// P1: the same arguments, the same answers, each time, whatever was asked between.
func TestSameCallsSameAnswers(t *testing.T) {
	r := seeded()
	on, l := someState(r), slices.Concat(log(a(), b()), someLog(r, 20))
	want, state, err := replay.From(on, l)
	if err != api.OK || len(want) < 2 {
		t.Fatal(want, err)
	}
	all, _ := replay.All(l)
	run, _ := replay.State(l, 2)
	for i := range 50 {
		came, s, err := replay.From(on, l)
		gotAll, errAll := replay.All(l)
		gotRun, errRun := replay.State(l, 2)
		laid, errLaid := replay.Through(all, 2)
		if !same(came, want) || !slices.Equal(s, state) || !same(gotAll, all) || !slices.Equal(gotRun, run) || !slices.Equal(laid, run) {
			t.Fatal(i, came, s, gotAll, gotRun, laid)
		}
		if err != api.OK || errAll != api.OK || errRun != api.OK || errLaid != api.OK || replay.Check(l) != api.OK {
			t.Fatal(i, err, errAll, errRun, errLaid)
		}
		replay.From(someState(r), someLog(r, 5))
		replay.From(of("", ""), l)
	}
}

// P1: none panics, at arguments that may be anything.
func TestCalm(t *testing.T) {
	r := seeded()
	odd := []int{-1 << 63, -1, 0, 1, 2, 3, 4, 15, 16, 60, 61, 200, 201, 1<<63 - 1}
	texts := append(names(), long(33), long(64), long(65))
	were := [3]int{}
	for range 20000 {
		var l [][]api.Instr
		var on []api.Pair
		var came []api.Effect
		for range r.IntN(4) {
			l = append(l, someTx(r))
			if r.IntN(3) == 0 {
				l = append(l, one(api.Instr{Op: pick(r, odd), A: pick(r, odd[2:5]), B: pick(r, odd), S: pick(r, texts)}))
			}
			on = append(on, api.Pair{K: pick(r, texts), V: pick(r, texts)})
			came = append(came, api.Effect{Why: r.IntN(6) - 1, Steps: pick(r, odd), Reads: []string{pick(r, texts)}, Spans: []api.Span{{Lo: pick(r, texts), Hi: pick(r, texts)}}, Writes: puts(pick(r, texts), pick(r, texts))})
		}
		n := pick(r, odd)
		if x, s, err := replay.From(on, l); err == api.OK {
			were[0]++
		} else if x != nil || s != nil {
			t.Fatal(x, s, err)
		}
		if s, err := replay.State(l, n); err == api.OK {
			were[1]++
		} else if s != nil {
			t.Fatal(s, err)
		}
		if s, err := replay.Through(came, n); err == api.OK {
			were[2]++
		} else if s != nil {
			t.Fatal(s, err)
		}
	}
	if were[0] < 1000 || were[1] < 1000 || were[2] < 100 {
		t.Error("too few may be:", were)
	}
}
