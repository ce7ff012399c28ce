package replay_test

import (
	"math/rand/v2"
	"slices"
	"testing"

	"retcon/api"
	"retcon/exec"
	"retcon/replay"
)

func seeded() *rand.Rand { return rand.New(rand.NewPCG(10, 11)) }

func pick[T any](r *rand.Rand, l []T) T { return l[r.IntN(len(l))] }

// names are the keys that transactions touch, and at the end what is no key.
func names() []string { return []string{"a", "a\x00", "b", "c", "d", "\xff", long(32), ""} }

// someTx is a transaction that reads and writes few keys, so that many of a log touch one another.
func someTx(r *rand.Rand) []api.Instr {
	k, other := pick(r, names()), pick(r, names())
	switch r.IntN(10) {
	case 0, 1:
		return put(k, pick(r, []string{"", "1", "2"}))
	case 2, 3, 4:
		return move(k, other)
	case 5:
		return del(k)
	case 6:
		return last(k, other, 1+r.IntN(4), pick(r, names()))
	case 7:
		return aborted(move(k, other))
	case 8:
		return tx(del(k), move(other, "d"))
	}
	return greedy(r, k, other)
}

// greedy is a transaction that goes through more entries than it has steps, if the state has many.
func greedy(r *rand.Rand, k, to string) []api.Instr {
	scan := tx(set(1, ""), one(api.Instr{Op: api.OpScan, A: 2, B: 0, C: 1, N: 16}))
	return tx(slices.Repeat(scan, 9+r.IntN(5)), last(k, "", 1, to))
}

func someLog(r *rand.Rand, most int) [][]api.Instr {
	var l [][]api.Instr
	for range r.IntN(most + 1) {
		l = append(l, someTx(r))
	}
	return l
}

// someState is some of the keys and, now and then, many more.
func someState(r *rand.Rand) []api.Pair {
	var l []api.Pair
	if r.IntN(3) == 0 {
		l = row(20)
	}
	for _, k := range names()[:7] {
		if r.IntN(2) == 0 {
			l = append(l, api.Pair{K: k, V: pick(r, []string{"", "1", "2"})})
		}
	}
	slices.SortFunc(l, func(a, b api.Pair) int {
		if a.K < b.K {
			return -1
		}
		return 1
	})
	return l
}

// behind is a state behind writes, one by one.
func behind(l []api.Pair, w []api.Write) []api.Pair {
	for _, x := range w {
		var next []api.Pair
		for _, p := range l {
			if p.K < x.K {
				next = append(next, p)
			}
		}
		if !x.Del {
			next = append(next, api.Pair{K: x.K, V: x.V})
		}
		for _, p := range l {
			if p.K > x.K {
				next = append(next, p)
			}
		}
		l = next
	}
	return l
}

// byTheWords is what a log comes to on a state, by the words of the document: the effects, and all states, the first one ahead.
func byTheWords(t *testing.T, on []api.Pair, l [][]api.Instr) ([]api.Effect, [][]api.Pair) {
	t.Helper()
	var came []api.Effect
	states := [][]api.Pair{on}
	for _, x := range l {
		y, err := exec.Run(x, on)
		if err != api.OK {
			t.Fatalf("%+v on %q: %v", x, on, err)
		}
		on = behind(on, y.Writes)
		came, states = append(came, y), append(states, on)
	}
	return came, states
}

// P10.2, P10.3: what the document's words come to, many times.
func TestByTheWords(t *testing.T) {
	r := seeded()
	var ends [4]int
	for range 3000 {
		on, l := someState(r), someLog(r, 12)
		want, states := byTheWords(t, on, l)
		came, s, err := replay.From(on, l)
		if !same(came, want) || !slices.Equal(s, states[len(l)]) || err != api.OK {
			t.Fatalf("%+v on %q: %v\n%+v,\n%q; want\n%+v,\n%q", l, on, err, came, s, want, states[len(l)])
		}
		for _, x := range came {
			ends[x.Why]++
		}
		want, states = byTheWords(t, nil, l)
		if came, err = replay.All(l); !same(came, want) || err != api.OK {
			t.Fatalf("%+v: %v\n%+v; want\n%+v", l, err, came, want)
		}
		for n, state := range states {
			run, err := replay.State(l, n)
			laid, errLaid := replay.Through(want, n)
			if !slices.Equal(run, state) || !slices.Equal(laid, state) || err != api.OK || errLaid != api.OK {
				t.Fatalf("%+v, %d: %q, %v; %q, %v; want %q", l, n, run, err, laid, errLaid, state)
			}
		}
	}
	for why, n := range ends {
		if n < 300 {
			t.Errorf("too few end by %d: %v", why, ends)
		}
	}
}

// P10.4: what the first ones come to does not hang on what stands behind them; the rest, on the state behind these, comes to the rest; through what all came to, the states are the same.
func TestInParts(t *testing.T) {
	r := seeded()
	unlike := 0
	for range 2000 {
		on, l := someState(r), someLog(r, 10)
		n := r.IntN(len(l) + 1)
		came, last, _ := replay.From(on, l)
		first, middle, err := replay.From(on, l[:n])
		if !same(first, came[:n]) || err != api.OK {
			t.Fatalf("%+v on %q, the first %d: %+v, %v, want %+v", l, on, n, first, err, came[:n])
		}
		rest, s, err := replay.From(middle, l[n:])
		if !same(rest, came[n:]) || !slices.Equal(s, last) || err != api.OK {
			t.Fatalf("%+v on %q, from %d on: %+v, %q, %v, want %+v, %q", l, on, n, rest, s, err, came[n:], last)
		}
		other, _, err := replay.From(on, slices.Concat(l[:n], someLog(r, 5)))
		if !same(other[:n], first) || err != api.OK {
			t.Fatalf("%+v on %q, others behind %d: %+v, %v, want %+v", l, on, n, other, err, first)
		}
		if !same(other, came) {
			unlike++
		}
		all, _ := replay.All(l)
		run, _ := replay.State(l, n)
		ahead, _ := replay.State(l[:n], n)
		laid, _ := replay.Through(all, n)
		if laidAhead, _ := replay.Through(all[:n], n); !slices.Equal(run, ahead) || !slices.Equal(run, laid) || !slices.Equal(run, laidAhead) {
			t.Fatalf("%+v, %d: %q, %q, %q, %q", l, n, run, ahead, laid, laidAhead)
		}
		if rest, _, _ := replay.From(run, l[n:]); !same(rest, all[n:]) {
			t.Fatalf("%+v, from %d on: %+v, want %+v", l, n, rest, all[n:])
		}
	}
	if unlike < 1000 {
		t.Error("too few others were unlike:", unlike)
	}
}
