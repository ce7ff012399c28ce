package replay_test

import (
	"math"
	"slices"
	"testing"

	"retcon/api"
	"retcon/replay"
)

func wrote(w ...api.Write) api.Effect { return api.Effect{Writes: w} }

func gone(k string) api.Write { return api.Write{K: k, Del: true} }

// wrongs is effects that may not be, by the error that is told of each.
func wrongs() map[api.Errno][]api.Effect {
	many := make([]api.Write, 61)
	for i := range many {
		many[i] = api.Write{K: name(i)}
	}
	return map[api.Errno][]api.Effect{
		api.ErrLong: {wrote(many...), {Why: 9, Writes: many}},
		api.ErrArg: {
			{Why: -1}, {Why: 4}, {Steps: -1}, {Steps: 201},
			{Reads: []string{"b", "a"}}, {Reads: []string{""}}, {Spans: []api.Span{{Lo: "b", Hi: "a"}}},
			wrote(puts("b", "", "a", "")...), wrote(puts("a", "", "a", "")...), wrote(puts("", "")...), wrote(puts("a", long(65))...), wrote(api.Write{K: "a", V: "1", Del: true}),
			{Why: api.EndAbort, Writes: puts("a", "1")},
		},
	}
}

// holdThroughRefused holds Through to one error, at whatever place.
func holdThroughRefused(t *testing.T, l []api.Effect, want api.Errno) {
	t.Helper()
	for _, n := range []int{math.MinInt, -1, 0, 1, len(l), len(l) + 1, math.MaxInt} {
		if s, err := replay.Through(l, n); s != nil || err != want {
			t.Errorf("%d of %d: %q, %v, want %v", n, len(l), s, err, want)
		}
	}
}

// P10.3: too many effects, and the first one that may not be, wherever it stands, ahead of the place.
func TestEffectsThatMayNotBe(t *testing.T) {
	for err, some := range wrongs() {
		for _, wrong := range some {
			for _, n := range []int{1, 2, 3, 500} {
				for _, at := range []int{0, n / 2, n - 1} {
					l := slices.Repeat([]api.Effect{wrote(puts("a", "1")...)}, n)
					l[at] = wrong
					holdThroughRefused(t, l, err)
				}
			}
			for _, n := range []int{501, 502, 1000} {
				l := make([]api.Effect, n)
				holdThroughRefused(t, l, api.ErrLong)
				l[0], l[n-1] = wrong, wrong
				holdThroughRefused(t, l, api.ErrLong)
			}
			for _, others := range wrongs() {
				holdThroughRefused(t, []api.Effect{{}, wrong, others[0]}, err)
				holdThroughRefused(t, []api.Effect{wrong, {}, others[0], {}}, err)
			}
		}
	}
}

// P10.3: which places there are.
func TestRangeOfThrough(t *testing.T) {
	for size := range 4 {
		l := slices.Repeat([]api.Effect{wrote(puts("a", "1")...)}, size)
		for _, n := range []int{math.MinInt, -2, -1, size + 1, size + 2, 501, math.MaxInt} {
			if s, err := replay.Through(l, n); s != nil || err != api.ErrRange {
				t.Errorf("%d of %d: %q, %v", n, size, s, err)
			}
		}
		for n := range size + 1 {
			if s, err := replay.Through(l, n); len(s) != min(n, 1) || err != api.OK {
				t.Errorf("%d of %d: %q, %v", n, size, s, err)
			}
		}
	}
}

// P10.3: effects need not be what a log comes to: just their writes count, the last one of a key most.
func TestThrough(t *testing.T) {
	l := []api.Effect{
		wrote(gone("a"), api.Write{K: "b", V: "1"}),
		wrote(puts("a", "1", "b", "2", long(32), long(64))...),
		{Why: api.EndKey, Steps: 200, Reads: []string{"a"}, Spans: []api.Span{{}}},
		wrote(gone("b"), gone("x")),
		wrote(puts("b", "", "c", "3")...),
		wrote(gone("a"), gone("b"), gone("c"), gone(long(32))),
		{Why: api.EndFuel},
	}
	two := of("a", "1", "b", "2", long(32), long(64))
	for n, want := range [][]api.Pair{nil, of("b", "1"), two, two, of("a", "1", long(32), long(64)), of("a", "1", "b", "", "c", "3", long(32), long(64)), nil, nil} {
		if s, err := replay.Through(l, n); !slices.Equal(s, want) || err != api.OK {
			t.Errorf("%d: %q, %v, want %q", n, s, err, want)
		}
	}
}

// P10.3: as many effects, with as many writes, as may be.
func TestMostWrites(t *testing.T) {
	l := make([]api.Effect, 500)
	for i := range l {
		for j := range 60 {
			l[i].Writes = append(l[i].Writes, api.Write{K: name(500*j + i), V: "1"})
		}
	}
	s, err := replay.Through(l, 500)
	if !slices.Equal(s, row(30000)) || err != api.OK {
		t.Errorf("%d pairs, %v", len(s), err)
	}
	if s, err := replay.Through(l, 499); len(s) != 29940 || err != api.OK {
		t.Errorf("%d pairs, %v", len(s), err)
	}
}
