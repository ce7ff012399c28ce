package exec_test

import (
	"fmt"
	"slices"
	"strings"
	"testing"

	"retcon/api"
	"retcon/exec"
)

// within scans from one text up to another one, and writes under x the last key, under y how many.
func within(lo, hi string, n int) []api.Instr {
	return tx(set(0, lo), set(1, hi), scan(2, 0, 1, n), set(6, "y"), put(6, 1), set(6, "x"), put(6, 2))
}

// saw is what within comes to.
func saw(last string, n int, read ...string) api.Effect {
	return api.Effect{Steps: 7 + n, Spans: spans(read...), Writes: wrote("x", last, "y", n8(uint64(n)))}
}

// over scans from one text up to another one, and writes nothing.
func over(lo, hi string, n int) []api.Instr { return tx(set(0, lo), set(1, hi), scan(2, 0, 1, n)) }

// P8.1: a scan's span, its end, and what of it counts as read.
func TestScan(t *testing.T) {
	for _, x := range []struct {
		lo, hi string
		n      int
		want   api.Effect
	}{
		{"", "", 16, saw("c", 3, "", "")},
		{"", "", 4, saw("c", 3, "", "")},
		{"", "", 3, saw("c", 3, "", "c\x00")},
		{"", "", 2, saw("b", 2, "", "b\x00")},
		{"", "", 1, saw("a", 1, "", "a\x00")},
		{"a", "c", 5, saw("b", 2, "a", "c")},
		{"a", "c", 2, saw("b", 2, "a", "b\x00")},
		{"a", "b\x00", 2, saw("b", 2, "a", "b\x00")},
		{"a", "b\x00", 3, saw("b", 2, "a", "b\x00")},
		{"a\x00", "", 1, saw("b", 1, "a\x00", "b\x00")},
		{"c", "", 1, saw("c", 1, "c", "c\x00")},
		{"c", "", 2, saw("c", 1, "c", "")},
		{"c\x00", "", 1, saw("", 0, "c\x00", "")},
		{"aa", "b", 1, saw("", 0, "aa", "b")},
		{"b", "b\x00", 1, saw("b", 1, "b", "b\x00")},
		{"b", "b", 1, saw("", 0)},
		{"c", "a", 9, saw("", 0)},
		{"", "a", 9, saw("", 0, "", "a")},
		{"", "\x00", 9, saw("", 0, "", "\x00")},
		{"b", long(64), 9, saw("c", 2, "b", long(64))},
		{long(64), "", 9, saw("", 0, long(64), "")},
		{long(64), long(63), 9, saw("", 0)},
		{"b", strings.Repeat("b", 64), 1, saw("b", 1, "b", "b\x00")},
	} {
		hold(t, within(x.lo, x.hi, x.n), abc(), x.want)
	}
	key := long(32)
	hold(t, within("", "", 1), of(key, ""), saw(key, 1, "", key+"\x00"))
	hold(t, within("", "", 2), nil, saw("", 0, "", ""))
}

// P8.1: own writes are found like the state's keys, and what is gone is not; what is read is the same span.
func TestScanOfOwn(t *testing.T) {
	own := tx(set(0, "bb"), put(0, 1), set(0, "b"), del(0), set(0, "c"), put(0, 1), set(0, "d"), put(0, 1), del(0), set(0, "zz"), del(0))
	writes := []api.Write{{K: "b", Del: true}, {K: "bb"}, {K: "c"}, {K: "d", Del: true}}
	for _, x := range []struct {
		lo, hi string
		n      int
		last   string
		found  int
		read   []api.Span
	}{
		{"", "", 16, "c", 3, spans("", "")},
		{"", "", 3, "c", 3, spans("", "c\x00")},
		{"", "", 2, "bb", 2, spans("", "bb\x00")},
		{"", "", 1, "a", 1, spans("", "a\x00")},
		{"b", "c", 1, "bb", 1, spans("b", "bb\x00")},
		{"b", "c", 2, "bb", 1, spans("b", "c")},
		{"b", "bb", 1, "", 0, spans("b", "bb")},
		{"bb", "bb\x00", 1, "bb", 1, spans("bb", "bb\x00")},
		{"bb\x00", "", 1, "c", 1, spans("bb\x00", "c\x00")},
		{"d", "", 1, "", 0, spans("d", "")},
		{"d", "bb", 1, "", 0, nil},
	} {
		want := api.Effect{Steps: len(own) + 7 + x.found, Spans: x.read}
		want.Writes = append(slices.Clone(writes), wrote("x", x.last, "y", n8(uint64(x.found)))...)
		want.Writes = append(want.Writes, api.Write{K: "zz", Del: true})
		hold(t, tx(own, within(x.lo, x.hi, x.n)), abc(), want)
	}
}

// P8.1: as many of a state's keys may be gone as a run deletes: those behind them are found.
func TestScanBehindGone(t *testing.T) {
	var state []api.Pair
	for i := range 60 {
		state = append(state, api.Pair{K: fmt.Sprintf("%02d", i)})
	}
	for gone := range 26 {
		var l []api.Instr
		for i := range gone {
			l = append(l, tx(set(0, state[i].K), del(0))...)
		}
		l = append(l, tx(set(0, ""), scan(1, 0, 2, 16), set(3, "x"), put(3, 1), abort(4))...)
		got, err := exec.Run(l, state)
		last := state[gone+15].K
		if err != api.OK || len(got.Writes) != gone+1 || got.Writes[gone] != (api.Write{K: "x", V: last}) || !slices.Equal(got.Spans, spans("", last+"\x00")) || got.Steps != 2*gone+5+16 {
			t.Fatalf("%d: %+v, %v", gone, got, err)
		}
	}
}

// P8.1: a scan's registers are asked ahead of what it lays into them; how many comes behind the last key.
func TestScanRegisters(t *testing.T) {
	l := tx(set(0, "a"), set(1, "c"), scan(0, 0, 1, 5), set(6, "x"), put(6, 0))
	hold(t, l, abc(), api.Effect{Steps: 7, Spans: spans("a", "c"), Writes: wrote("x", "b")})
	l = tx(set(0, "a"), set(1, "c"), scan(1, 0, 1, 5), set(6, "x"), put(6, 1))
	hold(t, l, abc(), api.Effect{Steps: 7, Spans: spans("a", "c"), Writes: wrote("x", n8(2))})
	l = tx(set(0, "a"), scan(0, 0, 0, 5), set(6, "x"), put(6, 0))
	hold(t, l, abc(), api.Effect{Steps: 4, Writes: wrote("x", n8(0))})
	l = tx(set(0, "a"), set(2, "old"), scan(2, 0, 0, 5), set(6, "x"), put(6, 2))
	hold(t, l, abc(), api.Effect{Steps: 5, Writes: wrote("x", "")})
}

// P8.1: spans that were read are joined, whatever the order; keys that were read are told even if they are in one.
func TestSpansAreJoined(t *testing.T) {
	l := tx(over("c", "d", 9), over("a", "b", 9), set(4, "b"), get(5, 4, 6))
	hold(t, l, abc(), api.Effect{Steps: 10, Reads: []string{"b"}, Spans: spans("a", "b", "c", "d")})
	l = tx(l, over("b", "c", 9))
	hold(t, l, abc(), api.Effect{Steps: 14, Reads: []string{"b"}, Spans: spans("a", "d")})
	l = tx(over("b", "", 9), over("a", "b\x00", 1), over("b", "a", 1))
	hold(t, l, abc(), api.Effect{Steps: 12, Spans: spans("a", "a\x00", "b", "")})
}

// row is a state of the keys 00 to 39.
func row() []api.Pair {
	var state []api.Pair
	for i := range 40 {
		state = append(state, api.Pair{K: fmt.Sprintf("%02d", i), V: "v"})
	}
	return state
}

// spent makes just so many steps, on row; by then it has read the span that spentSpan is.
func spent(steps int) []api.Instr {
	var l []api.Instr
	for ; steps >= 18; steps -= 18 {
		l = tx(l, set(2, ""), scan(1, 0, 2, 16))
	}
	return tx(l, slices.Repeat(set(3, "s"), steps))
}

func spentSpan() []api.Span { return spans("", "15\x00") }

// P8.1: a run has 200 steps, and is done if nothing is left behind the last one.
func TestFuel(t *testing.T) {
	k := wrote("k", "")
	for _, x := range []struct {
		ahead  int
		then   []api.Instr
		why    int
		steps  int
		writes []api.Write
	}{
		{199, nil, api.EndDone, 199, nil},
		{200, nil, api.EndDone, 200, nil},
		{199, halt(), api.EndDone, 200, nil},
		{200, halt(), api.EndFuel, 200, nil},
		{199, get(0, 0, 0), api.EndKey, 200, nil},
		{200, get(0, 0, 0), api.EndFuel, 200, nil},
		{199, abort(3), api.EndAbort, 200, nil},
		{200, abort(3), api.EndFuel, 200, nil},
		{199, tx(jump(1), halt()), api.EndDone, 200, nil},
		{199, tx(jump(1), halt(), halt()), api.EndFuel, 200, nil},
		{200, tx(jump(1), halt()), api.EndFuel, 200, nil},
		{198, tell("k", 0), api.EndDone, 200, k},
		{198, tx(tell("k", 0), halt()), api.EndFuel, 200, nil},
		{199, tell("k", 0), api.EndFuel, 200, nil},
	} {
		hold(t, tx(spent(x.ahead), x.then), row(), api.Effect{Why: x.why, Steps: x.steps, Spans: spentSpan(), Writes: x.writes})
	}
}

// P8.1: a run that ends within a scan has read its whole span; one that ends behind it, as far as that went.
func TestFuelWithinScan(t *testing.T) {
	for _, x := range []struct {
		left   int
		lo, hi string
		n      int
		why    int
		steps  int
		read   []api.Span
	}{
		{0, "20", "", 1, api.EndFuel, 200, nil},
		{1, "20", "", 1, api.EndFuel, 200, spans("20", "")},
		{2, "20", "", 1, api.EndDone, 200, spans("20", "20\x00")},
		{2, "20", "", 2, api.EndFuel, 200, spans("20", "")},
		{3, "20", "", 2, api.EndDone, 200, spans("20", "21\x00")},
		{4, "20", "", 2, api.EndDone, 199, spans("20", "21\x00")},
		{16, "20", "", 16, api.EndFuel, 200, spans("20", "")},
		{17, "20", "", 16, api.EndDone, 200, spans("20", "35\x00")},
		{1, "20", "21", 16, api.EndFuel, 200, spans("20", "21")},
		{2, "20", "21", 16, api.EndDone, 200, spans("20", "21")},
		{3, "20", "zz", 5, api.EndFuel, 200, spans("20", "zz")},
		{20, "20", "", 16, api.EndDone, 197, spans("20", "35\x00")},
		{1, "20x", "20y", 5, api.EndDone, 200, spans("20x", "20y")},
		{1, "20", "20", 5, api.EndDone, 200, nil},
		{0, "20", "20", 5, api.EndFuel, 200, nil},
	} {
		l := tx(spent(198-x.left), set(4, x.lo), set(5, x.hi), scan(6, 4, 5, x.n))
		hold(t, l, row(), api.Effect{Why: x.why, Steps: x.steps, Spans: append(spentSpan(), x.read...)})
		if x.steps == 200 {
			hold(t, tx(l, tell("k", 0)), row(), api.Effect{Why: api.EndFuel, Steps: 200, Spans: append(spentSpan(), x.read...)})
		}
	}
}

// P8.1: keys of own writes cost a step each as well, those that are gone none.
func TestFuelOfOwn(t *testing.T) {
	own := tx(set(4, "41"), put(4, 3), set(5, "30"), del(5), set(6, "42"), put(6, 4))
	writes := []api.Write{{K: "30", Del: true}, {K: "41", V: "s"}, {K: "42", V: "41"}}
	for _, x := range []struct {
		left, why, steps int
		writes           []api.Write
		read             []api.Span
	}{
		{11, api.EndFuel, 200, nil, spans("30", "")},
		{12, api.EndDone, 200, writes, spans("30", "")},
		{13, api.EndDone, 199, writes, spans("30", "")},
	} {
		l := tx(set(3, "s"), own, spent(193-x.left), scan(7, 5, 0, 16))
		hold(t, l, row(), api.Effect{Why: x.why, Steps: x.steps, Spans: append(spentSpan(), x.read...), Writes: x.writes})
	}
}
