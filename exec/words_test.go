package exec_test

import (
	"math/rand/v2"
	"slices"
	"testing"

	"retcon/api"
	"retcon/exec"
	"retcon/prog"
	"retcon/span"
)

// words is a run by the words of the document, sentence by sentence, with nothing but lists that are gone through from one end to the other.
type words struct {
	tx    []api.Instr
	state []api.Pair
	regs  [8]string
	own   []api.Write
	place int
	steps int
	reads []string
	spans []api.Span
	over  bool
	why   int
}

func (w *words) end(why int) { w.over, w.why = true, why }

// more is one step more, if there are not 200 yet.
func (w *words) more() bool {
	if w.steps == 200 {
		w.end(2)
		return false
	}
	w.steps++
	return true
}

func (w *words) num(r int) uint64 {
	s := w.regs[r]
	if len(s) > 8 {
		s = s[len(s)-8:]
	}
	var n uint64
	for i := range len(s) {
		n = n*256 + uint64(s[i])
	}
	return n
}

func (w *words) latest(k string) (api.Write, bool) {
	for _, x := range slices.Backward(w.own) {
		if x.K == k {
			return x, true
		}
	}
	return api.Write{}, false
}

// seen is what a get sees of a key.
func (w *words) seen(k string) (string, bool) {
	if x, ok := w.latest(k); ok {
		return x.V, !x.Del
	}
	for _, p := range w.state {
		if p.K == k {
			return p.V, true
		}
	}
	return "", false
}

func (w *words) key(r int) bool {
	if n := len(w.regs[r]); n >= 1 && n <= 32 {
		return true
	}
	w.end(3)
	return false
}

func (w *words) get(i api.Instr) {
	k := w.regs[i.B]
	if _, ok := w.latest(k); !ok {
		w.reads = append(w.reads, k)
	}
	v, there := w.seen(k)
	w.regs[i.A] = v
	w.regs[i.C] = n8(0)
	if there {
		w.regs[i.C] = n8(1)
	}
}

// all is the keys of the state and of own writes, but those that are gone, by rising keys.
func (w *words) all() []string {
	var l []string
	for _, p := range w.state {
		l = append(l, p.K)
	}
	for _, x := range w.own {
		l = append(l, x.K)
	}
	slices.Sort(l)
	return slices.DeleteFunc(slices.Compact(l), func(k string) bool {
		_, there := w.seen(k)
		return !there
	})
}

func (w *words) scan(i api.Instr) {
	s := api.Span{Lo: w.regs[i.B], Hi: w.regs[i.C]}
	last, found := "", 0
	for _, k := range w.all() {
		if k < s.Lo || s.Hi != "" && k >= s.Hi || found == i.N {
			continue
		}
		if !w.more() {
			w.spans = append(w.spans, s)
			return
		}
		last, found = k, found+1
	}
	read := s
	if found == i.N && (s.Hi == "" || s.Hi > last+"\x00") {
		read.Hi = last + "\x00"
	}
	if read.Hi == "" || read.Hi > read.Lo {
		w.spans = append(w.spans, read)
	}
	w.regs[i.A] = last
	w.regs[i.C] = n8(uint64(found))
}

func (w *words) step() {
	if w.place >= len(w.tx) {
		w.end(0)
		return
	}
	if !w.more() {
		return
	}
	i := w.tx[w.place]
	w.place++
	switch i.Op {
	case 1, 2, 7, 8, 9, 10, 11:
		w.lay(i)
	case 3:
		if w.key(i.B) {
			w.get(i)
		}
	case 4:
		if w.key(i.A) {
			w.own = append(w.own, api.Write{K: w.regs[i.A], V: w.regs[i.B]})
		}
	case 5:
		if w.key(i.A) {
			w.own = append(w.own, api.Write{K: w.regs[i.A], Del: true})
		}
	case 6:
		w.scan(i)
	case 12:
		if w.num(i.A) == 0 {
			w.place += i.N
		}
	case 13:
		w.place += i.N
	case 14:
		if w.num(i.A) != 0 {
			w.end(1)
		}
	case 15:
		w.end(0)
	}
}

// lay does what lays a text into A alone.
func (w *words) lay(i api.Instr) {
	b, c := w.regs[i.B], w.regs[i.C]
	x, y := w.num(i.B), w.num(i.C)
	w.regs[i.A] = map[int]func() string{
		1: func() string { return i.S },
		2: func() string { return b },
		7: func() string { return n8(x + y) },
		8: func() string { return n8(x - y) },
		9: func() string { return n8(x * y) },
		10: func() string {
			if b == c {
				return n8(1)
			}
			if b < c {
				return n8(0)
			}
			return n8(2)
		},
		11: func() string { return (b + c)[:min(64, len(b+c))] },
	}[i.Op]()
}

// byTheWords is what a transaction comes to, by the words of the document.
func byTheWords(l []api.Instr, state []api.Pair) api.Effect {
	w := words{tx: l, state: state}
	for !w.over {
		w.step()
	}
	x := api.Effect{Why: w.why, Steps: w.steps, Spans: span.Join(w.spans)}
	slices.Sort(w.reads)
	x.Reads = slices.Compact(w.reads)
	if w.why != 0 {
		return x
	}
	for _, y := range w.own {
		if y, _ = w.latest(y.K); !slices.Contains(x.Writes, y) {
			x.Writes = append(x.Writes, y)
		}
	}
	slices.SortFunc(x.Writes, func(a, b api.Write) int {
		if a.K < b.K {
			return -1
		}
		return 1
	})
	return x
}

func seeded() *rand.Rand { return rand.New(rand.NewPCG(8, 9)) }

// someTexts are texts that registers hold: keys near one another, ends of spans, numbers, and what is no key.
func someTexts() []string {
	return []string{"", "a", "a\x00", "ab", "b", "c", "d", "e", "f", "\x00", "\xff", n8(0), n8(1), n8(1 << 63), long(32), long(33), long(64)}
}

func pick[T any](r *rand.Rand, l []T) T { return l[r.IntN(len(l))] }

// someInstr is an instruction that may be, with so many behind it.
func someInstr(r *rand.Rand, behind int) api.Instr {
	ops := []int{1, 1, 1, 1, 2, 3, 3, 3, 4, 4, 4, 5, 5, 6, 6, 6, 7, 8, 9, 10, 11, 12, 12, 13, 14, 15}
	i := api.Instr{Op: pick(r, ops)}
	a, b, c := r.IntN(5), r.IntN(5), r.IntN(5)
	switch i.Op {
	case 1:
		i.A, i.S = a, pick(r, someTexts())
	case 2, 4:
		i.A, i.B = a, b
	case 5, 14:
		i.A = a
	case 6:
		i.A, i.B, i.C, i.N = a, b, c, 1+r.IntN(1+r.IntN(16))
	case 12, 13:
		if behind == 0 {
			return api.Instr{Op: api.OpHalt}
		}
		i.N = 1 + r.IntN(min(behind, 4))
		if i.Op == 12 {
			i.A = a
		}
	case 15:
	default:
		i.A, i.B, i.C = a, b, c
	}
	return i
}

// someTx begins with keys in all registers that it asks, so that it does not end at once.
func someTx(r *rand.Rand) []api.Instr {
	var l []api.Instr
	for a := range 5 {
		l = append(l, set(a, pick(r, someTexts()[1:9]))...)
	}
	n := r.IntN(30)
	for i := range n {
		l = append(l, someInstr(r, n-1-i))
	}
	return l
}

// greedy is a transaction that may make more steps than there are.
func greedy(r *rand.Rand) []api.Instr {
	var l []api.Instr
	for range 10 + r.IntN(10) {
		l = append(l, tx(set(0, pick(r, []string{"", "", "A", "a"})), set(1, pick(r, []string{"", "", "b", "z"})), scan(2, 0, 1, 10+r.IntN(7)))...)
	}
	return append(l, someTx(r)[:r.IntN(6)]...)
}

func someState(r *rand.Rand, texts []string) []api.Pair {
	m := map[string]string{}
	for range r.IntN(2 * len(texts)) {
		if k := pick(r, texts); k != "" && len(k) <= 32 {
			m[k] = pick(r, someTexts())
		}
	}
	return stateOf(m)
}

func stateOf(m map[string]string) []api.Pair {
	var l []api.Pair
	for k, v := range m {
		l = append(l, api.Pair{K: k, V: v})
	}
	slices.SortFunc(l, func(a, b api.Pair) int {
		if a.K < b.K {
			return -1
		}
		return 1
	})
	return l
}

// manyTexts are keys enough for scans that end with none of the steps left.
func manyTexts() []string {
	l := someTexts()
	for c := 'A'; c < 'w'; c++ {
		l = append(l, string(c))
	}
	return l
}

// cases hands on transactions that may be, each with a state.
func cases(t *testing.T, n int, do func(r *rand.Rand, l []api.Instr, state []api.Pair)) {
	t.Helper()
	r := seeded()
	for i := range n {
		l, state := someTx(r), someState(r, someTexts())
		if i%4 == 0 {
			l, state = greedy(r), someState(r, manyTexts())
		}
		if err, _ := prog.Check(l); err == api.OK {
			do(r, l, state)
		}
	}
}

// P8.1: what the document's words come to, many times.
func TestByTheWords(t *testing.T) {
	var ends [4]int
	cases(t, 20000, func(_ *rand.Rand, l []api.Instr, state []api.Pair) {
		want := byTheWords(l, state)
		ends[want.Why]++
		got, err := exec.Run(l, state)
		if err != api.OK || !equal(got, want) {
			t.Fatalf("%+v\non %q: %v,\n%+v; want\n%+v", l, state, err, got, want)
		}
	})
	for why, n := range ends {
		if n < 1000 {
			t.Errorf("too few end by %d: %d of %v", why, n, ends)
		}
	}
}

// changed is a state that has the same values of keys that were read, the same pairs in spans that were read, and others else.
func changed(r *rand.Rand, state []api.Pair, x api.Effect) []api.Pair {
	m := map[string]string{}
	for _, p := range state {
		m[p.K] = p.V
	}
	for _, k := range manyTexts() {
		if k == "" || len(k) > 32 || slices.Contains(x.Reads, k) || slices.ContainsFunc(x.Spans, func(s api.Span) bool { return span.In(s, k) }) {
			continue
		}
		switch r.IntN(3) {
		case 0:
			delete(m, k)
		case 1:
			m[k] = pick(r, someTexts())
		}
	}
	return stateOf(m)
}

// P8.2: what was not read does not matter.
func TestUnreadDoesNotMatter(t *testing.T) {
	unlike := 0
	cases(t, 10000, func(r *rand.Rand, l []api.Instr, state []api.Pair) {
		x, _ := exec.Run(l, state)
		other := changed(r, state, x)
		if !slices.Equal(other, state) {
			unlike++
		}
		if y, err := exec.Run(l, other); err != api.OK || !equal(x, y) {
			t.Fatalf("%+v\non %q: %+v,\non %q: %+v, %v", l, state, x, other, y, err)
		}
	})
	if unlike < 5000 {
		t.Error("too few states were unlike:", unlike)
	}
}

// P8.3: bounds of what is told.
func TestBounds(t *testing.T) {
	isKey := func(k string) bool { return len(k) >= 1 && len(k) <= 32 }
	cases(t, 10000, func(_ *rand.Rand, l []api.Instr, state []api.Pair) {
		x, _ := exec.Run(l, state)
		bad := x.Steps < 0 || x.Steps > 200 || x.Why < 0 || x.Why > 3 || x.Why != 0 && len(x.Writes) > 0
		for i, k := range x.Reads {
			bad = bad || !isKey(k) || i > 0 && k <= x.Reads[i-1]
		}
		for i, w := range x.Writes {
			bad = bad || !isKey(w.K) || len(w.V) > 64 || w.Del && w.V != "" || i > 0 && w.K <= x.Writes[i-1].K
		}
		for i, s := range x.Spans {
			bad = bad || len(s.Lo) > 64 || len(s.Hi) > 64 || span.Empty(s) || i > 0 && (x.Spans[i-1].Hi == "" || x.Spans[i-1].Hi >= s.Lo)
		}
		if bad {
			t.Fatalf("%+v\non %q: %+v", l, state, x)
		}
	})
}
