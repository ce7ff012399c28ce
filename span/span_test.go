package span_test

import (
	"bytes"
	"strings"
	"testing"

	"retcon/api"
	"retcon/span"
)

func s(lo, hi string) api.Span { return api.Span{Lo: lo, Hi: hi} }

// texts are all of at most two bytes out of the least, the greatest and some between; so the key right behind one of a byte is among them.
func texts() []string {
	letters := []string{"\x00", "a", "b", "\xff"}
	all := []string{""}
	for _, x := range letters {
		all = append(all, x)
		for _, y := range letters {
			all = append(all, x+y)
		}
	}
	return all
}

// spans are all whose ends are such texts: empty ones and endless ones too.
func spans() []api.Span {
	var all []api.Span
	for _, lo := range texts() {
		for _, hi := range texts() {
			all = append(all, s(lo, hi))
		}
	}
	return all
}

// probes are keys that tell spans of such ends apart: the ends, and the keys right behind them.
func probes() []string {
	var all []string
	for _, k := range texts() {
		all = append(all, k, k+"\x00", k+"\xff\xff")
	}
	return all
}

// less is the order of keys, sentence by sentence as the document says it.
func less(a, b string) bool {
	for i := range min(len(a), len(b)) {
		if a[i] != b[i] {
			return a[i] < b[i]
		}
	}
	return len(a) < len(b)
}

// in is whether a key is in a span, sentence by sentence as the document says it.
func in(x api.Span, k string) bool { return !less(k, x.Lo) && (x.Hi == "" || less(k, x.Hi)) }

// P3.1: the examples of the chapter.
func TestExamplesOfOne(t *testing.T) {
	if !span.In(s("b", "d"), "b") || span.In(s("b", "d"), "d") || !span.In(s("b", ""), "zz") {
		t.Error("In")
	}
	if !span.Empty(s("b", "b")) || span.Empty(s("", "")) {
		t.Error("Empty")
	}
	if !span.Meets(s("a", "c"), s("b", "d")) || span.Meets(s("a", "b"), s("b", "c")) || span.Meets(s("c", "b"), s("", "")) {
		t.Error("Meets")
	}
}

// P3.2: the examples of the chapter, and others of their kind.
func TestExamplesOfUpto(t *testing.T) {
	for _, x := range []struct{ got, want api.Span }{
		{span.One("k"), s("k", "k\x00")},
		{span.One(""), s("", "\x00")},
		{span.One("\x00"), s("\x00", "\x00\x00")},
		{span.One("\xff"), s("\xff", "\xff\x00")},
		{span.Upto(s("a", "z"), "k"), s("a", "k\x00")},
		{span.Upto(s("a", "c"), "k"), s("a", "c")},
		{span.Upto(s("a", ""), "k"), s("a", "k\x00")},
		{span.Upto(s("", ""), ""), s("", "\x00")},
		{span.Upto(s("a", "k"), "k"), s("a", "k")},
		{span.Upto(s("a", "k\x00"), "k"), s("a", "k\x00")},
		{span.Upto(s("a", "k\x00\x00"), "k"), s("a", "k\x00")},
		{span.Upto(s("a", "k\x01"), "k"), s("a", "k\x00")},
		{span.Upto(s("m", "z"), "k"), s("m", "k\x00")}, // none is not greater: empty
		{span.Upto(s("m", ""), "k"), s("m", "k\x00")},
		{span.Upto(s("c", "b"), "k"), s("c", "b")}, // empty already, and told as it was
		{span.Upto(s("z", "y"), "k"), s("z", "k\x00")},
	} {
		if x.got != x.want {
			t.Errorf("%q, want %q", x.got, x.want)
		}
	}
}

// P3.1: In, at all spans and keys.
func TestIn(t *testing.T) {
	for _, x := range spans() {
		for _, k := range probes() {
			if span.In(x, k) != in(x, k) {
				t.Errorf("%q in %q: %v", k, x, !in(x, k))
			}
		}
	}
}

// P3.1: the order is that of bytes, not of letters or of numbers; a beginning is less; texts that are too long for keys are held against one another likewise.
func TestOrder(t *testing.T) {
	long := strings.Repeat("k", 1000)
	rise := []string{"", "\x00", "\x00\x00", "\x00a", "\x01", "10", "9", "A", "Z", "a", "a\x00", "a\x00\x00", "a ", "aa", "b", "k", long[:32], long[:33], long, long + "\x00", long + "k", "\x7f", "\x80", "\xc3\xa9", "\xff", "\xff\x00", "\xff\xff", "\xff\xff\xff"}
	for i, a := range rise {
		for j, b := range rise {
			if bytes.Compare([]byte(a), []byte(b)) < 0 != (i < j) {
				t.Fatalf("%q, %q: the test's own order", a, b)
			}
			if span.In(s(a, ""), b) != (i <= j) {
				t.Errorf("%q in %q..", b, a)
			}
			if j > 0 && span.In(s("", b), a) != (i < j) {
				t.Errorf("%q in ..%q", a, b)
			}
			if span.Empty(s(a, b)) != (j > 0 && j <= i) {
				t.Errorf("empty %q..%q", a, b)
			}
		}
	}
}

// P3.1: all 256 bytes in their order.
func TestOrderOfEachByte(t *testing.T) {
	for x := range 256 {
		for y := range 256 {
			a, b := string([]byte{'k', byte(x)}), string([]byte{'k', byte(y)})
			if span.In(s(a, ""), b) != (x <= y) || span.In(s("", a), b) != (y < x) || span.Empty(s(a, b)) != (y <= x) {
				t.Fatal(x, y)
			}
		}
	}
}

// P3.1, P3.4: Empty is as the words say, and there no key is in, itself it does not meet; else Lo is in.
func TestEmpty(t *testing.T) {
	for _, x := range spans() {
		empty := x.Hi != "" && !less(x.Lo, x.Hi)
		if span.Empty(x) != empty || span.Meets(x, x) == empty || span.In(x, x.Lo) == empty {
			t.Errorf("%q: %v, meets itself %v, has its Lo %v", x, span.Empty(x), span.Meets(x, x), span.In(x, x.Lo))
		}
		some := false
		for _, k := range probes() {
			some = some || span.In(x, k)
		}
		if some == empty {
			t.Errorf("%q: has keys: %v", x, some)
		}
	}
}

// P3.1: Meets, at all pairs of spans, both ways round: a key is in both.
func TestMeets(t *testing.T) {
	all, keys := spans(), probes()
	for _, a := range all {
		for _, b := range all {
			want := false
			for _, k := range keys {
				if in(a, k) && in(b, k) {
					want = true
					break
				}
			}
			if span.Meets(a, b) != want {
				t.Fatalf("%q, %q: want %v", a, b, want)
			}
		}
	}
}

// P3.4: a span is empty, if and only if it meets none at all.
func TestMeetsNone(t *testing.T) {
	all := spans()
	for _, a := range all {
		some := false
		for _, b := range all {
			some = some || span.Meets(a, b)
		}
		if some == span.Empty(a) {
			t.Errorf("%q: meets some: %v", a, some)
		}
	}
}

// P3.2: One has its key, and no other one.
func TestOne(t *testing.T) {
	for _, k := range probes() {
		if got := span.One(k); got != s(k, k+"\x00") {
			t.Errorf("%q: %q", k, got)
		}
		for _, other := range probes() {
			if span.In(span.One(k), other) != (k == other) {
				t.Errorf("%q in that of %q", other, k)
			}
		}
	}
}

// P3.2: Upto has the keys that the span has, and that are not greater; it begins where the span does, and is the span itself where that ends no later.
func TestUpto(t *testing.T) {
	keys := probes()
	for _, x := range spans() {
		for _, k := range keys {
			got := span.Upto(x, k)
			want := s(x.Lo, k+"\x00")
			if x.Hi != "" && !less(k+"\x00", x.Hi) {
				want = x
			}
			if got != want {
				t.Fatalf("%q up to %q: %q, want %q", x, k, got, want)
			}
			for _, other := range keys {
				if span.In(got, other) != (in(x, other) && !less(k, other)) {
					t.Fatalf("%q up to %q: %q: %q", x, k, got, other)
				}
			}
		}
	}
}
