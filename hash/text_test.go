package hash_test

import (
	"bytes"
	"encoding/hex"
	"math/rand/v2"
	"strings"
	"testing"

	"retcon/api"
	"retcon/hash"
)

const digits = "0123456789abcdef"

func anyID(r *rand.Rand) api.ID { return api.ID(anyBytes(r, 32)) }

// refused tells whether a text is none of a name, in the way that the document asks, at a place.
func refused(t *testing.T, s string, at int) {
	t.Helper()
	if id, f := hash.Parse(s); f != (api.Fault{Err: api.ErrBytes, At: at}) || id != (api.ID{}) {
		t.Errorf("%q: %x, %v; want noughts and ErrBytes at %d", s, id, f, at)
	}
}

// read tells whether a text is that of an ID.
func read(t *testing.T, s string, want api.ID) {
	t.Helper()
	if id, f := hash.Parse(s); f != (api.Fault{}) || id != want {
		t.Errorf("%q: %x, %v; want %x", s, id, f, want)
	}
}

// P2.2: the examples of the chapter, and others of their kind.
func TestParseExamples(t *testing.T) {
	noughts := strings.Repeat("0", 64)
	refused(t, "g"+noughts[1:], 0)
	refused(t, noughts[1:], 63)
	refused(t, noughts+"0", 64)
	refused(t, noughts+"-", 64)
	read(t, noughts, api.ID{})
	refused(t, "", 0)
	refused(t, "BA", 0)
	refused(t, "0x"+noughts, 1)
	refused(t, " "+noughts, 0)
	refused(t, noughts+"\n", 64)
	refused(t, noughts+noughts, 64)
	refused(t, noughts+"00000x", 69)
	refused(t, "00g0h", 2)
}

// P2.2: Text is 64 digits, a to f small; Parse reads them.
func TestTextOfIDs(t *testing.T) {
	r := seeded()
	for range 2000 {
		id := anyID(r)
		if s := hash.Text(id); s != hex.EncodeToString(id[:]) {
			t.Fatalf("%x: %q", id, s)
		}
		read(t, hash.Text(id), id)
	}
}

// P2.2: every byte, at every place of an ID.
func TestTextOfEachByte(t *testing.T) {
	for at := range 32 {
		for x := range 256 {
			var id api.ID
			id[at] = byte(x)
			s := hash.Text(id)
			if want := strings.Repeat("00", at) + digits[x/16:x/16+1] + digits[x%16:x%16+1] + strings.Repeat("00", 31-at); s != want {
				t.Fatalf("%x: %q, want %q", id, s, want)
			}
			read(t, s, id)
		}
	}
}

// P2.2: a byte that is none of the digits is told where it stands, at every place: all bytes that there are.
func TestParseEachByte(t *testing.T) {
	s := []byte(hash.Text(hash.Sum(nil)))
	for at := range s {
		for x := range 256 {
			with := bytes.Clone(s)
			with[at] = byte(x)
			if strings.IndexByte(digits, byte(x)) < 0 {
				refused(t, string(with), at)
			} else if id, f := hash.Parse(string(with)); f != (api.Fault{}) || hash.Text(id) != string(with) {
				t.Errorf("%q: %x, %v", with, id, f)
			}
		}
	}
}

// P2.2: of digits alone there are fewer than 64, or more.
func TestParseLengths(t *testing.T) {
	for n := range 300 {
		if n != 64 {
			refused(t, strings.Repeat("7", n), min(n, 64))
		}
	}
}

// P2.2: a byte that is none of the digits goes ahead of a length that is none, wherever both are; the first one is told.
func TestParseFirstByte(t *testing.T) {
	for n := range 140 {
		for at := range n {
			s := []byte(strings.Repeat("a", n))
			s[at] = 'A'
			refused(t, string(s), at)
			for later := at + 1; later < n; later += 13 {
				s[later] = '/'
				refused(t, string(s), at)
			}
		}
	}
}

// P2.4: a digit in another's stead names another ID, that differs there alone.
func TestAnotherDigit(t *testing.T) {
	id := hash.Sum([]byte("abc"))
	s := hash.Text(id)
	for at := range s {
		for _, c := range []byte(digits) {
			other, f := hash.Parse(s[:at] + string(c) + s[at+1:])
			if f != (api.Fault{}) || (other == id) != (c == s[at]) {
				t.Errorf("%q at %d: %x, %v", c, at, other, f)
			}
			half := [2]byte{id[at/2] / 16, id[at/2] % 16}
			half[at%2] = byte(strings.IndexByte(digits, c))
			want := id
			want[at/2] = 16*half[0] + half[1]
			if other != want {
				t.Errorf("%q at %d: %x, want %x", c, at, other, want)
			}
		}
	}
}

// P2.4: the order of names is that of their texts.
func TestOrderOfTexts(t *testing.T) {
	r := seeded()
	ids := []api.ID{{}, {31: 1}, {31: 9}, {31: 10}, {31: 15}, {31: 16}, {31: 159}, {31: 160}, {31: 255}, {0: 9}, {0: 10}, {0: 255}, {0: 127}, {0: 128}, {15: 1}}
	for range 200 {
		near := anyID(r)
		ids = append(ids, near)
		near[r.IntN(32)]++
		ids = append(ids, near)
	}
	for _, a := range ids {
		for _, b := range ids {
			if x, y := bytes.Compare(a[:], b[:]), strings.Compare(hash.Text(a), hash.Text(b)); x != y {
				t.Fatalf("%x, %x: %d, as texts %d", a, b, x, y)
			}
		}
	}
}

// P2.4 (P2): whatever is read is written as it was, or there is a place up to which it could be a name's text, and with which it could not.
func TestAnyText(t *testing.T) {
	r := seeded()
	const letters = digits + digits + digits + "gA/:`@ \x00\xff"
	for range 20000 {
		b := make([]byte, 60+r.IntN(8))
		kinds := len(digits)
		if r.IntN(2) == 0 {
			kinds = len(letters)
		}
		for i := range b {
			b[i] = letters[r.IntN(kinds)]
		}
		s := string(b)
		id, f := hash.Parse(s)
		if f == (api.Fault{}) {
			if hash.Text(id) != s {
				t.Fatalf("%q: %x, written %q", s, id, hash.Text(id))
			}
			continue
		}
		if f.Err != api.ErrBytes || f.At < 0 || f.At > len(s) || id != (api.ID{}) || strings.Trim(s[:f.At], digits) != "" {
			t.Fatalf("%q: %x, %v", s, id, f)
		}
		if f.At < 64 && f.At < len(s) && strings.IndexByte(digits, s[f.At]) >= 0 {
			t.Fatalf("%q: %v, where a digit stands", s, f)
		}
	}
}
