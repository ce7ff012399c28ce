package hash_test

import (
	"bytes"
	"crypto/sha256"
	"math/rand/v2"
	"strings"
	"testing"

	"retcon/api"
	"retcon/hash"
)

// anyBytes are some that look like chance and are the same each time.
func anyBytes(r *rand.Rand, n int) []byte {
	b := make([]byte, n)
	for i := range b {
		b[i] = byte(r.Uint32())
	}
	return b
}

func seeded() *rand.Rand { return rand.New(rand.NewPCG(1, 2)) }

// P2.1: the examples of the chapter.
func TestExamples(t *testing.T) {
	for _, x := range []struct{ in, want string }{
		{"", "e3b0c44298fc1c149afbf4c8996fb92427ae41e4649b934ca495991b7852b855"},
		{"abc", "ba7816bf8f01cfea414140de5dae2223b00361a396177a9cb410ff61f20015ad"},
		{"abcdbcdecdefdefgefghfghighijhijkijkljklmklmnlmnomnopnopq", "248d6a61d20638b8e5c026930c3e6039a33ce45964ff2167f6ecedd419db06c1"},
		{strings.Repeat("a", 1000000), "cdc76e5c9914fb9281a1c7e284d73e67f1809a48a497200e046d39ccc7112cd0"},
	} {
		if got := hash.Text(hash.Sum([]byte(x.in))); got != x.want {
			t.Errorf("%d bytes: %s, want %s", len(x.in), got, x.want)
		}
	}
}

// P2.1: messages of all lengths about the ends of blocks, of noughts, of the greatest bytes, of any.
func TestSumOfAllLengths(t *testing.T) {
	r := seeded()
	for n := range 400 {
		for _, b := range [][]byte{make([]byte, n), bytes.Repeat([]byte{255}, n), anyBytes(r, n)} {
			if got, want := hash.Sum(b), sha256.Sum256(b); got != want {
				t.Fatalf("%d bytes: %x, want %x", n, got, want)
			}
		}
	}
}

// P2.1: a message of one bit, wherever it stands.
func TestSumOfEachBit(t *testing.T) {
	for i := range 130 * 8 {
		b := make([]byte, 130)
		b[i/8] = 1 << (i % 8)
		if got, want := hash.Sum(b), sha256.Sum256(b); got != want {
			t.Fatalf("bit %d: %x, want %x", i, got, want)
		}
	}
}

// P2.1: the number of bits has eight bytes: a message of 2^32 of them and more.
func TestSumOfManyBits(t *testing.T) {
	if testing.Short() {
		t.Skip("half a gigabyte")
	}
	piece := anyBytes(seeded(), 1<<22)
	d, want := hash.New(), sha256.New()
	for range 128 {
		d.Write(piece)
		want.Write(piece)
	}
	d.Write([]byte("retcon"))
	want.Write([]byte("retcon"))
	if id := d.Sum(); d.Len() != 1<<29+6 || !bytes.Equal(id[:], want.Sum(nil)) {
		t.Errorf("%d bytes: %x, want %x", d.Len(), id, want.Sum(nil))
	}
}

// P2.1: a digest that was just begun has no bytes.
func TestNew(t *testing.T) {
	if d := hash.New(); d.Len() != 0 || d.Sum() != hash.Sum(nil) || d.Sum() != hash.Sum([]byte{}) {
		t.Error(d.Len(), d.Sum())
	}
}

// P2.1: Write puts bytes behind those that are there, wherever the message is parted; none are nothing.
func TestWriteInTwo(t *testing.T) {
	b := anyBytes(seeded(), 200)
	for n := range len(b) + 1 {
		for at := range n + 1 {
			d := hash.New()
			d.Write(b[:at])
			d.Write(nil)
			d.Write(b[at:n])
			d.Write([]byte{})
			if d.Sum() != sha256.Sum256(b[:n]) || d.Len() != n {
				t.Fatalf("%d bytes, parted at %d: %x, %d", n, at, d.Sum(), d.Len())
			}
		}
	}
}

// P2.1: Sum and Len are told at every place, and what was told takes nothing away from what is written behind it.
func TestSumKeeps(t *testing.T) {
	b := anyBytes(seeded(), 300)
	d := hash.New()
	for n := range b {
		for range 3 {
			if d.Sum() != sha256.Sum256(b[:n]) || d.Len() != n {
				t.Fatalf("%d bytes: %x, %d", n, d.Sum(), d.Len())
			}
		}
		d.Write(b[n : n+1])
	}
}

// P2.1 (rule 5): digests that are none take nothing and tell noughts.
func TestNone(t *testing.T) {
	for _, d := range []*hash.Digest{nil, {}, new(hash.Digest)} {
		for _, b := range [][]byte{nil, []byte("abc"), make([]byte, 64), make([]byte, 1000)} {
			d.Write(b)
			if d.Sum() != (api.ID{}) || d.Len() != 0 {
				t.Error(d.Sum(), d.Len())
			}
		}
	}
}

// P2.1 (rule 4): what is handed in is not changed, nor looked at later; its spare room is left alone.
func TestBytesHandedIn(t *testing.T) {
	r := seeded()
	for n := range 200 {
		room := anyBytes(r, n+80)
		before := bytes.Clone(room)
		want := sha256.Sum256(room[:n])
		d := hash.New()
		d.Write(room[:n])
		if hash.Sum(room[:n]) != want || d.Sum() != want || !bytes.Equal(room, before) {
			t.Fatalf("%d bytes: changed, or spare room was read", n)
		}
		clear(room)
		if d.Sum() != want {
			t.Fatalf("%d bytes: what was handed in was kept", n)
		}
	}
}

// P2.3: digests that grow side by side, in any pieces, and are asked at any time, do not touch one another.
func TestSideBySide(t *testing.T) {
	r := seeded()
	var digests [7]*hash.Digest
	var have [len(digests)][]byte
	for i := range digests {
		digests[i] = hash.New()
	}
	for range 3000 {
		i := r.IntN(len(digests))
		b := anyBytes(r, r.IntN(150))
		digests[i].Write(b)
		have[i] = append(have[i], b...)
		for j, d := range digests {
			if r.IntN(40) == 0 && (d.Sum() != sha256.Sum256(have[j]) || d.Len() != len(have[j])) {
				t.Fatalf("digest %d of %d bytes: %x, %d", j, len(have[j]), d.Sum(), d.Len())
			}
		}
	}
	for j, d := range digests {
		if d.Sum() != sha256.Sum256(have[j]) || d.Len() != len(have[j]) {
			t.Errorf("digest %d of %d bytes: %x, %d", j, len(have[j]), d.Sum(), d.Len())
		}
	}
}

// P2.3: so do digests that grow at the same time.
func TestAtTheSameTime(t *testing.T) {
	b := anyBytes(seeded(), 5000)
	want := sha256.Sum256(b)
	told := make(chan api.ID)
	for i := range 8 {
		go func() {
			d := hash.New()
			for at := 0; at < len(b); at += i + 1 {
				d.Write(b[at:min(at+i+1, len(b))])
			}
			told <- d.Sum()
		}()
	}
	for range 8 {
		if id := <-told; id != want {
			t.Errorf("%x, want %x", id, want)
		}
	}
}

// P2.3: a digest is the ID of what it has, however that came: in one, byte by byte, in blocks, in pieces just short of them or just beyond.
func TestHoweverItCame(t *testing.T) {
	b := anyBytes(seeded(), 1000)
	for n := 0; n <= len(b); n += 37 {
		for _, piece := range []int{1, 2, 3, 55, 56, 57, 63, 64, 65, 127, 128, 129, 1000} {
			d := hash.New()
			for at := 0; at < n; at += piece {
				d.Write(b[at:min(at+piece, n)])
			}
			if d.Sum() != hash.Sum(b[:n]) || d.Len() != n {
				t.Fatalf("%d bytes, by %d: %x, %d", n, piece, d.Sum(), d.Len())
			}
		}
	}
}
