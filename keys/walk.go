package keys

// row is keys that rise.
type row []string

// head tells the first key, and whether there is one: "" may be a key, so it can't say that there is none.
func (r row) head() (string, bool) {
	if len(r) == 0 {
		return "", false
	}
	return r[0], true
}

// walk goes through a row once: what it embeds is what is left of it.
type walk struct{ row }

func (w *walk) step() { w.row = w.row[1:] }

// reach passes over the keys that are less than one, and tells whether that one comes next.
// Whoever asks for rising keys so never has to turn back.
func (w *walk) reach(k string) bool {
	for {
		h, ok := w.head()
		if !ok || h >= k {
			return ok && h == k
		}
		w.step()
	}
}

// sift tells the set of those of a that are in b, or of those that are not.
func sift(a, b []string, in bool) []string {
	var told []string
	mine, other := walk{Sort(a)}, walk{Sort(b)}
	for k, ok := mine.head(); ok; k, ok = mine.head() {
		if other.reach(k) == in {
			told = append(told, k)
		}
		mine.step()
	}
	return told
}
