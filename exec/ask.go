package exec

import (
	"retcon/api"
	"retcon/cell"
	"retcon/keys"
	"retcon/span"
)

func (m *machine) get(i api.Instr) {
	v, there := m.value(m.key(i.B))
	m.lay(i.A, v)
	n := uint64(0)
	if there {
		n = 1
	}
	m.layNumber(i.C, n)
}

// value is what the run sees of a key. What it wrote itself is no reading: no other state would tell it otherwise.
func (m *machine) value(k string) (string, bool) {
	if w, ok := m.written(k); ok {
		return w.V, !w.Del
	}
	m.reads = append(m.reads, k)
	return cell.Get(m.state, k)
}

// scan counts the whole span as read till it is through, since the run may end within.
func (m *machine) scan(i api.Instr) {
	s := api.Span{Lo: m.text(i.B), Hi: m.text(i.C)}
	m.spans = append(m.spans, s)
	found := m.find(s, i.N)
	last := ""
	for _, k := range found {
		m.spend()
		last = k
	}
	if len(found) == i.N {
		m.spans[len(m.spans)-1] = span.Upto(s, last)
	}
	m.lay(i.A, last)
	m.layNumber(i.C, uint64(len(found)))
}

// find tells the first keys of a span that the run sees, at most so many.
// The state is asked for as many more as may be gone.
func (m *machine) find(s api.Span, most int) []string {
	there, gone := m.within(s)
	for _, p := range cell.Scan(m.state, s, most+len(gone)) {
		there = append(there, p.K)
	}
	found := keys.Minus(there, gone)
	return found[:min(len(found), most)]
}
