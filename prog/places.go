package prog

import (
	"slices"

	"retcon/api"
	"retcon/code"
	"retcon/word"
)

// places is room for where each instruction begins in a transaction's bytes, and for where the last one ends, at the place behind it.
type places [api.MaxProg + 1]int

// read fills a list with the instructions that stand in bytes from a place on, and tells where each begins.
func (p *places) read(l []api.Instr, b []byte, at int) ([]int, api.Fault) {
	begins := p[:len(l)+1]
	begins[0] = at
	for n := range l {
		i, end, f := code.Read(b, begins[n])
		if f.Err != api.OK {
			return nil, f
		}
		l[n], begins[n+1] = i, end
	}
	return begins, api.Fault{}
}

// measure tells where each instruction begins in the bytes of a list of such as may be.
func (p *places) measure(l []api.Instr) []int {
	begins := p[:len(l)+1]
	begins[0] = word.Size(len(l))
	for n, i := range l {
		begins[n+1] = begins[n] + code.Size(i)
	}
	return begins
}

// overlong tells the first instruction with which the bytes are too many: -1, if there is none.
func overlong(l []api.Instr) int {
	var room places
	ends := room.measure(l)[1:]
	return slices.IndexFunc(ends, func(end int) bool { return end > api.MaxCode })
}

// beyond tells the first instruction that passes over more than stand behind it: -1, if there is none.
func beyond(l []api.Instr) int {
	for n, i := range l {
		if passes(i) > len(l)-1-n {
			return n
		}
	}
	return -1
}

// passes tells how many instructions one may pass over: a scan's N is about something else.
func passes(i api.Instr) int {
	if i.Op == api.OpSkip || i.Op == api.OpJump {
		return i.N
	}
	return 0
}

func mayNot(i api.Instr) bool { return code.Check(i) != api.OK }

// head is what stands ahead of the instructions: how many they are.
func head(n int) []byte {
	w := word.New()
	w.Int(n)
	b, _ := w.Out()
	return b
}

// joined is lists of bytes, one behind the other, in memory of its own.
func joined(lists ...[]byte) []byte {
	var all []byte
	for _, l := range lists {
		all = append(all, l...)
	}
	return all
}
