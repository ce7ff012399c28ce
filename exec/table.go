package exec

import (
	"cmp"

	"retcon/api"
	"retcon/cell"
)

// deeds tells by an Op what is done. No Op is 0.
type deeds [api.OpHalt + 1]func(*machine, api.Instr)

func table() deeds {
	return deeds{
		api.OpSet:   (*machine).set,
		api.OpMov:   (*machine).mov,
		api.OpGet:   (*machine).get,
		api.OpPut:   (*machine).put,
		api.OpDel:   (*machine).del,
		api.OpScan:  (*machine).scan,
		api.OpAdd:   (*machine).add,
		api.OpSub:   (*machine).sub,
		api.OpMul:   (*machine).mul,
		api.OpCmp:   (*machine).cmp,
		api.OpCat:   (*machine).cat,
		api.OpSkip:  (*machine).skip,
		api.OpJump:  (*machine).jump,
		api.OpAbort: (*machine).abort,
		api.OpHalt:  (*machine).halt,
	}
}

func (m *machine) set(i api.Instr) { m.lay(i.A, i.S) }

func (m *machine) mov(i api.Instr) { m.lay(i.A, m.text(i.B)) }

func (m *machine) put(i api.Instr) { m.write(api.Write{K: m.key(i.A), V: m.text(i.B)}) }

func (m *machine) del(i api.Instr) { m.write(api.Write{K: m.key(i.A), Del: true}) }

func (m *machine) add(i api.Instr) { m.layNumber(i.A, m.number(i.B)+m.number(i.C)) }

func (m *machine) sub(i api.Instr) { m.layNumber(i.A, m.number(i.B)-m.number(i.C)) }

func (m *machine) mul(i api.Instr) { m.layNumber(i.A, m.number(i.B)*m.number(i.C)) }

func (m *machine) cmp(i api.Instr) {
	m.layNumber(i.A, uint64(1+cmp.Compare(m.text(i.B), m.text(i.C))))
}

func (m *machine) cat(i api.Instr) {
	s := m.text(i.B) + m.text(i.C)
	m.lay(i.A, s[:min(len(s), api.MaxValue)])
}

func (m *machine) skip(i api.Instr) {
	if m.number(i.A) == 0 {
		m.jump(i)
	}
}

func (m *machine) jump(i api.Instr) { m.at += i.N }

func (m *machine) abort(i api.Instr) {
	if m.number(i.A) != 0 {
		panic(ending(api.EndAbort))
	}
}

func (m *machine) halt(api.Instr) { panic(ending(api.EndDone)) }

// key is the key in a register: where there is none, the run ends.
func (m *machine) key(n int) string {
	k := m.text(n)
	if !cell.Key(k) {
		panic(ending(api.EndKey))
	}
	return k
}
