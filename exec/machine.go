package exec

import (
	"retcon/api"
	"retcon/keys"
	"retcon/span"
)

// machine is a run under way.
type machine struct {
	registers
	own
	tx    []api.Instr
	state []api.Pair
	does  deeds
	at    int
	steps int
	reads []string
	spans []api.Span
}

// ending is what a run panics with that ends: why it does.
type ending int

// step makes one step. That nothing is left counts ahead of that no step is left.
func (m *machine) step() {
	if m.at == len(m.tx) {
		panic(ending(api.EndDone))
	}
	m.spend()
	i := m.tx[m.at]
	m.at++
	m.does[i.Op](m, i)
}

// spend takes one of the steps that a run has.
func (m *machine) spend() {
	if m.steps == api.MaxFuel {
		panic(ending(api.EndFuel))
	}
	m.steps++
}

// effect is what the run came to.
func (m *machine) effect(why ending) api.Effect {
	told := api.Effect{Why: int(why), Steps: m.steps, Reads: keys.Sort(m.reads), Spans: span.Join(m.spans)}
	if why == api.EndDone {
		told.Writes = m.rising()
	}
	return told
}
