package replay

import (
	"retcon/api"
	"retcon/cell"
	"retcon/exec"
)

// state is where a log has led to.
type state struct{ pairs []api.Pair }

// lay lays writes behind the state, which is new memory then.
func (s *state) lay(w ...api.Write) api.Errno {
	behind, err := cell.Apply(s.pairs, w)
	if err != api.OK {
		return err
	}
	s.pairs = behind
	return api.OK
}

// run is a log, and the state that it has led to.
type run struct {
	state
	log [][]api.Instr
}

// effects yields what each transaction comes to, by its place, on the state that stands when its turn comes: who ranges over it lays the writes between.
// There is no error, since the log may be, and the state is one.
func (r *run) effects(yield func(int, api.Effect) bool) {
	for i, tx := range r.log {
		x, _ := exec.Run(tx, r.pairs)
		if !yield(i, x) {
			return
		}
	}
}
