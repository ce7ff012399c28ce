package word

import "retcon/api"

// tape is what a writer and a reader both have: bytes, how far it came in them, and at most one fault, the first one.
// Both hold it by a pointer: one that nobody made has none, and a copy cannot come apart from what it was copied from.
type tape struct {
	bytes []byte
	at    int
	fault api.Fault
}

// giveUp is what a step panics with that has found a fault.
type giveUp api.Fault

// fail ends the step that is under way.
func (t *tape) fail(err api.Errno, at int) {
	panic(giveUp{Err: err, At: at})
}

// do makes a step, which tells where it ended: there the tape stands then.
// A step that gives up leaves it where it stood; its fault is caught here alone, and no step is made behind it.
func (t *tape) do(step func() int) {
	if t.fault.Err != api.OK {
		return
	}
	defer func() {
		switch x := recover().(type) {
		case nil:
		case giveUp:
			t.fault = api.Fault(x)
		default:
			panic(x) // no fault of the bytes: to swallow it would tell nothing as if it had been read
		}
	}()
	t.at = step()
}
