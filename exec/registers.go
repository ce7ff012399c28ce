package exec

import (
	"retcon/api"
	"retcon/word"
)

// registers hold a text each.
type registers [api.Regs]string

func (r *registers) text(n int) string { return r[n] }

func (r *registers) number(n int) uint64 { return word.Num(r[n]) }

func (r *registers) lay(n int, s string) { r[n] = s }

func (r *registers) layNumber(n int, v uint64) { r[n] = word.Val(v) }
