package code

import (
	"retcon/api"
	"retcon/word"
)

// kinds tells which things each Op has, a letter each, in the order of their bytes: registers A, B, C; N as the entries of a scan (E), or as what is passed over (P); S.
// 0 is no Op, and has nothing: a reader that finds no Op so reads no further.
func kinds() [api.OpHalt + 1]string {
	return [...]string{
		api.OpSet:   "AS",
		api.OpMov:   "AB",
		api.OpGet:   "ABC",
		api.OpPut:   "AB",
		api.OpDel:   "A",
		api.OpScan:  "ABCE",
		api.OpAdd:   "ABC",
		api.OpSub:   "ABC",
		api.OpMul:   "ABC",
		api.OpCmp:   "ABC",
		api.OpCat:   "ABC",
		api.OpSkip:  "AP",
		api.OpJump:  "P",
		api.OpAbort: "A",
		api.OpHalt:  "",
	}
}

// part is a thing that an instruction has: a number and its bounds, or else a text.
type part struct {
	number    *int
	low, high int
	text      *string
}

// find tells the thing that a letter stands for.
func find(i *api.Instr, letter rune) part {
	switch letter {
	case 'A':
		return part{number: &i.A, high: api.Regs - 1}
	case 'B':
		return part{number: &i.B, high: api.Regs - 1}
	case 'C':
		return part{number: &i.C, high: api.Regs - 1}
	case 'E':
		return part{number: &i.N, low: 1, high: api.MaxScan}
	case 'P':
		return part{number: &i.N, low: 1, high: api.MaxProg}
	default:
		return part{text: &i.S}
	}
}

func (p part) fits() bool {
	if p.number == nil {
		return len(*p.text) <= api.MaxValue
	}
	return p.low <= *p.number && *p.number <= p.high
}

func (p part) clear() {
	if p.number == nil {
		*p.text = ""
		return
	}
	*p.number = 0
}

func (p part) write(w *word.Writer) {
	if p.number == nil {
		w.Text(*p.text)
		return
	}
	w.Int(*p.number)
}

func (p part) read(r *word.Reader) {
	if p.number == nil {
		*p.text = r.Text(api.MaxValue)
		return
	}
	*p.number = r.Int(p.low, p.high)
}
