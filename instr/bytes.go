package instr

import (
	"timebound/api"
	"timebound/word"
)

// size is how many bytes an instruction has.
const size = 8

// Encode returns the bytes of instructions, eight for each: Ins; 16 A + B; C; Op; and Imm in four bytes, the highest one first. The errors are ErrLimit (more than MaxCode), and the first one of Check.
func Encode(l []api.Instr) ([]byte, api.Errno) {
	if len(l) > api.MaxCode {
		return nil, api.ErrLimit
	}
	b := make([]byte, 0, size*len(l))
	for _, i := range l {
		if e := Check(i); e != api.OK {
			return nil, e
		}
		b = write(b, i.Ins, i.A<<4|i.B, i.C, i.Op, i.Imm>>24, i.Imm>>16, i.Imm>>8, i.Imm)
	}
	return b, api.OK
}

// Decode returns the instructions, at most MaxCode, whose bytes are b, ErrForm if there are none.
func Decode(b []byte) ([]api.Instr, api.Errno) {
	if len(b)%size != 0 || len(b) > size*api.MaxCode {
		return nil, api.ErrForm
	}
	l := make([]api.Instr, 0, len(b)/size)
	for ; len(b) > 0; b = b[size:] {
		i := read([size]byte(b))
		if Check(i) != api.OK {
			return nil, api.ErrForm
		}
		l = append(l, i)
	}
	return l, api.OK
}

// write appends the low byte of each number, which of a negative one is that of 2^32 more.
func write(b []byte, numbers ...int) []byte {
	for _, n := range numbers {
		b = append(b, byte(n))
	}
	return b
}

// read returns the only instruction that can have these bytes, valid or not: of two numbers that differ by 2^32 only one is a word.
func read(b [size]byte) api.Instr {
	imm := int(b[4])<<24 | int(b[5])<<16 | int(b[6])<<8 | int(b[7])
	return api.Instr{Ins: int(b[0]), A: int(b[1] >> 4), B: int(b[1] & 15), C: int(b[2]), Op: int(b[3]), Imm: word.Wrap(imm)}
}
