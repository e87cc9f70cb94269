package instr

import (
	"math"
	"slices"
	"strings"
	"testing"
	"timebound/api"
)

// row is a line of the chapter's table: the names of the fields, and of those whose registers are read and written.
type row struct{ fields, reads, writes string }

// chapter is the chapter's table, by Ins.
var chapter = []row{
	api.InsNop:    {},
	api.InsConst:  {"A Imm", "", "A"},
	api.InsCopy:   {"A B", "B", "A"},
	api.InsBin:    {"A B C Op", "B C", "A"},
	api.InsLoad:   {"A B Imm", "B", "A"},
	api.InsStore:  {"A B Imm", "A B", ""},
	api.InsJump:   {"Imm", "", ""},
	api.InsZero:   {"A Imm", "A", ""},
	api.InsLock:   {"Imm", "", ""},
	api.InsUnlock: {"Imm", "", ""},
	api.InsEnd:    {},
}

// most is the greatest Imm of each Ins that has one.
var most = map[int]int{
	api.InsConst: math.MaxInt32, api.InsLoad: api.MaxData - 1, api.InsStore: api.MaxData - 1,
	api.InsJump: api.MaxCode - 1, api.InsZero: api.MaxCode - 1,
	api.InsLock: api.MaxResources - 1, api.InsUnlock: api.MaxResources - 1,
}

func ins(kind, a, b, c, op, imm int) api.Instr {
	return api.Instr{Ins: kind, A: a, B: b, C: c, Op: op, Imm: imm}
}

// field returns a field by its name.
func field(i api.Instr, name string) int {
	return map[string]int{"A": i.A, "B": i.B, "C": i.C, "Op": i.Op, "Imm": i.Imm}[name]
}

// right reports whether a field is what the chapter says of it.
func right(i api.Instr, name string) bool {
	n := field(i, name)
	switch {
	case !slices.Contains(strings.Fields(chapter[i.Ins].fields), name):
		return n == 0
	case name == "Op":
		return n >= api.Add && n <= api.Ne
	case name == "Imm" && i.Ins == api.InsConst:
		return n >= math.MinInt32 && n <= math.MaxInt32
	case name == "Imm":
		return n >= 0 && n <= most[i.Ins]
	}
	return n >= 0 && n < api.Registers
}

// expected is what the chapter says of an instruction, sentence by sentence.
func expected(i api.Instr) (e api.Errno, reads []int, writes int) {
	if i.Ins < 0 || i.Ins >= len(chapter) {
		return api.ErrKind, nil, 0
	}
	for _, name := range []string{"A", "B", "C", "Op", "Imm"} {
		if !right(i, name) {
			return api.ErrForm, nil, 0
		}
	}
	for register := 1; register < api.Registers; register++ {
		for _, name := range strings.Fields(chapter[i.Ins].reads) {
			if field(i, name) == register && !slices.Contains(reads, register) {
				reads = append(reads, register)
			}
		}
	}
	if chapter[i.Ins].writes != "" {
		writes = field(i, chapter[i.Ins].writes)
	}
	return api.OK, reads, writes
}

// TestChapter puts numbers at and around all ends into each field, in all combinations, and holds the results against the chapter.
func TestChapter(t *testing.T) {
	kinds := []int{math.MinInt, -1 << 32, -256, -2, -1, 0, 1, 2, 3, 4, 5, 6, 7, 8, 9, 10, 11, 12, 16, 255, 256, 257, 1 << 32, math.MaxInt}
	few := []int{math.MinInt, -1, 0, 1, 6, 7, 8, 16, 1 << 32, math.MaxInt}
	operators := []int{-1, 0, api.Add, api.Shr, api.Ne, api.Ne + 1, 256 + api.Add, math.MinInt}
	imms := []int{math.MinInt, -1<<32 - 1, -1 << 32, math.MinInt32 - 1, math.MinInt32, -1, 0, 1, api.MaxResources - 1, api.MaxResources, api.MaxCode - 1, api.MaxCode, math.MaxInt32, math.MaxInt32 + 1, 1 << 32, math.MaxInt}
	valid := 0
	for _, kind := range kinds {
		for n := range len(few) * len(few) * len(few) {
			a, b, c := few[n%10], few[n/10%10], few[n/100]
			for _, op := range operators {
				for _, imm := range imms {
					i := ins(kind, a, b, c, op, imm)
					e, reads, writes := expected(i)
					if e == api.OK {
						valid++
					}
					if Check(i) != e || !slices.Equal(Reads(i), reads) || Writes(i) != writes {
						t.Fatalf("%+v: %d, %v, %d, not %d, %v, %d", i, Check(i), Reads(i), Writes(i), e, reads, writes)
					}
				}
			}
		}
	}
	if valid < 400 {
		t.Errorf("only %d valid instructions", valid)
	}
}

// P19.1

func TestCheck(t *testing.T) {
	for _, c := range []struct {
		i    api.Instr
		want api.Errno
	}{
		{api.Instr{}, api.OK},
		{ins(api.InsEnd, 0, 0, 0, 0, 0), api.OK},
		{ins(api.InsConst, 3, 0, 0, 0, -1), api.OK},
		{ins(api.InsConst, 3, 0, 0, 0, math.MinInt32), api.OK},
		{ins(api.InsConst, 3, 0, 0, 0, math.MaxInt32), api.OK},
		{ins(api.InsConst, 3, 0, 0, 0, math.MinInt32-1), api.ErrForm},
		{ins(api.InsConst, 3, 0, 0, 0, math.MaxInt32+1), api.ErrForm},
		{ins(api.InsCopy, 7, 7, 0, 0, 0), api.OK},
		{ins(api.InsCopy, 8, 0, 0, 0, 0), api.ErrForm},
		{ins(api.InsCopy, 0, 8, 0, 0, 0), api.ErrForm},
		{ins(api.InsBin, 0, 0, 0, api.Add, 0), api.OK},
		{ins(api.InsBin, 7, 7, 7, api.Ne, 0), api.OK},
		{ins(api.InsBin, 7, 7, 8, api.Ne, 0), api.ErrForm},
		{ins(api.InsBin, 1, 1, 1, 0, 0), api.ErrForm},
		{ins(api.InsBin, 1, 1, 1, api.Ne+1, 0), api.ErrForm},
		{ins(api.InsLoad, 1, 2, 0, 0, 1023), api.OK},
		{ins(api.InsLoad, 1, 2, 0, 0, 1024), api.ErrForm},
		{ins(api.InsStore, 1, 2, 0, 0, 1023), api.OK},
		{ins(api.InsStore, 1, 2, 0, 0, -1), api.ErrForm},
		{ins(api.InsJump, 0, 0, 0, 0, 1023), api.OK},
		{ins(api.InsJump, 0, 0, 0, 0, 1024), api.ErrForm},
		{ins(api.InsZero, 7, 0, 0, 0, 1023), api.OK},
		{ins(api.InsZero, 7, 0, 0, 0, 1024), api.ErrForm},
		{ins(api.InsLock, 0, 0, 0, 0, 3), api.OK},
		{ins(api.InsLock, 0, 0, 0, 0, 4), api.ErrForm},
		{ins(api.InsUnlock, 0, 0, 0, 0, 3), api.OK},
		{ins(api.InsUnlock, 0, 0, 0, 0, -1), api.ErrForm},
		// ErrKind comes first: what there is none of has no fields to look at.
		{ins(11, 9, 9, 9, 99, -5), api.ErrKind},
		{ins(-1, 9, 9, 9, 99, -5), api.ErrKind},
	} {
		if e := Check(c.i); e != c.want {
			t.Errorf("%+v: %d, not %d", c.i, e, c.want)
		}
	}
}

func TestReadsAndWrites(t *testing.T) {
	for _, c := range []struct {
		i      api.Instr
		reads  []int
		writes int
	}{
		{ins(api.InsConst, 3, 0, 0, 0, -1), nil, 3},
		{ins(api.InsConst, 0, 0, 0, 0, 9), nil, 0},
		{ins(api.InsCopy, 3, 5, 0, 0, 0), []int{5}, 3},
		{ins(api.InsCopy, 3, 3, 0, 0, 0), []int{3}, 3},
		{ins(api.InsCopy, 3, 0, 0, 0, 0), nil, 3},
		{ins(api.InsBin, 1, 5, 2, api.Sub, 0), []int{2, 5}, 1},
		{ins(api.InsBin, 1, 2, 5, api.Sub, 0), []int{2, 5}, 1},
		{ins(api.InsBin, 1, 5, 5, api.Sub, 0), []int{5}, 1},
		{ins(api.InsBin, 1, 0, 5, api.Sub, 0), []int{5}, 1},
		{ins(api.InsBin, 1, 5, 0, api.Sub, 0), []int{5}, 1},
		{ins(api.InsBin, 1, 0, 0, api.Sub, 0), nil, 1},
		{ins(api.InsLoad, 4, 6, 0, 0, 9), []int{6}, 4},
		{ins(api.InsStore, 4, 3, 0, 0, 9), []int{3, 4}, 0},
		{ins(api.InsStore, 4, 4, 0, 0, 9), []int{4}, 0},
		{ins(api.InsStore, 4, 0, 0, 0, 9), []int{4}, 0},
		{ins(api.InsStore, 0, 0, 0, 0, 9), nil, 0},
		{ins(api.InsZero, 2, 0, 0, 0, 9), []int{2}, 0},
		{ins(api.InsZero, 0, 0, 0, 0, 9), nil, 0},
		{ins(api.InsJump, 0, 0, 0, 0, 5), nil, 0},
		{ins(api.InsLock, 0, 0, 0, 0, 2), nil, 0},
		{ins(api.InsEnd, 0, 0, 0, 0, 0), nil, 0},
		// Those that are not valid.
		{ins(api.InsCopy, 3, 5, 1, 0, 0), nil, 0},
		{ins(api.InsBin, 3, 5, 1, 0, 0), nil, 0},
		{ins(api.InsLoad, 3, 5, 0, 0, -1), nil, 0},
		{ins(11, 3, 5, 0, 0, 0), nil, 0},
	} {
		if r, w := Reads(c.i), Writes(c.i); !slices.Equal(r, c.reads) || w != c.writes {
			t.Errorf("%+v: reads %v, writes %d, not %v, %d", c.i, r, w, c.reads, c.writes)
		}
	}
}

// TestReadsAreNew changes a list of registers, with the room behind its end: the next one does not know of it.
func TestReadsAreNew(t *testing.T) {
	i := ins(api.InsBin, 1, 0, 5, api.Add, 0)
	l := Reads(i)
	l = append(l, 6, 7)
	l[0] = 9
	if again := Reads(i); !slices.Equal(again, []int{5}) {
		t.Errorf("%v", again)
	}
}
