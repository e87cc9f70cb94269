package instr

import (
	"bytes"
	"encoding/binary"
	"math"
	"math/rand"
	"slices"
	"testing"
	"timebound/api"
)

// random returns any valid instruction.
func random(r *rand.Rand) api.Instr {
	for {
		register := func() int { return r.Intn(api.Registers) * r.Intn(2) }
		imm := []int{0, r.Intn(api.MaxResources), r.Intn(api.MaxCode), int(int32(r.Uint32())), math.MinInt32, math.MaxInt32}
		i := ins(r.Intn(11), register(), register(), register(), r.Intn(api.Ne+1)*r.Intn(2), imm[r.Intn(len(imm))])
		if e, _, _ := expected(i); e == api.OK {
			return i
		}
	}
}

// P19.2

func TestBytes(t *testing.T) {
	for _, c := range []struct {
		i    api.Instr
		want []byte
	}{
		{api.Instr{}, []byte{0, 0, 0, 0, 0, 0, 0, 0}},
		{ins(api.InsEnd, 0, 0, 0, 0, 0), []byte{10, 0, 0, 0, 0, 0, 0, 0}},
		{ins(api.InsConst, 3, 0, 0, 0, -1), []byte{1, 48, 0, 0, 255, 255, 255, 255}},
		{ins(api.InsConst, 7, 0, 0, 0, math.MinInt32), []byte{1, 112, 0, 0, 128, 0, 0, 0}},
		{ins(api.InsConst, 7, 0, 0, 0, math.MaxInt32), []byte{1, 112, 0, 0, 127, 255, 255, 255}},
		{ins(api.InsConst, 0, 0, 0, 0, 0x01020304), []byte{1, 0, 0, 0, 1, 2, 3, 4}},
		{ins(api.InsConst, 0, 0, 0, 0, -0x01020304), []byte{1, 0, 0, 0, 254, 253, 252, 252}},
		{ins(api.InsConst, 0, 0, 0, 0, -256), []byte{1, 0, 0, 0, 255, 255, 255, 0}},
		{ins(api.InsCopy, 1, 2, 0, 0, 0), []byte{2, 18, 0, 0, 0, 0, 0, 0}},
		{ins(api.InsCopy, 7, 7, 0, 0, 0), []byte{2, 119, 0, 0, 0, 0, 0, 0}},
		{ins(api.InsBin, 1, 5, 7, api.Ne, 0), []byte{3, 21, 7, 14, 0, 0, 0, 0}},
		{ins(api.InsLoad, 4, 6, 0, 0, 1023), []byte{4, 70, 0, 0, 0, 0, 3, 255}},
		{ins(api.InsStore, 4, 6, 0, 0, 256), []byte{5, 70, 0, 0, 0, 0, 1, 0}},
		{ins(api.InsJump, 0, 0, 0, 0, 0x0203), []byte{6, 0, 0, 0, 0, 0, 2, 3}},
		{ins(api.InsZero, 5, 0, 0, 0, 9), []byte{7, 80, 0, 0, 0, 0, 0, 9}},
		{ins(api.InsLock, 0, 0, 0, 0, 3), []byte{8, 0, 0, 0, 0, 0, 0, 3}},
		{ins(api.InsUnlock, 0, 0, 0, 0, 1), []byte{9, 0, 0, 0, 0, 0, 0, 1}},
	} {
		if b, e := Encode([]api.Instr{c.i}); e != api.OK || !bytes.Equal(b, c.want) {
			t.Errorf("%+v: %v, error %d, not %v", c.i, b, e, c.want)
		}
		if l, e := Decode(c.want); e != api.OK || !slices.Equal(l, []api.Instr{c.i}) {
			t.Errorf("%v: %+v, error %d, not %+v", c.want, l, e, c.i)
		}
	}
}

func TestEncodeErrors(t *testing.T) {
	good, kind, form := ins(api.InsConst, 1, 0, 0, 0, 5), ins(11, 0, 0, 0, 0, 0), ins(api.InsConst, 8, 0, 0, 0, 5)
	many := make([]api.Instr, api.MaxCode+1)
	many[0], many[1] = kind, form
	for name, c := range map[string]struct {
		l    []api.Instr
		want api.Errno
	}{
		"none":                       {nil, api.OK},
		"an empty list":              {[]api.Instr{}, api.OK},
		"as many as can be":          {make([]api.Instr, api.MaxCode), api.OK},
		"one more":                   {make([]api.Instr, api.MaxCode+1), api.ErrLimit},
		"too many before all others": {many, api.ErrLimit},
		"kind":                       {[]api.Instr{good, kind}, api.ErrKind},
		"form":                       {[]api.Instr{good, form}, api.ErrForm},
		"kind before form":           {[]api.Instr{good, kind, form}, api.ErrKind},
		"form before kind":           {[]api.Instr{good, form, kind}, api.ErrForm},
		"the last one of many":       {append(make([]api.Instr, api.MaxCode-1), form), api.ErrForm},
	} {
		b, e := Encode(c.l)
		if e != c.want || e == api.OK && len(b) != 8*len(c.l) || e != api.OK && b != nil {
			t.Errorf("%s: error %d, %d bytes", name, e, len(b))
		}
	}
}

func TestDecodeErrors(t *testing.T) {
	good := []byte{1, 48, 0, 0, 0, 0, 0, 5}
	for name, c := range map[string]struct {
		b    []byte
		want api.Errno
	}{
		"none":                      {nil, api.OK},
		"an empty list":             {[]byte{}, api.OK},
		"two":                       {slices.Concat(good, good), api.OK},
		"as many as can be":         {make([]byte, 8*api.MaxCode), api.OK},
		"one more":                  {make([]byte, 8*api.MaxCode+8), api.ErrForm},
		"a byte more":               {make([]byte, 8*api.MaxCode+1), api.ErrForm},
		"a byte":                    {good[:1], api.ErrForm},
		"seven bytes":               {good[:7], api.ErrForm},
		"nine bytes":                {slices.Concat(good, []byte{0}), api.ErrForm},
		"fifteen bytes":             {slices.Concat(good, good[:7]), api.ErrForm},
		"no such Ins":               {[]byte{11, 0, 0, 0, 0, 0, 0, 0}, api.ErrForm},
		"no such Ins behind one":    {slices.Concat(good, []byte{255, 0, 0, 0, 0, 0, 0, 0}), api.ErrForm},
		"no register, A":            {[]byte{2, 8 << 4, 0, 0, 0, 0, 0, 0}, api.ErrForm},
		"no register, B":            {[]byte{2, 8, 0, 0, 0, 0, 0, 0}, api.ErrForm},
		"no register, C":            {[]byte{3, 0, 8, 1, 0, 0, 0, 0}, api.ErrForm},
		"no operator":               {[]byte{3, 0, 0, 0, 0, 0, 0, 0}, api.ErrForm},
		"no address":                {[]byte{4, 0, 0, 0, 0, 0, 4, 0}, api.ErrForm},
		"a negative address":        {[]byte{4, 0, 0, 0, 255, 255, 255, 255}, api.ErrForm},
		"no place of the code":      {[]byte{6, 0, 0, 0, 0, 0, 4, 0}, api.ErrForm},
		"a field that is not named": {[]byte{0, 0, 0, 0, 0, 0, 0, 1}, api.ErrForm},
	} {
		l, e := Decode(c.b)
		if e != c.want || e == api.OK && len(l) != len(c.b)/8 || e != api.OK && l != nil {
			t.Errorf("%s: error %d, %+v", name, e, l)
		}
	}
}

// Consequences

// TestThereAndBack writes and reads random lists, and holds the bytes against the chapter.
func TestThereAndBack(t *testing.T) {
	r := rand.New(rand.NewSource(1))
	for range 3000 {
		var list []api.Instr
		var want []byte
		for range r.Intn(20) {
			i := random(r)
			list = append(list, i)
			want = append(want, byte(i.Ins), byte(16*i.A+i.B), byte(i.C), byte(i.Op))
			want = binary.BigEndian.AppendUint32(want, uint32((i.Imm+1<<32)%(1<<32)))
		}
		given := slices.Clone(list)
		b, e := Encode(list)
		if e != api.OK || !bytes.Equal(b, want) || !slices.Equal(list, given) {
			t.Fatalf("%+v: error %d, %v, not %v", given, e, b, want)
		}
		l, e := Decode(b)
		if e != api.OK || !slices.Equal(l, list) || !bytes.Equal(b, want) {
			t.Fatalf("%v: error %d, %+v, not %+v", want, e, l, list)
		}
	}
}

// TestBytesChanged reads random bytes, most of which belong to an instruction but for one byte: what comes out has these bytes, and if nothing does, no instruction has them.
func TestBytesChanged(t *testing.T) {
	r := rand.New(rand.NewSource(2))
	read := 0
	for range 200000 {
		b, _ := Encode([]api.Instr{random(r)})
		for range r.Intn(3) {
			b[r.Intn(8)] = byte(r.Intn(256) >> r.Intn(8))
		}
		given := slices.Clone(b)
		l, e := Decode(b)
		wanted := ins(int(b[0]), int(b[1]/16), int(b[1]%16), int(b[2]), int(b[3]), int(int32(binary.BigEndian.Uint32(b[4:]))))
		if check, _, _ := expected(wanted); (check == api.OK) != (e == api.OK) {
			t.Fatalf("%v: error %d, but %d", b, e, check)
		}
		if e == api.OK {
			read++
		}
		if e == api.OK && !slices.Equal(l, []api.Instr{wanted}) || e != api.OK && (e != api.ErrForm || l != nil) || !bytes.Equal(b, given) {
			t.Fatalf("%v: error %d, %+v", given, e, l)
		}
	}
	if read < 50000 || read > 180000 {
		t.Errorf("%d of 200000 were read", read)
	}
}

// TestOthersDoNotMatter changes what was given and what was returned, with the room behind its end.
func TestOthersDoNotMatter(t *testing.T) {
	list := make([]api.Instr, 2, 9)
	b, _ := Encode(list)
	list[0].Ins = api.InsEnd
	if !bytes.Equal(b, make([]byte, 16)) {
		t.Errorf("%v", b)
	}
	room := append(make([]byte, 0, 64), b...)
	l, _ := Decode(room)
	_ = append(l, ins(api.InsEnd, 0, 0, 0, 0, 0))
	l[1].Ins = 5
	clear(room[:cap(room)])
	if m, e := Decode(b); e != api.OK || !slices.Equal(m, make([]api.Instr, 2)) || l[0] != (api.Instr{}) {
		t.Errorf("%+v, %+v", m, l)
	}
}

// TestAnything has numbers of all kinds in all fields: Encode says what Check says.
func TestAnything(t *testing.T) {
	r := rand.New(rand.NewSource(3))
	any := func() int {
		return []int{r.Intn(12), r.Intn(12), -r.Intn(3), int(r.Uint64()), math.MinInt, math.MaxInt}[r.Intn(6)]
	}
	for range 20000 {
		i := ins(any(), any(), any(), any(), any(), any())
		e, reads, writes := expected(i)
		b, f := Encode([]api.Instr{i})
		if f != e || Check(i) != e || !slices.Equal(Reads(i), reads) || Writes(i) != writes || e != api.OK && b != nil {
			t.Fatalf("%+v: %d, %d, %v", i, e, f, b)
		}
	}
}
