package msg

import (
	"math"
	"math/rand"
	"slices"
	"strings"
	"testing"

	"chatelaine/api"
	"chatelaine/ballot"
	"chatelaine/code"
	"chatelaine/seal"
)

// some returns n bytes.
func some(g *rand.Rand, n int) string {
	b := make([]byte, n)
	g.Read(b)
	return string(b)
}

// full returns a message in which no field is zero.
func full() Msg {
	return Msg{
		Kind: Promise, From: 11, To: 10, Sub: 3,
		Ballot: ballot.Ballot{C: 300, N: 9}, Slot: 252, Time: 1 << 40,
		OK: true, Text: "ab",
		List: []Entry{{Slot: 5, Ballot: ballot.Ballot{C: 2, N: 1}, Text: "x"}, {Slot: 300, Ballot: ballot.Ballot{C: 7, N: 8}, Text: ""}},
	}
}

// fullIn is the content of the frame of full.
const fullIn = "\x0b\x0a\x03" + "\xfc\x01\x2c\x09" + "\xfc\x00\xfc" + "\xfe\x00\x00\x01\x00\x00\x00\x00\x00" + "\x01" + "\x02ab" +
	"\x02" + "\x05\x02\x01\x01x" + "\xfc\x01\x2c\x07\x08\x00"

// anyBallot returns a ballot that a message may have.
func anyBallot(g *rand.Rand) ballot.Ballot {
	if g.Intn(4) == 0 {
		return ballot.Ballot{}
	}
	return ballot.Ballot{C: max(g.Uint64()>>g.Intn(64), 1), N: g.Intn(api.MaxNodes)}
}

// anyMsg returns a message that Check accepts.
func anyMsg(g *rand.Rand) Msg {
	m := Msg{
		Kind: 1 + g.Intn(13), From: g.Intn(api.MaxNodes), To: g.Intn(api.MaxNodes), Sub: g.Intn(api.MaxSubs),
		Ballot: anyBallot(g), Slot: g.Intn(api.MaxSlot+1) >> g.Intn(41), Time: g.Intn(api.MaxTime+1) >> g.Intn(41),
		OK: g.Intn(2) == 0, Text: some(g, g.Intn(300)>>g.Intn(9)),
	}
	slot := g.Intn(2)
	for range g.Intn(MaxList+1) >> g.Intn(7) {
		m.List = append(m.List, Entry{slot, anyBallot(g), some(g, g.Intn(api.MaxValue+1)>>g.Intn(9))})
		slot += 1 + g.Intn(1<<34)>>g.Intn(34)
	}
	return m
}

// P10.1: the numbers of the kinds, and the limit of a list.
func TestConstants(t *testing.T) {
	l := []int{Prepare, Promise, Accept, Accepted, Refuse, Chosen, Fetch, Give, Snap, Ask, Grant, Call, Reply}
	for i, k := range l {
		if k != i+1 {
			t.Errorf("the kind %d is %d", i+1, k)
		}
	}
	if MaxList != 64 {
		t.Errorf("MaxList: %d", MaxList)
	}
}

// P10.1: the example.
func TestExample(t *testing.T) {
	m := Msg{Kind: Prepare, From: 1, To: 2, Ballot: ballot.Ballot{C: 1, N: 1}}
	s := m.Bytes()
	if want := "\x01\x00\x00\x0a\x01\x02\x00\x01\x01\x00\x00\x00\x00\x00"; len(s) != len(want)+4 || s[:len(want)] != want {
		t.Errorf("%x", s)
	}
	if got, e := Parse(s); e != api.OK || !Same(got, m) {
		t.Errorf("%+v, %d", got, e)
	}
}

// P10.1: the bytes of a message in which no field is zero.
func TestBytes(t *testing.T) {
	if got, want := full().Bytes(), seal.Frame(2, fullIn); got != want {
		t.Errorf("%x, not %x", got, want)
	}
	for kind := 1; kind <= 13; kind++ {
		if got, want := (Msg{Kind: kind}).Bytes(), seal.Frame(byte(kind), strings.Repeat("\x00", 10)); got != want {
			t.Errorf("the kind %d: %x, not %x", kind, got, want)
		}
	}
}

// change is a message that differs from full, and what Check returns for it.
type change struct {
	name string
	to   func(m *Msg)
	want api.Errno
}

// numbers returns the values of each number at the ends of its range, and
// beyond them.
func numbers() []change {
	var l []change
	add := func(name string, most int, to func(m *Msg, n int)) {
		for _, n := range []int{0, 1, most - 1, most, most + 1, most + 2, -1, math.MinInt, math.MaxInt, 1<<32 + 1, 256 + 1} {
			want := api.OK
			if n < 0 || n > most {
				want = api.ErrRange
			}
			l = append(l, change{name, func(m *Msg) { to(m, n) }, want})
		}
	}
	add("From", 11, func(m *Msg, n int) { m.From = n })
	add("To", 11, func(m *Msg, n int) { m.To = n })
	add("Sub", 3, func(m *Msg, n int) { m.Sub = n })
	add("Slot", 1<<40, func(m *Msg, n int) { m.Slot = n })
	add("Time", 1<<40, func(m *Msg, n int) { m.Time = n })
	add("Ballot", 11, func(m *Msg, n int) { m.Ballot.N = n })
	add("Ballot of an entry", 11, func(m *Msg, n int) { m.List[1].Ballot.N = n })
	add("Slot of an entry", 1<<40, func(m *Msg, n int) { m.List = []Entry{{Slot: n}} })
	return l
}

// others returns messages with values that are not numbers in a range.
func others() []change {
	long := strings.Repeat("x", api.MaxImage+1)
	return []change{
		{"full", func(m *Msg) {}, api.OK},
		{"Kind 0", func(m *Msg) { m.Kind = 0 }, api.ErrInval},
		{"Kind 1", func(m *Msg) { m.Kind = 1 }, api.OK},
		{"Kind 13", func(m *Msg) { m.Kind = 13 }, api.OK},
		{"Kind 14", func(m *Msg) { m.Kind = 14 }, api.ErrInval},
		{"Kind -1", func(m *Msg) { m.Kind = -1 }, api.ErrInval},
		{"Kind 257", func(m *Msg) { m.Kind = 257 }, api.ErrInval},
		{"Kind least", func(m *Msg) { m.Kind = math.MinInt }, api.ErrInval},
		{"Kind most", func(m *Msg) { m.Kind = math.MaxInt }, api.ErrInval},
		{"no ballot", func(m *Msg) { m.Ballot = ballot.Ballot{} }, api.OK},
		{"ballot 0 1", func(m *Msg) { m.Ballot = ballot.Ballot{N: 1} }, api.ErrRange},
		{"ballot 0 -1", func(m *Msg) { m.Ballot = ballot.Ballot{N: -1} }, api.ErrRange},
		{"greatest ballot", func(m *Msg) { m.Ballot = ballot.Ballot{C: math.MaxUint64, N: 11} }, api.OK},
		{"no ballot of an entry", func(m *Msg) { m.List[0].Ballot = ballot.Ballot{} }, api.OK},
		{"ballot 0 11 of an entry", func(m *Msg) { m.List[0].Ballot = ballot.Ballot{N: 11} }, api.ErrRange},
		{"greatest ballot of an entry", func(m *Msg) { m.List[1].Ballot = ballot.Ballot{C: math.MaxUint64, N: 11} }, api.OK},
		{"no text", func(m *Msg) { m.Text = "" }, api.OK},
		{"longest text", func(m *Msg) { m.Text = long[:api.MaxImage] }, api.OK},
		{"longer text", func(m *Msg) { m.Text = long }, api.ErrBig},
		{"longest text of an entry", func(m *Msg) { m.List[1].Text = long[:400] }, api.OK},
		{"longer text of an entry", func(m *Msg) { m.List[1].Text = long[:401] }, api.ErrBig},
		{"longer text of the first entry", func(m *Msg) { m.List[0].Text = long }, api.ErrBig},
		{"no list", func(m *Msg) { m.List = nil }, api.OK},
		{"empty list", func(m *Msg) { m.List = []Entry{} }, api.OK},
		{"longest list", func(m *Msg) { m.List = entries(64) }, api.OK},
		{"longer list", func(m *Msg) { m.List = entries(65) }, api.ErrBig},
		{"slots 0 and 1", func(m *Msg) { m.List = []Entry{{Slot: 0}, {Slot: 1}} }, api.OK},
		{"last slots", func(m *Msg) { m.List = []Entry{{Slot: 1<<40 - 1}, {Slot: 1 << 40}} }, api.OK},
		{"equal slots", func(m *Msg) { m.List[1].Slot = m.List[0].Slot }, api.ErrForm},
		{"equal slots 0", func(m *Msg) { m.List = []Entry{{}, {}} }, api.ErrForm},
		{"descending slots", func(m *Msg) { m.List[0].Slot = 301 }, api.ErrForm},
		{"descending at the end", func(m *Msg) { m.List = append(entries(63), Entry{Slot: 61}) }, api.ErrForm},
	}
}

// entries returns n entries.
func entries(n int) []Entry {
	l := make([]Entry, n)
	for i := range l {
		l[i].Slot = i
	}
	return l
}

// P10.1: Check, and Bytes, which is empty exactly with an error.
func TestCheck(t *testing.T) {
	for _, c := range append(numbers(), others()...) {
		m := full()
		c.to(&m)
		if e := m.Check(); e != c.want {
			t.Errorf("%s: %+v: %d, not %d", c.name, m, e, c.want)
		}
		s := m.Bytes()
		if (s == "") != (c.want != api.OK) {
			t.Errorf("%s: %x", c.name, s)
		}
		if c.want != api.OK {
			continue
		}
		if got, e := Parse(s); e != api.OK || !Same(got, m) {
			t.Errorf("%s: %+v, %d, not %+v", c.name, got, e, m)
		}
	}
}

// P10.1: of several errors, the first of the list is returned, wherever in the
// message it is.
func TestOrderOfErrors(t *testing.T) {
	inval := []func(m *Msg){func(m *Msg) { m.Kind = 0 }, func(m *Msg) { m.Kind = 14 }}
	outside := []func(m *Msg){
		func(m *Msg) { m.From = 12 },
		func(m *Msg) { m.Time = -1 },
		func(m *Msg) { m.Ballot = ballot.Ballot{N: 1} },
		func(m *Msg) { m.List[len(m.List)-1].Slot = 1<<40 + 1 },
		func(m *Msg) { m.List[1].Ballot.N = 12 },
		func(m *Msg) { m.List[0].Slot = -1 },
	}
	big := []func(m *Msg){
		func(m *Msg) { m.Text = strings.Repeat("x", api.MaxImage+1) },
		func(m *Msg) { m.List = append(m.List, make([]Entry, 63)...) },
		func(m *Msg) { m.List[0].Text = strings.Repeat("x", 401) },
	}
	form := []func(m *Msg){
		func(m *Msg) { m.List = append(m.List, Entry{}) },
		func(m *Msg) { m.List[1].Slot = 4 },
		func(m *Msg) { m.List[0].Slot = 300 },
	}
	classes := []struct {
		l []func(m *Msg)
		e api.Errno
	}{{inval, api.ErrInval}, {outside, api.ErrRange}, {big, api.ErrBig}, {form, api.ErrForm}}
	for i, first := range classes {
		for _, a := range first.l {
			for _, second := range classes[i+1:] {
				for _, b := range second.l {
					m := full()
					b(&m)
					if e := m.Check(); e != second.e {
						t.Errorf("%+v: %d, not %d", m, e, second.e)
					}
					a(&m)
					if e := m.Check(); e != first.e || m.Bytes() != "" {
						t.Errorf("%+v: %d, not %d", m, e, first.e)
					}
				}
			}
		}
	}
}

// P10.2: Parse returns the message whose bytes it is given.
func TestParseReturnsTheMessage(t *testing.T) {
	g := rand.New(rand.NewSource(1))
	for range 3000 {
		m := anyMsg(g)
		s := m.Bytes()
		got, e := Parse(s)
		if e != api.OK || !Same(got, m) || got.Bytes() != s {
			t.Fatalf("%+v: %+v, %d", m, got, e)
		}
	}
}

// P10.2: the longest message of all.
func TestLongestMessage(t *testing.T) {
	top := ballot.Ballot{C: math.MaxUint64, N: 11}
	m := Msg{Kind: 13, From: 11, To: 11, Sub: 3, Ballot: top, Slot: api.MaxSlot, Time: api.MaxTime, OK: true, Text: strings.Repeat("\xff", api.MaxImage)}
	for i := range MaxList {
		m.List = append(m.List, Entry{api.MaxSlot - MaxList + 1 + i, top, strings.Repeat("\x00", api.MaxValue)})
	}
	if got, e := Parse(m.Bytes()); e != api.OK || !Same(got, m) {
		t.Errorf("%d, and %d bytes with %d entries", e, len(got.Text), len(got.List))
	}
}

// refused fails unless Parse returns the error and the zero message.
func refused(t *testing.T, s string, want api.Errno) {
	t.Helper()
	if m, e := Parse(s); e != want || !Same(m, Msg{}) || m.List != nil {
		t.Errorf("%.80x: %+v, %d, not %d", s, m, e, want)
	}
}

// P10.1: the errors of the frame, before those of its content.
func TestErrorsOfTheFrame(t *testing.T) {
	whole := full().Bytes()
	for n := range len(whole) {
		refused(t, whole[:n], api.ErrEnd)
	}
	for i := 4; i < len(whole); i++ {
		b := []byte(whole)
		b[i] ^= 1
		refused(t, string(b), api.ErrSum)
	}
	refused(t, "\x00"+whole[1:], api.ErrForm)
	refused(t, "\x02\x10\x00\x01", api.ErrBig)
	refused(t, "\x0e\xff\xff\xff", api.ErrBig)
	refused(t, "\x0e\x00\x00\x01", api.ErrEnd)
	refused(t, "\x03"+whole[1:], api.ErrSum)
	refused(t, "\x0e"+whole[1:], api.ErrSum)
}

// P10.1: a frame of a kind that no message has, before its content is read and
// before bytes after it.
func TestKindsOfFrames(t *testing.T) {
	for kind := 1; kind < 256; kind++ {
		s := seal.Frame(byte(kind), fullIn)
		if kind > 13 {
			refused(t, s, api.ErrInval)
			refused(t, s+"\x00", api.ErrInval)
			refused(t, seal.Frame(byte(kind), ""), api.ErrInval)
			continue
		}
		want := full()
		want.Kind = kind
		if m, e := Parse(s); e != api.OK || !Same(m, want) {
			t.Errorf("the kind %d: %+v, %d", kind, m, e)
		}
	}
}

// P10.1: the errors of the reader, of each part of the content.
func TestErrorsOfTheContent(t *testing.T) {
	const head = "\x01\x02\x00" + "\x01\x01" + "\x07\x00\x00\x00" // up to Text
	for _, c := range []struct {
		in   string
		want api.Errno
	}{
		{"\x0c\x02\x00", api.ErrBig},
		{"\x01\x0c\x00", api.ErrBig},
		{"\x01\x02\x04", api.ErrBig},
		{"\xff", api.ErrForm},
		{"\x01\xfc\x00\x02\x00", api.ErrForm},
		{"\x0c\xff", api.ErrBig},
		{"\xff\x0c", api.ErrForm},
		{"\x0c", api.ErrBig},
		{"\x01\x02\x00\x01\x0c", api.ErrBig},
		{"\x01\x02\x00\x00\x01", api.ErrForm},
		{"\x01\x02\x00\x00\x0b\xfe\x00\x00\x01\x00\x00\x00\x00\x01", api.ErrForm},
		{"\x01\x02\x00\xfc\x00\x01\x01", api.ErrForm},
		{"\x01\x02\x00\x01\x01\xfe\x00\x00\x01\x00\x00\x00\x00\x01", api.ErrBig},
		{"\x01\x02\x00\x01\x01\x07\xfe\x00\x00\x01\x00\x00\x00\x00\x01", api.ErrBig},
		{"\x01\x02\x00\x01\x01\x07\xfe\xff\xff\xff\xff\xff\xff\xff\xff", api.ErrBig},
		{"\x01\x02\x00\x01\x01\x07\x00\x02", api.ErrForm},
		{"\x01\x02\x00\x01\x01\x07\x00\xff\x00\x00", api.ErrForm},
		{"\x01\x02\x00\x01\x01\x07\x00\x01\xfd\x00\x02\x00\x01", api.ErrBig},
		{"\x01\x02\x00\x01\x01\x07\x00\x01\xfd\x00\x02\x00\x00", api.ErrEnd},
		{"\x01\x02\x00\x01\x01\x07\x00\x01\xff", api.ErrForm},
		{head + "\x41", api.ErrBig},
		{head + "\x40", api.ErrEnd},
		{head + "\xfe\xff\xff\xff\xff\xff\xff\xff\xff", api.ErrBig},
		{head + "\x01\xfe\x00\x00\x01\x00\x00\x00\x00\x01\x00\x00\x00", api.ErrBig},
		{head + "\x01\x05\x01\x0c\x00", api.ErrBig},
		{head + "\x01\x05\x00\x01\x00", api.ErrForm},
		{head + "\x01\x05\x01\x01\xfc\x01\x91", api.ErrBig},
		{head + "\x01\x05\x01\x01\xfc\x01\x90", api.ErrEnd},
		{head + "\x01\x05\x01\x01\xff", api.ErrForm},
		{head + "\x00\x00", api.ErrForm},
		{head + "\x01\x05\x01\x01\x00\x00", api.ErrForm},
	} {
		refused(t, seal.Frame(1, c.in), c.want)
		refused(t, seal.Frame(1, c.in)+"\x00", c.want)
	}
}

// P10.1: slots that do not ascend, which is detected after the slot and before
// the rest of the entry.
func TestErrorsOfSlots(t *testing.T) {
	const head = "\x01\x02\x00" + "\x01\x01" + "\x07\x00\x00\x00"
	for _, c := range []struct {
		list string
		want api.Errno
	}{
		{"\x01" + "\x00\x00\x00\x00", api.OK},
		{"\x02" + "\x00\x00\x00\x00" + "\x01\x00\x00\x00", api.OK},
		{"\x02" + "\x05\x00\x00\x00" + "\xfc\x01\x00\x00\x00\x00", api.OK},
		{"\x02" + "\x00\x00\x00\x00" + "\x00\x00\x00\x00", api.ErrForm},
		{"\x02" + "\x05\x00\x00\x00" + "\x05\x00\x00\x00", api.ErrForm},
		{"\x02" + "\x05\x00\x00\x00" + "\x04\x00\x00\x00", api.ErrForm},
		{"\x02" + "\x05\x00\x00\x00" + "\x05", api.ErrForm},
		{"\x02" + "\x05\x00\x00\x00" + "\x06", api.ErrEnd},
		{"\x02" + "\x05\x00\x00\x00" + "\x05\x01\x0c", api.ErrForm},
		{"\x02" + "\x05\x00\x00\x00" + "\x06\x01\x0c", api.ErrBig},
		{"\x02" + "\x05\x00\x00\x00", api.ErrEnd},
		{"\x02" + "\x05\x00\x00\xfc\x01\x91" + "\x05", api.ErrBig},
		{"\x03" + "\x05\x00\x00\x00" + "\x06\x00\x00\x00" + "\x06", api.ErrForm},
		{"\x03" + "\x05\x00\x00\x00" + "\x07\x00\x00\x00" + "\x06", api.ErrForm},
	} {
		s := seal.Frame(2, head+c.list)
		if c.want != api.OK {
			refused(t, s, c.want)
			continue
		}
		if m, e := Parse(s); e != api.OK || m.Bytes() != s {
			t.Errorf("%x: %+v, %d", c.list, m, e)
		}
	}
}

// P10.1: a content that is cut anywhere, and one with bytes after it; bytes
// after the frame.
func TestTooFewAndTooManyBytes(t *testing.T) {
	for n := range len(fullIn) {
		refused(t, seal.Frame(2, fullIn[:n]), api.ErrEnd)
		refused(t, seal.Frame(2, fullIn[:n])+fullIn[n:], api.ErrEnd)
	}
	for _, more := range []string{"\x00", "\x02", "\xff", "\x05\x02\x01\x01x", full().Bytes()} {
		refused(t, seal.Frame(2, fullIn+more), api.ErrForm)
		refused(t, seal.Frame(2, fullIn)+more, api.ErrForm)
		refused(t, seal.Frame(2, fullIn+more)+more, api.ErrForm)
	}
}

// encoded returns the content of a message as the chapter says, whatever its
// values are.
func encoded(m Msg) string {
	var w code.Writer
	w.N(m.From, m.To, m.Sub).U(m.Ballot.C).N(m.Ballot.N, m.Slot, m.Time).B(m.OK).S(m.Text).N(len(m.List))
	for _, e := range m.List {
		w.N(e.Slot).U(e.Ballot.C).N(e.Ballot.N).S(e.Text)
	}
	return w.Text()
}

// P10.2: bytes of a message that Check refuses are refused as well, although
// not always with the same error.
func TestParseRefusesWhatCheckRefuses(t *testing.T) {
	for _, c := range append(numbers(), others()...) {
		m := full()
		c.to(&m)
		if m.Kind < 1 || m.Kind > 255 || negative(m) {
			continue // there are no such bytes
		}
		s := seal.Frame(byte(m.Kind), encoded(m))
		got, e := Parse(s)
		if c.want == api.OK {
			if e != api.OK || !Same(got, m) || s != m.Bytes() {
				t.Errorf("%s: %+v, %d", c.name, got, e)
			}
			continue
		}
		want := c.want
		if want == api.ErrRange {
			want = api.ErrBig // so says the reader
			if m.Ballot.C == 0 || m.List[0].Ballot.C == 0 && len(m.List) == 2 {
				want = api.ErrForm
			}
		}
		refused(t, s, want)
	}
}

// negative reports whether a number of a message is less than 0.
func negative(m Msg) bool {
	least := min(m.From, m.To, m.Sub, m.Ballot.N, m.Slot, m.Time)
	for _, e := range m.List {
		least = min(least, e.Slot, e.Ballot.N)
	}
	return least < 0
}

// P10.2: any bytes are refused, or are those of the message that is returned.
func TestAnyBytes(t *testing.T) {
	g := rand.New(rand.NewSource(1))
	found := 0
	for range 100000 {
		in := []byte(encoded(anyMsg(g)))
		if len(in) > 100 {
			in = in[:100]
		}
		for range g.Intn(4) {
			in[g.Intn(len(in))] = byte(g.Intn(256) >> g.Intn(9))
		}
		s := seal.Frame(byte(1+g.Intn(15)), string(in))
		if g.Intn(20) == 0 {
			s += some(g, g.Intn(3))
		}
		m, e := Parse(s)
		if e == api.OK && m.Bytes() != s {
			t.Fatalf("%x: %+v is %x", s, m, m.Bytes())
		}
		if e != api.OK && (!Same(m, Msg{}) || m.List != nil) {
			t.Fatalf("%x: %+v, %d", s, m, e)
		}
		if e == api.OK {
			found++
		}
	}
	if found < 10000 {
		t.Errorf("only %d messages", found)
	}
	for range 10000 {
		s := some(g, g.Intn(30))
		if m, e := Parse(s); e == api.OK || !Same(m, Msg{}) {
			t.Fatalf("%x: %+v, %d", s, m, e)
		}
	}
}

// P10.1: messages that differ in one field only, and equal ones.
func TestSame(t *testing.T) {
	for _, to := range []func(m *Msg){
		func(m *Msg) { m.Kind++ },
		func(m *Msg) { m.From++ },
		func(m *Msg) { m.To++ },
		func(m *Msg) { m.Sub++ },
		func(m *Msg) { m.Ballot.C++ },
		func(m *Msg) { m.Ballot.N++ },
		func(m *Msg) { m.Slot++ },
		func(m *Msg) { m.Time++ },
		func(m *Msg) { m.OK = !m.OK },
		func(m *Msg) { m.Text += "c" },
		func(m *Msg) { m.Text = "ac" },
		func(m *Msg) { m.List[0].Slot++ },
		func(m *Msg) { m.List[1].Slot-- },
		func(m *Msg) { m.List[0].Ballot.C++ },
		func(m *Msg) { m.List[1].Ballot.N++ },
		func(m *Msg) { m.List[0].Text = "" },
		func(m *Msg) { m.List[1].Text = "\x00" },
		func(m *Msg) { m.List = m.List[:1] },
		func(m *Msg) { m.List = m.List[1:] },
		func(m *Msg) { m.List = nil },
		func(m *Msg) { m.List = append(m.List, Entry{}) },
		func(m *Msg) { m.List[0], m.List[1] = m.List[1], m.List[0] },
	} {
		m := full()
		to(&m)
		if Same(m, full()) || Same(full(), m) {
			t.Errorf("%+v is as %+v", m, full())
		}
		other := full()
		to(&other)
		if !Same(m, other) || !Same(m, m) {
			t.Errorf("%+v is not as %+v", m, other)
		}
	}
	if !Same(Msg{}, Msg{List: []Entry{}}) || !Same(Msg{List: make([]Entry, 0, 5)}, Msg{}) || Same(Msg{}, Msg{List: []Entry{{}}}) {
		t.Errorf("lists without entries")
	}
}

// Rule 5: no function changes a message, nor the capacity of its list.
func TestMessagesStayAsTheyAre(t *testing.T) {
	room := append(full().List, Entry{Slot: 1, Text: "y"})
	m := full()
	m.List = room[:2]
	m.Check()
	if s := m.Bytes(); s != full().Bytes() {
		t.Errorf("%x", s)
	}
	Same(m, full())
	if !Same(m, full()) || room[2] != (Entry{Slot: 1, Text: "y"}) {
		t.Errorf("%+v, %+v", m, room)
	}
}

// Rule 5: the lists of two results are not the same memory.
func TestParseReturnsNewMemory(t *testing.T) {
	s := full().Bytes()
	a, _ := Parse(s)
	b, _ := Parse(s)
	a.List[0].Text = "y"
	a.List = append(a.List[:1], Entry{})
	if !Same(b, full()) || !slices.Equal(b.List, full().List) {
		t.Errorf("%+v", b)
	}
}
