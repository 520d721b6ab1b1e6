package qpack

import (
	"bytes"
	"fmt"
	"math/big"
	"slices"
	"strings"
	"testing"

	"turnbuckle/api"
	"turnbuckle/huff"
)

const (
	// widest is the greatest capacity that a table may be made for.
	widest = 4096
	// highest is the greatest number that can be told.
	highest = 1<<62 - 1
)

func field(name, value string) api.Field {
	return api.Field{Name: name, Value: value}
}

// sized is a field with so many bytes.
func sized(name, value int) api.Field {
	return field(strings.Repeat("n", name), strings.Repeat("v", value))
}

func join(parts ...[]byte) []byte {
	return slices.Concat(parts...)
}

// num is a number of so many bits, behind other bits, worked out as RFC 7541 tells it.
func num(first, bits, n int) []byte {
	full := 1<<bits - 1
	if n < full {
		return []byte{byte(first + n)}
	}
	b := []byte{byte(first + full)}
	for n -= full; n >= 128; n /= 128 {
		b = append(b, byte(n%128+128))
	}
	return append(b, byte(n))
}

// longNum is a number in ten bytes, however few would do; it must have no room in its bits.
func longNum(first, bits, n int) []byte {
	b := num(first, bits, n)
	for len(b) < 10 {
		b[len(b)-1] |= 0x80
		b = append(b, 0)
	}
	return b
}

// badNums are no numbers: one that is just too great, one that is much too great, and one with a tenth group.
func badNums(first, bits int) [][]byte {
	begin := byte(first + 1<<bits - 1)
	return [][]byte{
		num(first, bits, highest+1),
		join([]byte{begin}, bytes.Repeat([]byte{0xFF}, 8), []byte{0x7F}),
		join([]byte{begin}, bytes.Repeat([]byte{0x80}, 9), []byte{0x00}),
	}
}

// A text is told plainly, or in the fields' code; a bit of the first byte says which.
type texter func(first, bits int, text string) []byte

func plain(first, bits int, text string) []byte {
	return append(num(first, bits-1, len(text)), text...)
}

func coded(first, bits int, text string) []byte {
	b, e := huff.Encode(huff.Fields(), []byte(text))
	if e != api.OK {
		panic(e)
	}
	return append(num(first+1<<(bits-1), bits-1, len(b)), b...)
}

// texters are both ways.
func texters() []texter {
	return []texter{plain, coded}
}

// badTexts are texts that are not told rightly in the fields' code.
func badTexts(first, bits int) [][]byte {
	var l [][]byte
	for _, b := range [][]byte{
		{0xFF},                               // a byte of bits 1 that fill nothing
		{0x00},                               // a word, and bits 0 behind it
		{0x35, 0x24, 0x7E},                   // age, and a bit 0 last
		{0x35, 0x24, 0x7F, 0xFF},             // age, and a whole byte of bits 1
		bytes.Repeat([]byte{0xFF}, 600),      // no word, and long
		append(make([]byte, 605), 0xFF),      // too long in any case, and a byte of bits 1
		{0xFF, 0xFF, 0xFF, 0xFF, 0xFF, 0xFF}, // no word
	} {
		l = append(l, append(num(first+1<<(bits-1), bits-1, len(b)), b...))
	}
	return l
}

// Instructions.

func capIns(n int) []byte                          { return num(0x20, 5, n) }
func againIns(n int) []byte                        { return num(0x00, 5, n) }
func fixedIns(n int, text texter, v string) []byte { return join(num(0xC0, 6, n), text(0, 8, v)) }
func growIns(n int, text texter, v string) []byte  { return join(num(0x80, 6, n), text(0, 8, v)) }
func toldIns(text texter, name, value string) []byte {
	return join(text(0x40, 6, name), text(0, 8, value))
}

// putIns are instructions by which fields are put in, one behind the other.
func putIns(l ...api.Field) []byte {
	var b []byte
	for _, f := range l {
		b = append(b, toldIns(plain, f.Name, f.Value)...)
	}
	return b
}

// Beginnings of sections, and lines; never is N.

func start(need, distance int) []byte     { return join(num(0, 8, need), num(0, 7, distance)) }
func startLess(need, distance int) []byte { return join(num(0, 8, need), num(0x80, 7, distance)) }

func fixedLine(n int) []byte { return num(0xC0, 6, n) }
func aheadLine(n int) []byte { return num(0x80, 6, n) }
func pastLine(n int) []byte  { return num(0x10, 4, n) }

func fixedNameLine(never, n int, text texter, v string) []byte {
	return join(num(0x50+never*0x20, 4, n), text(0, 8, v))
}

func aheadNameLine(never, n int, text texter, v string) []byte {
	return join(num(0x40+never*0x20, 4, n), text(0, 8, v))
}

func pastNameLine(never, n int, text texter, v string) []byte {
	return join(num(never*0x08, 3, n), text(0, 8, v))
}

func toldLine(never int, text texter, name, value string) []byte {
	return join(text(0x20+never*0x10, 4, name), text(0, 8, value))
}

// slow reads bytes the plain way, up to the first fault.
type slow struct {
	b   []byte
	at  int
	why api.Errno
}

// first are the bits of the next byte, as a text.
func (s *slow) first() string {
	return fmt.Sprintf("%08b", s.b[s.at])
}

func (s *slow) next() int {
	if s.why == api.OK && s.at == len(s.b) {
		s.why = api.ErrEnd
	}
	if s.why != api.OK {
		return 0
	}
	s.at++
	return int(s.b[s.at-1])
}

// num is the next number.
func (s *slow) num(bits int) *big.Int {
	full := 1<<bits - 1
	n := big.NewInt(int64(s.next() & full))
	if n.Int64() < int64(full) {
		return n
	}
	for group := 0; ; group++ {
		x := s.next()
		n.Add(n, new(big.Int).Lsh(big.NewInt(int64(x&127)), uint(7*group)))
		if s.why == api.OK && (group == 9 || n.Cmp(big.NewInt(highest)) > 0) {
			s.why = api.ErrForm
		}
		if x < 128 || s.why != api.OK {
			return n
		}
	}
}

// text is the next text.
func (s *slow) text(bits, most int) string {
	flag := byte('0')
	if s.at < len(s.b) {
		flag = s.first()[8-bits]
	}
	n := s.num(bits - 1)
	if s.why == api.OK && n.Cmp(big.NewInt(int64(len(s.b)-s.at))) > 0 {
		s.why = api.ErrEnd
	}
	if s.why != api.OK {
		return ""
	}
	text := s.b[s.at : s.at+int(n.Int64())]
	s.at += len(text)
	if flag == '1' {
		text, s.why = huff.Decode(huff.Fields(), text)
	}
	if s.why == api.OK && len(text) > most {
		s.why = api.ErrField
	}
	return string(text)
}

// fixedTable is the fixed table.
func fixedTable() []api.Field {
	return []api.Field{
		field(":authority", ""), field(":path", "/"), field(":method", "GET"), field(":method", "HEAD"),
		field(":method", "POST"), field(":method", "PUT"), field(":method", "DELETE"), field(":scheme", "https"),
		field(":scheme", "http"), field(":status", "200"), field(":status", "304"), field(":status", "404"),
		field(":status", "206"), field(":status", "504"), field("age", "0"), field("cache-control", "no-cache"),
		field("cache-control", "max-age=60"), field("content-length", "0"), field("date", ""), field("etag", ""),
		field("if-none-match", ""), field("last-modified", ""), field("range", "bytes=0-"), field("vary", "accept-encoding"),
	}
}

// model is a decoder worked out the plain way: nothing that was put in is ever forgotten.
type model struct {
	most, capacity, first int
	all                   []api.Field
}

func (m *model) settle() {
	for {
		used := 0
		for _, f := range m.all[m.first:] {
			used += len(f.Name) + len(f.Value) + 32
		}
		if used <= m.capacity {
			return
		}
		m.first++
	}
}

func (m *model) setCap(n *big.Int) api.Errno {
	if n.Cmp(big.NewInt(int64(m.most))) > 0 {
		return api.ErrArg
	}
	m.capacity = int(n.Int64())
	m.settle()
	return api.OK
}

func (m *model) insert(f api.Field) api.Errno {
	if len(f.Name)+len(f.Value)+32 > m.capacity {
		return api.ErrMany
	}
	m.all = append(m.all, f)
	m.settle()
	return api.OK
}

// get is a field of the growing table whose number is below a limit.
func (m *model) get(n *big.Int, limit int) (api.Field, api.Errno) {
	if n.Cmp(big.NewInt(int64(m.first))) < 0 || n.Cmp(big.NewInt(int64(limit))) >= 0 {
		return api.Field{}, api.ErrTable
	}
	return m.all[n.Int64()], api.OK
}

// last is the field of the growing table that is so many ahead of the last one.
func (m *model) last(n *big.Int) (api.Field, api.Errno) {
	count := len(m.all)
	return m.get(new(big.Int).Sub(big.NewInt(int64(count-1)), n), count)
}

func fixedField(n *big.Int) (api.Field, api.Errno) {
	l := fixedTable()
	if n.Cmp(big.NewInt(int64(len(l)))) >= 0 {
		return api.Field{}, api.ErrTable
	}
	return l[n.Int64()], api.OK
}

// do does an instruction: first all of it is read.
func (m *model) do(s *slow) api.Errno {
	var n *big.Int
	var f, of api.Field
	var why api.Errno
	bits := s.first()
	switch {
	case bits[0] == '1':
		n = s.num(6)
		f.Value = s.text(8, 512)
	case bits[:2] == "01":
		f.Name = s.text(6, 64)
		f.Value = s.text(8, 512)
	default:
		n = s.num(5)
	}
	if s.why != api.OK {
		return s.why
	}
	switch {
	case bits[:2] == "01":
		return m.insert(f)
	case bits[:3] == "001":
		return m.setCap(n)
	case bits[:2] == "11":
		of, why = fixedField(n)
	default:
		of, why = m.last(n)
	}
	if why != api.OK {
		return why
	}
	f.Name = of.Name
	if bits[0] == '0' {
		f = of
	}
	return m.insert(f)
}

func (m *model) feed(b []byte) api.Fault {
	s := &slow{b: b}
	for s.at < len(b) {
		begin := s.at
		if why := m.do(s); why != api.OK {
			return api.Fault{Why: why, At: begin}
		}
	}
	return api.Fault{}
}

// line is a line's field: first all of it is read.
func (m *model) line(s *slow, need int, base *big.Int) (api.Field, api.Errno) {
	var n *big.Int
	var f, of api.Field
	var why api.Errno
	bits := s.first()
	switch {
	case bits[0] == '1':
		n = s.num(6)
	case bits[:2] == "01":
		n = s.num(4)
		f.Value = s.text(8, 512)
	case bits[:3] == "001":
		f.Name = s.text(4, 64)
		f.Value = s.text(8, 512)
	case bits[:4] == "0001":
		n = s.num(4)
	default:
		n = s.num(3)
		f.Value = s.text(8, 512)
	}
	if s.why != api.OK {
		return api.Field{}, s.why
	}
	switch {
	case bits[:3] == "001":
		return f, api.OK
	case bits[:2] == "11", bits[:2] == "01" && bits[3] == '1':
		of, why = fixedField(n)
	case bits[:2] == "10", bits[:2] == "01":
		of, why = m.get(n.Sub(n.Sub(base, n), big.NewInt(1)), need)
	default:
		of, why = m.get(n.Add(base, n), need)
	}
	if bits[0] == '1' || bits[:4] == "0001" {
		return of, why
	}
	return field(of.Name, f.Value), why
}

func (m *model) decode(b []byte) ([]api.Field, api.Fault) {
	s := &slow{b: b}
	count := s.num(8)
	if s.why == api.OK && count.Cmp(big.NewInt(int64(len(m.all)))) > 0 {
		return nil, api.Fault{Why: api.ErrWait}
	}
	below := s.why == api.OK && s.at < len(b) && s.first()[0] == '1'
	base := s.num(7)
	if s.why != api.OK {
		return nil, api.Fault{Why: s.why}
	}
	if below {
		base.Neg(base).Sub(base, big.NewInt(1))
	}
	if base.Add(base, count).Sign() < 0 {
		return nil, api.Fault{Why: api.ErrForm}
	}
	var l []api.Field
	for s.at < len(b) {
		begin := s.at
		if len(l) == 64 {
			return nil, api.Fault{Why: api.ErrMany, At: begin}
		}
		f, why := m.line(s, int(count.Int64()), base)
		if why != api.OK {
			return nil, api.Fault{Why: why, At: begin}
		}
		l = append(l, f)
	}
	return l, api.Fault{}
}

// pair is a decoder with the model of it.
type pair struct {
	t *testing.T
	*Decoder
	m model
}

// decoder is one of a capacity, that was fed more instructions; its table may grow up to most.
func decoder(t *testing.T, most, capacity int, more ...[]byte) *pair {
	t.Helper()
	made, e := NewDecoder(most)
	if made == nil || e != api.OK {
		t.Fatalf("NewDecoder(%d) is %v, %v", most, made, e)
	}
	p := &pair{t: t, Decoder: made, m: model{most: most}}
	p.look()
	p.fed(capIns(capacity))
	p.fed(join(more...))
	return p
}

// same holds Feed against the model.
func (p *pair) same(b []byte) api.Fault {
	p.t.Helper()
	got, want := p.Feed(b), p.m.feed(b)
	if got != want {
		p.t.Fatalf("Feed(%x) is %v, not %v", b, got, want)
	}
	p.look()
	return got
}

// fed feeds instructions, all of which are done.
func (p *pair) fed(b []byte) {
	p.t.Helper()
	if fault := p.same(b); fault != (api.Fault{}) {
		p.t.Fatalf("Feed(%x) is %v", b, fault)
	}
}

// stops feeds instructions, and asks for the fault.
func (p *pair) stops(b []byte, why api.Errno, at int) {
	p.t.Helper()
	if fault := p.same(b); fault != (api.Fault{Why: why, At: at}) {
		p.t.Fatalf("Feed(%x) is %v, not %v at %d", b, fault, why, at)
	}
}

// refused feeds instructions of which the last one, from a place on, is wrong, and asks that this one turns nothing.
func (p *pair) refused(ahead, wrong []byte, why api.Errno) {
	p.t.Helper()
	p.fed(ahead)
	before := p.m
	p.stops(wrong, why, 0)
	if p.m.first != before.first || p.m.capacity != before.capacity || len(p.m.all) != len(before.all) {
		p.t.Fatalf("%x turned something", wrong)
	}
	p.stops(join(ahead, wrong), why, len(ahead))
	p.stops(join(ahead, ahead, wrong, ahead), why, 2*len(ahead))
}

// table asks which fields are there, with the number of the first.
func (p *pair) table(first int, l ...api.Field) {
	p.t.Helper()
	if p.m.first != first || !slices.Equal(p.m.all[first:], l) {
		p.t.Fatalf("from %d on %q are there, not %q from %d on", p.m.first, p.m.all[p.m.first:], l, first)
	}
	p.look()
}

// look asks for all that can be seen of the table, by sections of one line.
func (p *pair) look() {
	p.t.Helper()
	count := len(p.m.all)
	if p.Count() != count {
		p.t.Fatalf("Count is %d, not %d", p.Count(), count)
	}
	for n := max(0, p.m.first-2); n <= count; n++ {
		p.sameSection(join(start(count, 0), aheadLine(max(0, count-1-n))))
		p.sameSection(join(startLess(count, 0), pastLine(n)))
	}
	p.sameSection(start(count, 0))
	p.sameSection(start(count+1, 0))
}

// sameSection holds Decode against the model.
func (p *pair) sameSection(b []byte) ([]api.Field, api.Fault) {
	p.t.Helper()
	l, fault := p.Decode(b)
	want, why := p.m.decode(b)
	if !slices.Equal(l, want) || fault != why {
		p.t.Fatalf("Decode(%x) is %q, %v, not %q, %v", b, l, fault, want, why)
	}
	return l, fault
}

// tells asks for a section's fields.
func (p *pair) tells(b []byte, l ...api.Field) {
	p.t.Helper()
	if got, fault := p.sameSection(b); !slices.Equal(got, l) || fault != (api.Fault{}) {
		p.t.Fatalf("Decode(%x) is %q, %v, not %q", b, got, fault, l)
	}
}

// fails asks for a section's fault.
func (p *pair) fails(b []byte, why api.Errno, at int) {
	p.t.Helper()
	if got, fault := p.sameSection(b); got != nil || fault != (api.Fault{Why: why, At: at}) {
		p.t.Fatalf("Decode(%x) is %q, %v, not %v at %d", b, got, fault, why, at)
	}
}

// lineFails asks for a line's fault, alone, behind others and ahead of others.
func (p *pair) lineFails(begin, wrong []byte, why api.Errno) {
	p.t.Helper()
	good := join(fixedLine(1), toldLine(0, plain, "a", "b"), fixedLine(17))
	p.fails(join(begin, wrong), why, len(begin))
	p.fails(join(begin, good, wrong), why, len(begin)+len(good))
	if why != api.ErrEnd { // else what stands behind would be read as what is missing
		p.fails(join(begin, good, wrong, good), why, len(begin)+len(good))
	}
}
