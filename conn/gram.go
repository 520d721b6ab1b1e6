package conn

import (
	"turnbuckle/api"
	"turnbuckle/frames"
	"turnbuckle/pnum"
	"turnbuckle/tag"
)

const (
	// widest is how many bytes a number may have. It has as many in all datagrams that are made. Of fewer, the number of one that comes late, behind very many others, would grow to that of another one, and what the other one told would be acked and never come. And as the keys of the two roles differ in their two lowest bits alone, an end opens what it made itself, if the first byte is turned in these two: a 4 is no width any more then.
	widest = 4
	// tagSize is how many bytes a tag has.
	tagSize = 8
)

// gram is a datagram in the making.
type gram struct {
	number int
	body   []byte // all ahead of the tag
	count  int    // how many frames it has
	room   int    // how many bytes more these may have
	parts  []part // what these tell of streams
}

// newGram is one without frames.
func newGram(number int) *gram {
	g := &gram{number: number, body: []byte{widest}}
	cut, _ := pnum.Cut(number, widest)
	for i := widest - 1; i >= 0; i-- {
		g.body = append(g.body, byte(cut>>(8*i)))
	}
	g.room = api.MaxGram - g.size()
	return g
}

// size is how many bytes the datagram would have as it is.
func (g *gram) size() int {
	return len(g.body) + tagSize
}

// narrow leaves room for a datagram of so many bytes, if there is more.
func (g *gram) narrow(size int) {
	g.room = min(g.room, size-g.size())
}

// add adds a frame that tells these parts, if there is room for it.
func (g *gram) add(f api.Frame, parts ...part) bool {
	b, _ := frames.Encode([]api.Frame{f})
	if len(b) > g.room || g.count == api.MaxFrames {
		return false
	}
	g.body = append(g.body, b...)
	g.count++
	g.room -= len(b)
	g.parts = append(g.parts, parts...)
	return true
}

// seal is the datagram.
func (g *gram) seal(key uint64) []byte {
	return tag.Seal(key, g.body)
}

// keyOf is the key under which the end with this role seals.
func keyOf(key uint64, role int) uint64 {
	return key ^ uint64(role+1)
}

// open is a datagram's number, for one who had none above largest, and its frames.
func open(key uint64, b []byte, largest int) (int, []api.Frame, api.Errno) {
	body, why := tag.Open(key, b)
	if why != api.OK {
		return 0, nil, why
	}
	if len(b) > api.MaxGram {
		return 0, nil, api.ErrMany
	}
	n, rest, why := openNumber(body, largest)
	if why != api.OK {
		return 0, nil, why
	}
	l, fault := frames.Decode(rest)
	if fault.Why != api.OK {
		return 0, nil, fault.Why
	}
	if len(l) == 0 {
		return 0, nil, api.ErrEnd
	}
	return n, l, api.OK
}

// openNumber is a datagram's number, and the bytes behind it.
func openNumber(b []byte, largest int) (int, []byte, api.Errno) {
	if len(b) == 0 {
		return 0, nil, api.ErrEnd
	}
	width := int(b[0])
	if width < 1 || width > widest {
		return 0, nil, api.ErrForm
	}
	if width > len(b)-1 {
		return 0, nil, api.ErrEnd
	}
	cut := 0
	for _, low := range b[1 : 1+width] {
		cut = cut<<8 | int(low)
	}
	n, why := pnum.Grow(largest, cut, width)
	return n, b[1+width:], why
}
