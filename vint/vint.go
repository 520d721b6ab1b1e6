// Package vint is layer 1: numbers of one, two, four or eight bytes: see shared/doc/01-vint.md.
package vint

import (
	"turnbuckle/api"
)

// widths stand in the order of the marks that tell of them: a mark is what the two highest bits of a number's first byte are.
var widths = [4]int{1, 2, 4, 8}

// Size is in how few bytes a number has room.
func Size(n int) int {
	for mark := range len(widths) {
		if fits(n, widths[mark]) {
			return widths[mark]
		}
	}
	return 0
}

// Put puts a number in as few bytes as can be.
func Put(b []byte, n int) ([]byte, api.Errno) {
	return PutWide(b, n, Size(n))
}

// PutWide puts a number in so many bytes.
func PutWide(b []byte, n, width int) ([]byte, api.Errno) {
	for mark := range len(widths) {
		if widths[mark] == width && fits(n, width) {
			return behind(b, n, mark), api.OK
		}
	}
	return nil, api.ErrArg
}

// Get gets the number at a place.
func Get(b []byte, at int) (int, int, api.Fault) {
	if at < 0 || at > len(b) {
		return 0, 0, api.Fault{Why: api.ErrArg, At: at}
	}
	missing := api.Fault{Why: api.ErrEnd, At: len(b)}
	if at == len(b) {
		return 0, 0, missing
	}
	width := widths[b[at]>>6]
	if width > len(b)-at {
		return 0, 0, missing
	}
	n := int(b[at] & 0x3F)
	for _, low := range b[at+1 : at+width] {
		n = n<<8 | int(low)
	}
	return n, at + width, api.Fault{}
}

// All gets all numbers.
func All(b []byte) ([]int, api.Fault) {
	var all []int
	for at := 0; at < len(b); {
		n, next, fault := Get(b, at)
		if fault.Why != api.OK {
			return nil, fault
		}
		all = append(all, n)
		at = next
	}
	return all, api.Fault{}
}

// fits tells whether a number has room in so many bytes: the mark takes two of their bits.
func fits(n, width int) bool {
	return n >= 0 && n < 1<<(8*width-2)
}

// behind is new memory even where b has room to spare: another list may share that room.
func behind(b []byte, n, mark int) []byte {
	width := widths[mark]
	marked := uint64(mark)<<(8*width-2) | uint64(n)
	out := make([]byte, len(b)+width)
	copy(out, b)
	for i := range width {
		out[len(out)-1-i] = byte(marked >> (8 * i))
	}
	return out
}
