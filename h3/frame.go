package h3

import (
	"turnbuckle/api"
	"turnbuckle/vint"
)

// The types of frames that are not gone past.
const (
	dataFrame = 0
	headFrame = 1
)

// mostBytes is how many bytes a message is got of.
const mostBytes = 1 << 16

// appendFrame puts a frame behind bytes.
func appendFrame(b []byte, kind int, told []byte) []byte {
	b, _ = vint.Put(b, kind)
	b, _ = vint.Put(b, len(told))
	return append(b, told...)
}

// frameAt is the frame that begins at a place: its type, what it tells, and the place behind it.
func frameAt(b []byte, at int) (int, []byte, int, api.Errno) {
	kind, at, fault := vint.Get(b, at)
	if fault.Why != api.OK {
		return 0, nil, 0, fault.Why
	}
	size, at, fault := vint.Get(b, at)
	if fault.Why != api.OK {
		return 0, nil, 0, fault.Why
	}
	if size > len(b)-at {
		return 0, nil, 0, api.ErrEnd
	}
	return kind, b[at : at+size], at + size, api.OK
}
