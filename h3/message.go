package h3

import "turnbuckle/api"

// message is of one kind or the other; what both kinds do alike is common's.
type message interface {
	own() []api.Field // the fields that a head of this kind has ahead of all others
	rightOwn() bool   // whether these may be
	take(head []api.Field) bool
	tooMany(own int) bool
	rightFields() bool
	rightLength() bool
	tell(own []api.Field) []byte
	read(b []byte) ([]api.Field, api.Errno)
}

// check tells what is wrong with a message.
func check(m message) api.Errno {
	if m.tooMany(len(m.own())) {
		return api.ErrMany
	}
	if !m.rightOwn() || !m.rightFields() || !m.rightLength() {
		return api.ErrField
	}
	return api.OK
}

// put are a message's bytes.
func put(m message) ([]byte, api.Errno) {
	if why := check(m); why != api.OK {
		return nil, why
	}
	return m.tell(m.own()), api.OK
}

// get reads bytes into a message that is empty.
func get(m message, b []byte) api.Errno {
	head, why := m.read(b)
	if why != api.OK {
		return why
	}
	// Asked ahead of check: a head that may not be goes ahead of a body that is too long.
	if !m.take(head) || !m.rightOwn() || !m.rightFields() {
		return api.ErrField
	}
	return check(m)
}
