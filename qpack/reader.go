package qpack

import (
	"errors"

	"turnbuckle/api"
	"turnbuckle/huff"
	"turnbuckle/pint"
)

// fault is an error that carries its number.
type fault struct{ why api.Errno }

// Error is its text.
func (f fault) Error() string { return f.why.Error() }

// asError is no error where the number is none.
func asError(why api.Errno) error {
	if why == api.OK {
		return nil
	}
	return fault{why}
}

// faultAt takes the number out of an error, and tells the place with it.
func faultAt(err error, at int) api.Fault {
	var f fault
	if !errors.As(err, &f) {
		return api.Fault{}
	}
	return api.Fault{Why: f.why, At: at}
}

// reader stands at a place in bytes.
type reader struct {
	b  []byte
	at int
}

// left tells whether a byte is left.
func (r *reader) left() bool {
	return r.at < len(r.b)
}

// first is the next byte, of which there is one, and goes past nothing.
func (r *reader) first() byte {
	return r.b[r.at]
}

// number reads the next one, and the flags ahead of it.
func (r *reader) number(bits int) (int, int, error) {
	flags, n, next, wrong := pint.Get(r.b, r.at, bits)
	if wrong.Why != api.OK {
		return 0, 0, fault{wrong.Why}
	}
	r.at = next
	return flags, n, nil
}

// text reads the next one of so many bits, which may have so many bytes.
func (r *reader) text(bits, most int) (string, error) {
	flags, count, err := r.number(bits - 1)
	if err != nil {
		return "", err
	}
	if count > len(r.b)-r.at {
		return "", fault{api.ErrEnd}
	}
	text := r.b[r.at : r.at+count]
	r.at += count
	if flags&isCoded(bits) != 0 {
		symbols, why := huff.Decode(huff.Fields(), text)
		if why != api.OK {
			return "", fault{why}
		}
		text = symbols
	}
	if len(text) > most {
		return "", fault{api.ErrField}
	}
	return string(text), nil
}

// numberAndValue reads a number of so many bits, the flags ahead of it, and a value.
func (r *reader) numberAndValue(bits int) (int, int, string, error) {
	flags, n, err := r.number(bits)
	if err != nil {
		return 0, 0, "", err
	}
	value, err := r.text(valueBits, api.MaxValue)
	return flags, n, value, err
}

// nameAndValue reads a name as a text of so many bits, and a value.
func (r *reader) nameAndValue(bits int) (api.Field, error) {
	name, err := r.text(bits, api.MaxName)
	if err != nil {
		return api.Field{}, err
	}
	value, err := r.text(valueBits, api.MaxValue)
	return api.Field{Name: name, Value: value}, err
}

// isCoded is the flag of a text of so many bits that it is told in the fields' code.
func isCoded(bits int) int {
	return 1 << (bits - 1)
}
