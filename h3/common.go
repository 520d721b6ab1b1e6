package h3

import (
	"bytes"
	"slices"
	"strconv"

	"turnbuckle/api"
	"turnbuckle/qpack"
)

// lengthName is the name of the field that tells how long the body is.
const lengthName = "content-length"

// common is what both kinds of messages have in them.
type common struct {
	fields []api.Field
	body   []byte
}

// same tells whether both have the same.
func (c *common) same(other common) bool {
	return slices.Equal(c.fields, other.fields) && bytes.Equal(c.body, other.body)
}

// tooMany tells whether there are more fields than have room in a head with so many of its own, or too long a body.
func (c *common) tooMany(own int) bool {
	return len(c.fields) > api.MaxFields-own || len(c.body) > api.MaxBody
}

// rightFields tells whether all fields may be, and at most one of them tells the length.
func (c *common) rightFields() bool {
	lengths := 0
	for _, f := range c.fields {
		if !RightField(f) {
			return false
		}
		if f.Name == lengthName {
			lengths++
		}
	}
	return lengths <= 1
}

// rightLength tells whether the length is right, wherever it is told.
func (c *common) rightLength() bool {
	right := strconv.Itoa(len(c.body))
	for _, f := range c.fields {
		if f.Name == lengthName && f.Value != right {
			return false
		}
	}
	return true
}

// split parts a head into the values of the fields with these names, in the order of the names, and all other fields, which stay. It is none, if its first fields aren't just these.
func (c *common) split(head []api.Field, names ...string) ([]string, bool) {
	if len(head) < len(names) {
		return nil, false
	}
	own := head[:len(names)]
	var values []string
	for _, name := range names {
		at := slices.IndexFunc(own, func(f api.Field) bool { return f.Name == name })
		if at < 0 {
			return nil, false
		}
		values = append(values, own[at].Value)
	}
	c.fields = head[len(names):]
	return values, true
}

// tell are the bytes of a message that may be, with fields of its own.
func (c *common) tell(own []api.Field) []byte {
	// Nothing is refused here: so many fields, and so long ones, as may be have room in a section.
	encoder, _ := qpack.NewEncoder(0)
	_, section, _ := encoder.Encode(slices.Concat(own, c.fields), false)
	b := appendFrame(nil, headFrame, section)
	if len(c.body) > 0 {
		b = appendFrame(b, dataFrame, c.body)
	}
	return b
}

// read reads frames: the head is answered, the body stays.
func (c *common) read(b []byte) ([]api.Field, api.Errno) {
	if len(b) > mostBytes {
		return nil, api.ErrMany
	}
	var head []api.Field
	hasHead := false
	for at := 0; at < len(b); {
		kind, told, next, why := frameAt(b, at)
		if why != api.OK {
			return nil, why
		}
		switch {
		case kind == headFrame && hasHead || kind == dataFrame && !hasHead:
			return nil, api.ErrOrder
		case kind == headFrame:
			head, why = decode(told)
			if why != api.OK {
				return nil, why
			}
			hasHead = true
		case kind == dataFrame:
			c.body = append(c.body, told...)
		}
		at = next
	}
	if !hasHead {
		return nil, api.ErrOrder
	}
	return head, api.OK
}

// decode are the fields of a section that is told without a growing table.
func decode(section []byte) ([]api.Field, api.Errno) {
	decoder, _ := qpack.NewDecoder(0)
	fields, fault := decoder.Decode(section)
	return fields, fault.Why
}
