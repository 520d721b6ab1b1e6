package qpack

import "turnbuckle/api"

// section is one that a decoder reads.
type section struct {
	*Decoder
	reader
	need int // how many fields must have been put in
	base int
}

// begin reads what stands ahead of the lines.
func (s *section) begin() error {
	_, need, err := s.number(needBits)
	if err != nil {
		return err
	}
	// Asked ahead of reading on, since a section that waits is not looked at any further.
	if need > s.Count() {
		return fault{api.ErrWait}
	}
	less, distance, err := s.number(baseBits)
	if err != nil {
		return err
	}
	s.need, s.base = need, need+distance
	if less&baseLess != 0 {
		s.base = need - distance - 1
	}
	if s.base < 0 {
		return fault{api.ErrForm}
	}
	return nil
}

// line reads a line, of which a byte is there, and then looks up what it tells of.
func (s *section) line() (api.Field, error) {
	switch first := s.first(); {
	case first >= lineWhole:
		flags, n, err := s.number(lineWholeBits)
		if err != nil {
			return api.Field{}, err
		}
		return s.ahead(flags&lineWholeFixed != 0, n)
	case first >= lineNamed:
		flags, n, value, err := s.numberAndValue(lineNamedBits)
		if err != nil {
			return api.Field{}, err
		}
		f, err := s.ahead(flags&lineNamedFixed != 0, n)
		f.Value = value
		return f, err
	case first >= lineTold:
		return s.nameAndValue(lineToldBits)
	case first >= pastWhole:
		_, n, err := s.number(pastWholeBits)
		if err != nil {
			return api.Field{}, err
		}
		return s.past(n)
	}
	_, n, value, err := s.numberAndValue(pastNamedBits)
	if err != nil {
		return api.Field{}, err
	}
	f, err := s.past(n)
	f.Value = value
	return f, err
}

// ahead is the field with this number in the fixed table, or so many and 1 ahead of the base.
func (s *section) ahead(isFixed bool, n int) (api.Field, error) {
	if isFixed {
		return fixed(n)
	}
	return s.growing(s.base - 1 - n)
}

// past is the field that has the base and so many as its number.
func (s *section) past(n int) (api.Field, error) {
	// With more than the need no field is there, wherever the base is; with much more the number would leave 64 bits.
	return s.growing(s.base + min(n, s.need))
}

// growing is a field of the growing table, which must be below what the section needs.
func (s *section) growing(n int) (api.Field, error) {
	if n >= s.need {
		return api.Field{}, fault{api.ErrTable}
	}
	f, why := s.table.Get(n)
	return f, asError(why)
}
