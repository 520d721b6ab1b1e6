package qpack

import (
	"turnbuckle/api"
	"turnbuckle/qtab"
)

// do reads an instruction, of which a byte is there, and then does it: what can't be read to its end must turn nothing.
func (d *Decoder) do(r *reader) error {
	switch first := r.first(); {
	case first >= putNamed:
		return d.doPutNamed(r)
	case first >= putTold:
		f, err := r.nameAndValue(putToldBits)
		if err != nil {
			return err
		}
		return d.insert(f)
	case first >= newCap:
		_, n, err := r.number(newCapBits)
		if err != nil {
			return err
		}
		return asError(d.table.SetCap(n))
	}
	return d.doPutAgain(r)
}

// doPutNamed puts in a field under the name of another one.
func (d *Decoder) doPutNamed(r *reader) error {
	flags, n, value, err := r.numberAndValue(putNamedBits)
	if err != nil {
		return err
	}
	var f api.Field
	if flags&putNamedFixed != 0 {
		f, err = fixed(n)
	} else {
		f, err = d.fromLast(n)
	}
	if err != nil {
		return err
	}
	f.Value = value
	return d.insert(f)
}

// doPutAgain puts in a field that is there already.
func (d *Decoder) doPutAgain(r *reader) error {
	_, n, err := r.number(putAgainBits)
	if err != nil {
		return err
	}
	f, err := d.fromLast(n)
	if err != nil {
		return err
	}
	return d.insert(f)
}

// insert puts a field in.
func (d *Decoder) insert(f api.Field) error {
	_, why := d.table.Insert(f)
	return asError(why)
}

// fromLast is the field of the growing table that is so many ahead of the last one.
func (d *Decoder) fromLast(n int) (api.Field, error) {
	f, why := d.table.Get(d.table.Count() - 1 - n)
	return f, asError(why)
}

// fixed is a field of the fixed table.
func fixed(n int) (api.Field, error) {
	f, why := qtab.Fixed(n)
	return f, asError(why)
}
