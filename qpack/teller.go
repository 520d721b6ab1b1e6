package qpack

import (
	"turnbuckle/api"
	"turnbuckle/huff"
	"turnbuckle/pint"
	"turnbuckle/qtab"
)

// teller tells the fields of one list, one behind the other.
type teller struct {
	table        *qtab.Table
	put          bool
	base         int // how many fields had been put in ahead of this list
	need         int // just above the greatest number of a field that a line tells of
	kept         int // the least such number: this field and those behind it must stay
	instructions []byte
	lines        []byte
}

// newTeller is one that has told nothing yet.
func newTeller(table *qtab.Table, put bool) *teller {
	return &teller{table: table, put: put, base: table.Count(), kept: api.MaxVarint}
}

// section is what was told.
func (t *teller) section() []byte {
	b := appendNumber(nil, 0, needBits, t.need)
	if t.base >= t.need {
		b = appendNumber(b, 0, baseBits, t.base-t.need)
	} else {
		b = appendNumber(b, baseLess, baseBits, t.need-t.base-1)
	}
	return append(b, t.lines...)
}

// tell tells a field: by its number, or else with its value.
func (t *teller) tell(f api.Field) {
	if whole, _ := qtab.FindFixed(f); whole >= 0 {
		t.lines = appendNumber(t.lines, lineWhole|lineWholeFixed, lineWholeBits, whole)
		return
	}
	// What is told without putting in must be decoded by one that has heard of no instruction.
	if t.put && t.tellOfTable(f) {
		return
	}
	t.tellValue(f)
}

// tellOfTable tells a field that is in the growing table, or can be put there.
func (t *teller) tellOfTable(f api.Field) bool {
	n, _ := t.table.Find(f)
	if n < 0 {
		if !t.hasRoom(qtab.Room(f)) {
			return false
		}
		n = t.insert(f)
	}
	t.keep(n)
	if n < t.base {
		t.lines = appendNumber(t.lines, lineWhole, lineWholeBits, t.base-1-n)
	} else {
		t.lines = appendNumber(t.lines, pastWhole, pastWholeBits, n-t.base)
	}
	return true
}

// tellValue tells a field with its value, and its name if no table has it.
func (t *teller) tellValue(f api.Field) {
	if _, named := qtab.FindFixed(f); named >= 0 {
		t.lines = appendNumber(t.lines, lineNamed|lineNamedFixed, lineNamedBits, named)
	} else if n := t.named(f); n < 0 {
		t.lines = appendText(t.lines, lineTold, lineToldBits, f.Name)
	} else if t.keep(n); n < t.base {
		t.lines = appendNumber(t.lines, lineNamed, lineNamedBits, t.base-1-n)
	} else {
		t.lines = appendNumber(t.lines, pastNamed, pastNamedBits, n-t.base)
	}
	t.lines = appendText(t.lines, 0, valueBits, f.Value)
}

// named is a field of the growing table with the same name, if this list may tell of that table.
func (t *teller) named(f api.Field) int {
	if !t.put {
		return -1
	}
	_, n := t.table.Find(f)
	return n
}

// keep remembers that a line tells of this field.
func (t *teller) keep(n int) {
	t.need = max(t.need, n+1)
	t.kept = min(t.kept, n)
}

// hasRoom tells whether a field with this room can be put in, so that none goes of which a line tells: the lines are read behind all instructions.
func (t *teller) hasRoom(room int) bool {
	free := t.table.Cap() - t.table.Used()
	for n := t.table.First(); free < room; n++ {
		f, why := t.table.Get(n)
		if why != api.OK || n >= t.kept {
			return false
		}
		free += qtab.Room(f)
	}
	return true
}

// insert puts in a field that has room, and tells so.
func (t *teller) insert(f api.Field) int {
	if _, n := qtab.FindFixed(f); n >= 0 {
		t.instructions = appendNumber(t.instructions, putNamed|putNamedFixed, putNamedBits, n)
	} else if _, n := t.table.Find(f); n >= 0 {
		t.instructions = appendNumber(t.instructions, putNamed, putNamedBits, t.table.Count()-1-n)
	} else {
		t.instructions = appendText(t.instructions, putTold, putToldBits, f.Name)
	}
	t.instructions = appendText(t.instructions, 0, valueBits, f.Value)
	n, _ := t.table.Insert(f)
	return n
}

// appendNumber puts a number, with flags ahead of it, behind bytes of the teller's own.
func appendNumber(b []byte, flags, bits, n int) []byte {
	number, _ := pint.Put(nil, flags, bits, n)
	return append(b, number...)
}

// appendText puts a text of so many bits, with flags ahead of it, in the fields' code if it is shorter so.
func appendText(b []byte, flags, bits int, text string) []byte {
	if coded, _ := huff.Encode(huff.Fields(), []byte(text)); len(coded) < len(text) {
		b = appendNumber(b, flags|isCoded(bits), bits-1, len(coded))
		return append(b, coded...)
	}
	b = appendNumber(b, flags, bits-1, len(text))
	return append(b, text...)
}
