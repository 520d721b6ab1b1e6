package qpack

import (
	"math"
	"strings"
	"testing"

	"turnbuckle/api"
)

// P14.1: a decoder's most, and its instructions.

func TestNewDecoder(t *testing.T) {
	for _, most := range []int{0, 1, 31, 4095, widest} {
		p := decoder(t, most, most)
		p.stops(capIns(most+1), api.ErrArg, 0)
	}
	for _, most := range []int{-1, -2, -4096, math.MinInt, widest + 1, 1 << 16, 1<<32 + 1, math.MaxInt} {
		if d, e := NewDecoder(most); d != nil || e != api.ErrArg {
			t.Errorf("NewDecoder(%d) is %v, %v", most, d, e)
		}
	}
}

func TestANewTableHasNoRoom(t *testing.T) {
	for _, most := range []int{0, 32, widest} {
		made, _ := NewDecoder(most)
		p := &pair{t: t, Decoder: made, m: model{most: most}}
		p.stops(toldIns(plain, "", ""), api.ErrMany, 0)
		p.stops(fixedIns(1, plain, "/"), api.ErrMany, 0)
		p.stops(againIns(0), api.ErrTable, 0)
		p.table(0)
	}
}

func TestNoInstructions(t *testing.T) {
	p := decoder(t, widest, widest, putIns(field("a", "b")))
	p.fed(nil)
	p.fed([]byte{})
	p.table(0, field("a", "b"))
}

func TestTheCapacity(t *testing.T) {
	p := decoder(t, widest, 70, putIns(field("a", "b"), field("c", "d")))
	p.table(0, field("a", "b"), field("c", "d"))
	p.fed([]byte{0x3F, 0x27}) // 70
	p.table(0, field("a", "b"), field("c", "d"))
	p.fed(capIns(68))
	p.table(0, field("a", "b"), field("c", "d"))
	p.fed(capIns(67))
	p.table(1, field("c", "d"))
	p.fed([]byte{0x20})
	p.table(2)
	p.fed(capIns(34))
	p.fed(putIns(field("e", "f"), field("g", "h")))
	p.table(3, field("g", "h"))
	p.fed(longNum(0x20, 5, widest))
	p.fed(putIns(field("i", "j")))
	p.table(3, field("g", "h"), field("i", "j"))
}

func TestACapacityAboveTheMost(t *testing.T) {
	for _, most := range []int{0, 30, 31, 70, 4095, widest} {
		p := decoder(t, most, most)
		for _, n := range []int{most + 1, most + 2, most + 1<<16, most + 1<<32, 1 << 61, highest} {
			p.refused(capIns(most), capIns(n), api.ErrArg)
		}
	}
}

func TestInsertUnderAFixedName(t *testing.T) {
	for _, text := range texters() {
		p := decoder(t, widest, widest)
		var l []api.Field
		for n, f := range fixedTable() {
			p.fed(fixedIns(n, text, "other"))
			l = append(l, field(f.Name, "other"))
		}
		p.table(0, l...)
		for _, n := range []int{24, 25, 62, 63, 64, 255, 1 << 31, 1 << 32, 1<<32 + 1, highest} {
			p.refused(capIns(widest), fixedIns(n, text, "other"), api.ErrTable)
		}
	}
}

func TestInsertUnderAGrowingName(t *testing.T) {
	for _, text := range texters() {
		p := decoder(t, widest, widest, putIns(field("a", "1"), field("b", "2"), field("c", "3")))
		p.fed(growIns(0, text, "4"))
		p.fed(growIns(3, text, ""))
		p.fed(growIns(3, text, "5 and more"))
		p.table(0, field("a", "1"), field("b", "2"), field("c", "3"), field("c", "4"), field("a", ""), field("b", "5 and more"))
		for _, n := range []int{6, 7, 62, 63, 64, 1 << 32, 1<<32 + 1, highest - 1, highest} {
			p.refused(nil, growIns(n, text, "x"), api.ErrTable)
		}
	}
}

func TestInsertTold(t *testing.T) {
	for _, text := range texters() {
		p := decoder(t, widest, widest)
		p.fed(toldIns(text, "age", "0"))
		p.fed(toldIns(text, "", ""))
		p.fed(toldIns(text, "a name of more than 31 bytes, which has two for its length", "\x00\xFF"))
		p.fed(toldIns(text, "\xFF", strings.Repeat("value", 40)))
		p.table(0, field("age", "0"), field("", ""), field("a name of more than 31 bytes, which has two for its length", "\x00\xFF"), field("\xFF", strings.Repeat("value", 40)))
	}
	p := decoder(t, widest, widest)
	p.fed([]byte{0x41, 'a', 0x01, 'b', 0x63, 0x35, 0x24, 0x7F, 0x83, 0x35, 0x24, 0x7F})
	p.table(0, field("a", "b"), field("age", "age"))
}

func TestInsertAgain(t *testing.T) {
	p := decoder(t, widest, 102, putIns(field("a", "1"), field("b", "2"), field("c", "3")))
	p.fed([]byte{0x01})
	p.table(1, field("b", "2"), field("c", "3"), field("b", "2"))
	p.fed([]byte{0x02})
	p.table(2, field("c", "3"), field("b", "2"), field("b", "2"))
	p.fed(againIns(0))
	p.table(3, field("b", "2"), field("b", "2"), field("b", "2"))
	for _, n := range []int{3, 4, 5, 6, 30, 31, 32, 1 << 32, highest - 1, highest} {
		p.refused(nil, againIns(n), api.ErrTable)
	}
}

// A field goes ahead of the one that is put in under its name, or as it is.
func TestInsertOfWhatGoes(t *testing.T) {
	p := decoder(t, widest, 40, putIns(field("abcdefgh", "")))
	p.fed(growIns(0, plain, ""))
	p.table(1, field("abcdefgh", ""))
	p.fed(againIns(0))
	p.table(2, field("abcdefgh", ""))
	p.refused(nil, growIns(0, plain, "v"), api.ErrMany)
	p.table(2, field("abcdefgh", ""))
}

func TestFieldsThatAreNotThere(t *testing.T) {
	p := decoder(t, widest, widest)
	for n := range 3 {
		p.refused(nil, againIns(n), api.ErrTable)
		p.refused(nil, growIns(n, plain, "x"), api.ErrTable)
	}
	p.fed(putIns(field("a", "1"), field("b", "2"), field("c", "3")))
	p.fed(capIns(68)) // a goes
	for _, n := range []int{2, 3, 4} {
		p.refused(nil, againIns(n), api.ErrTable)
		p.refused(nil, growIns(n, plain, "x"), api.ErrTable)
	}
	p.fed(capIns(33)) // all go
	for _, n := range []int{0, 1, 2, 3} {
		p.refused(nil, againIns(n), api.ErrTable)
		p.refused(nil, growIns(n, plain, ""), api.ErrTable)
	}
	p.table(3)
}

func TestFieldsWithoutRoom(t *testing.T) {
	for _, text := range texters() {
		p := decoder(t, widest, 42, putIns(field("abcde", "fghij")))
		p.refused(nil, toldIns(text, "abcde", "fghijk"), api.ErrMany)
		p.refused(nil, toldIns(text, "abcdef", "fghij"), api.ErrMany)
		p.refused(nil, toldIns(text, "abcdefghijk", ""), api.ErrMany)
		p.refused(nil, growIns(0, text, "fghijk"), api.ErrMany)
		p.refused(nil, fixedIns(14, text, "fghijklm"), api.ErrMany)
		p.refused(nil, fixedIns(17, text, ""), api.ErrMany)
		p.refused(nil, toldIns(text, strings.Repeat("n", 64), strings.Repeat("v", 512)), api.ErrMany)
		p.table(0, field("abcde", "fghij"))
		p.fed(fixedIns(14, text, "fghijkl"))
		p.table(1, field("age", "fghijkl"))
	}
}

func TestLongTextsOfInstructions(t *testing.T) {
	name, value := strings.Repeat("n", 64), strings.Repeat("v", 512)
	for _, one := range texters() {
		for _, other := range texters() {
			p := decoder(t, widest, widest)
			p.fed(join(one(0x40, 6, name), other(0, 8, value)))
			p.fed(fixedIns(0, other, value))
			p.fed(growIns(1, other, value))
			p.table(0, field(name, value), field(":authority", value), field(name, value))
			for _, more := range []int{1, 2, 600, 70000} {
				p.refused(nil, join(one(0x40, 6, name+strings.Repeat("n", more)), other(0, 8, "")), api.ErrField)
				p.refused(nil, join(one(0x40, 6, name+strings.Repeat("n", more)), other(0, 8, value+"v")), api.ErrField)
				p.refused(nil, join(one(0x40, 6, ""), other(0, 8, value+strings.Repeat("v", more))), api.ErrField)
				p.refused(nil, fixedIns(0, other, value+strings.Repeat("v", more)), api.ErrField)
				p.refused(nil, growIns(0, other, value+strings.Repeat("v", more)), api.ErrField)
			}
		}
	}
}

// A text in the fields' code counts by what it tells, not by how long it stands there: these symbols have 13 bits.
func TestATextCountsByWhatItTells(t *testing.T) {
	p := decoder(t, widest, widest)
	name, value := strings.Repeat("\xFF", 64), strings.Repeat("\xFF", 512)
	p.fed(toldIns(coded, name, value))
	p.table(0, field(name, value))
	p.refused(nil, toldIns(coded, name+"\xFF", ""), api.ErrField)
	p.refused(nil, toldIns(coded, "", value+"\xFF"), api.ErrField)
	p.refused(nil, toldIns(coded, strings.Repeat("a", 65), ""), api.ErrField) // in 41 bytes
	p.tells(join(start(1, 0), toldLine(0, coded, name, value), aheadLine(0)), field(name, value), field(name, value))
	p.lineFails(start(0, 0), toldLine(0, coded, strings.Repeat("a", 65), ""), api.ErrField)
}

// someIns are instructions of all kinds, with numbers of one byte and of many, for a decoder that has three fields.
func someIns() [][]byte {
	l := [][]byte{
		capIns(0), capIns(30), capIns(31), capIns(widest), longNum(0x20, 5, 200),
		againIns(0), againIns(2), longNum(0, 5, 31),
		longNum(0x80, 6, 63), longNum(0xC0, 6, 63),
	}
	for _, i := range []int{7, 8} { // their values are missing
		l[i+1] = append(l[i+1], 0)
	}
	for _, text := range texters() {
		l = append(l,
			fixedIns(1, text, ""), fixedIns(23, text, "v"), fixedIns(16, text, strings.Repeat("v", 300)),
			growIns(0, text, ""), growIns(2, text, "another value"), growIns(1, text, strings.Repeat("v", 127)),
			toldIns(text, "", ""), toldIns(text, "name", ""), toldIns(text, "", "value"),
			toldIns(text, "name", "value"), toldIns(text, strings.Repeat("n", 31), strings.Repeat("v", 128)),
		)
	}
	// A text with more groups than it needs.
	return append(l, join(longNum(0x40, 5, 31), []byte(strings.Repeat("n", 31)), longNum(0, 7, 127), []byte(strings.Repeat("v", 127))))
}

func TestInstructionsCutAtEveryByte(t *testing.T) {
	ahead := join(putIns(field("a", "1")), againIns(0), capIns(2000))
	for _, b := range someIns() {
		p := decoder(t, widest, 2000, putIns(field("a", "1"), field("b", "2"), field("c", "3")))
		for cut := 1; cut < len(b); cut++ {
			p.stops(b[:cut], api.ErrEnd, 0)
		}
		p.table(0, field("a", "1"), field("b", "2"), field("c", "3"))
		for _, cut := range []int{1, len(b) / 2, len(b) - 1} {
			if cut > 0 && cut < len(b) {
				p.stops(join(ahead, b[:cut]), api.ErrEnd, len(ahead))
			}
		}
		p.same(b) // as if what was cut had not been there
	}
}

func TestNumbersThatHaveNoForm(t *testing.T) {
	for bad := range 3 {
		p := decoder(t, widest, widest, putIns(field("a", "1")))
		for _, wrong := range [][]byte{
			badNums(0x00, 5)[bad],
			badNums(0x20, 5)[bad],
			badNums(0x80, 6)[bad],
			badNums(0xC0, 6)[bad],
			join(badNums(0x80, 6)[bad], plain(0, 8, "v")),
			join(badNums(0xC0, 6)[bad], plain(0, 8, "v")),
			badNums(0x40, 5)[bad],
			badNums(0x60, 5)[bad],
			join(num(0xC0, 6, 1), badNums(0x00, 7)[bad]),
			join(num(0xC0, 6, 1), badNums(0x80, 7)[bad]),
			join(num(0x80, 6, 0), badNums(0x00, 7)[bad]),
			join(num(0x80, 6, 0), badNums(0x80, 7)[bad]),
			join(plain(0x40, 6, "n"), badNums(0x00, 7)[bad]),
			join(coded(0x40, 6, "n"), badNums(0x80, 7)[bad]),
		} {
			p.refused(capIns(widest), wrong, api.ErrForm)
			if bad < 2 { // a byte less: it is missing
				p.stops(wrong[:1], api.ErrEnd, 0)
			}
		}
		p.table(0, field("a", "1"))
	}
}

// The greatest numbers that can be told are numbers: of a text so long bytes are missing.
func TestTheGreatestNumbers(t *testing.T) {
	p := decoder(t, widest, widest, putIns(field("a", "1")))
	p.refused(nil, capIns(highest), api.ErrArg)
	p.refused(nil, againIns(highest), api.ErrTable)
	for _, first := range []int{0x40, 0x60} {
		p.stops(num(first, 5, highest), api.ErrEnd, 0)
		p.stops(join(num(first, 5, highest), make([]byte, 3000)), api.ErrEnd, 0)
	}
	for _, first := range []int{0x00, 0x80} {
		p.stops(join(num(0xC0, 6, 1), num(first, 7, highest), make([]byte, 600)), api.ErrEnd, 0)
		p.stops(join(num(0x80, 6, 0), num(first, 7, highest), make([]byte, 600)), api.ErrEnd, 0)
		p.stops(join(plain(0x40, 6, "n"), num(first, 7, highest), make([]byte, 600)), api.ErrEnd, 0)
	}
	p.table(0, field("a", "1"))
}

func TestTextsThatAreNotToldRightly(t *testing.T) {
	p := decoder(t, widest, widest, putIns(field("a", "1")))
	for _, wrong := range badTexts(0x40, 6) {
		p.refused(nil, join(wrong, plain(0, 8, "v")), api.ErrHuff)
		p.stops(wrong[:len(wrong)-1], api.ErrEnd, 0)
	}
	for _, wrong := range badTexts(0, 8) {
		p.refused(nil, join(plain(0x40, 6, "n"), wrong), api.ErrHuff)
		p.refused(nil, join(coded(0x40, 6, "n"), wrong), api.ErrHuff)
		p.refused(nil, join(num(0xC0, 6, 1), wrong), api.ErrHuff)
		p.refused(nil, join(num(0x80, 6, 0), wrong), api.ErrHuff)
		p.stops(join(num(0x80, 6, 0), wrong[:len(wrong)-1]), api.ErrEnd, 0)
	}
	p.table(0, field("a", "1"))
	// The same bytes are a text, if they are told plainly.
	p.fed([]byte{0x43, 0x35, 0x24, 0x7E, 0x01, 0xFF})
	p.table(0, field("a", "1"), field("\x35\x24\x7E", "\xFF"))
}

// What is read goes ahead of what is looked up and done, one behind the other.
func TestWhichFaultOfAnInstruction(t *testing.T) {
	long, longer := strings.Repeat("n", 65), strings.Repeat("v", 513)
	badName, badValue, form := badTexts(0x40, 6)[0], badTexts(0, 8)[0], badNums(0, 7)[0]
	missing := []byte{0x05, 'v'}
	p := decoder(t, widest, 40, putIns(field("a", "1")))
	for _, nowhere := range [][]byte{num(0xC0, 6, 24), num(0x80, 6, 1), num(0xC0, 6, highest)} {
		p.stops(nowhere, api.ErrEnd, 0)
		p.stops(join(nowhere, missing), api.ErrEnd, 0)
		p.refused(nil, join(nowhere, form), api.ErrForm)
		p.refused(nil, join(nowhere, badValue), api.ErrHuff)
		p.refused(nil, join(nowhere, plain(0, 8, longer)), api.ErrField)
		p.refused(nil, join(nowhere, coded(0, 8, longer)), api.ErrField)
		p.refused(nil, join(nowhere, plain(0, 8, "a value without room")), api.ErrTable)
	}
	for _, behind := range [][]byte{nil, missing, form, badValue, plain(0, 8, longer), plain(0, 8, "v")} {
		p.stops(join(badName, behind), api.ErrHuff, 0)
		p.stops(join(plain(0x40, 6, long), behind), api.ErrField, 0)
		p.stops(join(coded(0x40, 6, long), behind), api.ErrField, 0)
		p.stops(join(badNums(0xC0, 6)[0], behind), api.ErrForm, 0)
		p.stops(join(badNums(0x40, 5)[0], behind), api.ErrForm, 0)
	}
	for _, name := range []string{"n", "a name without room", strings.Repeat("n", 64)} {
		ahead := plain(0x40, 6, name)
		p.stops(join(ahead, missing), api.ErrEnd, 0)
		p.refused(nil, join(ahead, form), api.ErrForm)
		p.refused(nil, join(ahead, badValue), api.ErrHuff)
		p.refused(nil, join(ahead, plain(0, 8, longer)), api.ErrField)
		p.refused(nil, join(ahead, plain(0, 8, "a value without room")), api.ErrMany)
	}
	// A text of which bytes are missing is not asked for anything else.
	p.stops(plain(0x40, 6, long)[:60], api.ErrEnd, 0)
	p.stops(join(num(0x60, 5, 3), []byte{0xFF, 0xFF}), api.ErrEnd, 0)
	p.stops(join(num(0xC0, 6, 1), plain(0, 8, longer)[:500]), api.ErrEnd, 0)
	// A text that is too long and not told rightly.
	p.refused(nil, join(badTexts(0x40, 6)[5], plain(0, 8, "v")), api.ErrHuff)
	p.refused(nil, join(num(0xC0, 6, 1), badTexts(0, 8)[5]), api.ErrHuff)
	p.table(0, field("a", "1"))
}

// What is told ahead of the fault is done, and what is told behind it is not.
func TestInstructionsAroundAFault(t *testing.T) {
	for _, wrong := range [][]byte{
		capIns(widest + 1),
		againIns(4),
		growIns(4, plain, "v"),
		fixedIns(24, coded, "v"),
		toldIns(plain, strings.Repeat("n", 65), ""),
		toldIns(coded, "n", strings.Repeat("v", 100)),
		badNums(0x20, 5)[1],
		join(num(0xC0, 6, 1), badTexts(0, 8)[2]),
	} {
		p := decoder(t, widest, 0)
		ahead := join(capIns(105), putIns(field("a", "1"), field("b", "2")), againIns(1), growIns(1, plain, "3"), fixedIns(14, plain, "4"))
		if fault := p.same(join(ahead, wrong, ahead)); fault.Why == api.OK || fault.At != len(ahead) {
			t.Fatalf("%x is told: %v, not at %d", wrong, fault, len(ahead))
		}
		p.table(2, field("a", "1"), field("b", "3"), field("age", "4"))
		p.fed(againIns(2))
		p.table(3, field("b", "3"), field("age", "4"), field("a", "1"))
	}
}

func TestInstructionsFedInPieces(t *testing.T) {
	whole, pieces := decoder(t, widest, 300), decoder(t, widest, 300)
	var all []byte
	for n, b := range someIns() {
		if n < 7 || n > 9 { // those tell of fields that are not there
			all = append(all, b...)
			pieces.same(b)
		}
	}
	for at := 0; at < len(all); {
		fault := whole.same(all[at:])
		if fault.Why == api.OK {
			break
		}
		at += fault.At
		s := &slow{b: all, at: at}
		(&model{}).do(s) // past what was refused
		at = s.at
	}
	if whole.m.first != pieces.m.first || len(whole.m.all) != len(pieces.m.all) {
		t.Fatalf("%d to %d are there, and %d to %d in pieces", whole.m.first, len(whole.m.all), pieces.m.first, len(pieces.m.all))
	}
}
