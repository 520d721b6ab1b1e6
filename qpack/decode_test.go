package qpack

import (
	"slices"
	"strings"
	"testing"

	"turnbuckle/api"
)

// P14.2: sections.

// abc is a decoder into whose table six fields were put, of which the first two went.
func abc(t *testing.T) *pair {
	t.Helper()
	p := decoder(t, widest, 4*34, putIns(field("a", "0"), field("b", "1"), field("c", "2"), field("d", "3"), field("e", "4"), field("f", "5")))
	p.table(2, field("c", "2"), field("d", "3"), field("e", "4"), field("f", "5"))
	return p
}

func TestTheChaptersExample(t *testing.T) {
	for _, most := range []int{0, widest} {
		p := decoder(t, most, 0)
		p.tells([]byte{0x00, 0x00, 0xD1, 0xC1}, field("content-length", "0"), field(":path", "/"))
	}
}

func TestSectionsWithoutLines(t *testing.T) {
	p := abc(t)
	for need := range 7 {
		p.tells(start(need, 0))
		p.tells(start(need, 127))
		p.tells(start(need, highest))
		if need > 0 {
			p.tells(startLess(need, need-1))
		}
	}
}

func TestNoSection(t *testing.T) {
	for _, p := range []*pair{decoder(t, 0, 0), abc(t)} {
		p.fails(nil, api.ErrEnd, 0)
		p.fails([]byte{}, api.ErrEnd, 0)
		p.fails([]byte{0x00}, api.ErrEnd, 0)
	}
}

func TestLinesOfTheFixedTable(t *testing.T) {
	for _, p := range []*pair{decoder(t, 0, 0), abc(t)} {
		for n, f := range fixedTable() {
			p.tells(join(start(0, 0), fixedLine(n)), f)
			for never := range 2 {
				for _, text := range texters() {
					p.tells(join(start(0, 0), fixedNameLine(never, n, text, "other")), field(f.Name, "other"))
				}
			}
		}
		for _, n := range []int{24, 25, 62, 63, 64, 1 << 32, 1<<32 + 1, highest - 1, highest} {
			p.lineFails(start(0, 0), fixedLine(n), api.ErrTable)
			p.lineFails(start(0, 0), fixedNameLine(0, n, plain, "v"), api.ErrTable)
			p.lineFails(start(0, 0), fixedNameLine(1, n, coded, "v"), api.ErrTable)
		}
	}
}

func TestLinesThatTellAll(t *testing.T) {
	for _, p := range []*pair{decoder(t, 0, 0), abc(t)} {
		for never := range 2 {
			for _, text := range texters() {
				for _, f := range []api.Field{
					field("", ""), field("a", "b"), field("name", ""), field("", "value"),
					field("sixteen bytes ..", strings.Repeat("0", 126)), field("\x00\xFF", strings.Repeat("~", 127)),
					field(strings.Repeat("A", 7), strings.Repeat("v", 128)), field(":path", "/"),
				} {
					p.tells(join(start(0, 0), toldLine(never, text, f.Name, f.Value)), f)
				}
			}
		}
		p.tells([]byte{0, 0, 0x21, 'a', 0x01, 'b', 0x3B, 0x35, 0x24, 0x7F, 0x83, 0x35, 0x24, 0x7F}, field("a", "b"), field("age", "age"))
	}
}

// Each way to tell of the growing table, of each field, from each base.
func TestLinesOfTheGrowingTable(t *testing.T) {
	p := abc(t)
	all := []api.Field{field("a", "0"), field("b", "1"), field("c", "2"), field("d", "3"), field("e", "4"), field("f", "5")}
	for need := range 7 {
		for base := range 12 {
			begin := start(need, base-need)
			if base < need {
				begin = startLess(need, need-base-1)
			}
			for n := range 9 {
				there := n >= 2 && n < need
				if n < base {
					p.growingLine(begin, aheadLine(base-1-n), there, all, n, true)
					p.growingLine(begin, aheadNameLine(0, base-1-n, plain, "v"), there, all, n, false)
					p.growingLine(begin, aheadNameLine(1, base-1-n, coded, "v"), there, all, n, false)
				} else {
					p.growingLine(begin, pastLine(n-base), there, all, n, true)
					p.growingLine(begin, pastNameLine(0, n-base, plain, "v"), there, all, n, false)
					p.growingLine(begin, pastNameLine(1, n-base, coded, "v"), there, all, n, false)
				}
			}
			for _, below := range []int{0, 1, 100, highest - base} {
				p.lineFails(begin, aheadLine(base+below), api.ErrTable)
				p.lineFails(begin, aheadNameLine(0, base+below, plain, "v"), api.ErrTable)
			}
		}
	}
}

// growingLine asks for the field n, or for its name, if it is there.
func (p *pair) growingLine(begin, line []byte, there bool, all []api.Field, n int, whole bool) {
	p.t.Helper()
	if !there {
		p.lineFails(begin, line, api.ErrTable)
		return
	}
	want := field(all[n].Name, "v")
	if whole {
		want = all[n]
	}
	p.tells(join(begin, line), want)
	p.tells(join(begin, line, fixedLine(1), line), want, field(":path", "/"), want)
}

// Numbers of many bytes, of which what is worked out must not leave 64 bits.
func TestGreatNumbersOfSections(t *testing.T) {
	p := abc(t)
	for _, distance := range []int{127, 128, 300, 1 << 32, highest - 7, highest - 6, highest - 1, highest} {
		begin := start(6, distance)
		p.fails(join(begin, aheadLine(distance-1)), api.ErrTable, len(begin))
		p.tells(join(begin, aheadLine(distance)), field("f", "5"))
		p.tells(join(begin, aheadNameLine(0, distance, plain, "v")), field("f", "v"))
		for _, n := range []int{0, 1, 20, 1 << 32, highest - 1, highest} {
			p.lineFails(begin, pastLine(n), api.ErrTable)
			p.lineFails(begin, pastNameLine(0, n, plain, "v"), api.ErrTable)
			p.lineFails(begin, aheadLine(min(n, distance-1)), api.ErrTable)
		}
		p.fails(startLess(6, distance), api.ErrForm, 0)
	}
	for _, n := range []int{0, 1, 14, 15, 200, 1 << 32, highest} {
		for need := range 7 {
			p.lineFails(start(need, 0), pastLine(n), api.ErrTable)
			p.lineFails(start(need, 0), pastNameLine(1, n, plain, "v"), api.ErrTable)
		}
	}
	begin := join([]byte{5}, longNum(0, 7, 127))
	p.tells(join(begin, longNum(0x80, 6, 127)), field("e", "4"))
	p.tells(join(begin, longNum(0x60, 4, 127), coded(0, 8, "")), field("e", ""))
}

func TestABaseBelowNothing(t *testing.T) {
	p := abc(t)
	for need := range 7 {
		for _, more := range []int{0, 1, 2, 120, 1 << 32, highest - need} {
			begin := startLess(need, need+more)
			p.fails(begin, api.ErrForm, 0)
			p.fails(join(begin, fixedLine(1)), api.ErrForm, 0)
			p.fails(join(begin, pastLine(more+3)), api.ErrForm, 0)
		}
		if need > 0 {
			p.tells(startLess(need, need-1))
		}
	}
	p.tells(join(startLess(6, 5), pastLine(5), pastNameLine(0, 2, plain, "v")), field("f", "5"), field("c", "v"))
	p.lineFails(startLess(6, 5), aheadLine(0), api.ErrTable)
}

// What goes out of the table can't be told of any more.
func TestFieldsThatWent(t *testing.T) {
	p := decoder(t, widest, 68, putIns(field("a", "0"), field("b", "1")))
	b := join(start(2, 0), aheadLine(0), aheadLine(1))
	p.tells(b, field("b", "1"), field("a", "0"))
	p.fed(putIns(field("c", "2")))
	p.fails(b, api.ErrTable, 3)
	p.tells(b[:3], field("b", "1"))
	p.fed(capIns(0))
	p.fails(b, api.ErrTable, 2)
	p.tells(start(3, 0))
}

// P14.6

func TestASectionWaits(t *testing.T) {
	p := decoder(t, widest, widest)
	for count := range 70 {
		for _, more := range []int{1, 2, 40, 1 << 16, 1 << 32, highest - count} {
			for _, b := range [][]byte{
				start(count+more, 0),
				join(start(count+more, 0), aheadLine(0)),
				join(start(count+more, 7), fixedLine(1)),
				join(startLess(count+more, 0), pastLine(0)),
			} {
				p.fails(b, api.ErrWait, 0)
			}
		}
		f := field("n", strings.Repeat("v", count))
		b := join(start(count+1, 0), aheadLine(0), aheadNameLine(0, 0, plain, "w"))
		p.fails(b, api.ErrWait, 0)
		p.fed(toldIns(plain, f.Name, f.Value))
		p.tells(b, f, field("n", "w"))
		p.tells(b, f, field("n", "w"))
	}
}

// What counts is how many fields were put in, not how many are there.
func TestASectionWaitsForWhatWentAgain(t *testing.T) {
	p := decoder(t, widest, 34)
	b := join(start(3, 0), fixedLine(9))
	for n := range 3 {
		p.fails(b, api.ErrWait, 0)
		p.stops(join(toldIns(plain, "a", "b"), againIns(7)), api.ErrTable, 4)
		p.table(n, field("a", "b"))
	}
	p.fed(capIns(0))
	p.tells(b, field(":status", "200"))
	p.fails(join(start(4, 0), fixedLine(9)), api.ErrWait, 0)
}

// Waiting goes ahead of all that stands behind the number of what is needed.
func TestWaitingGoesAhead(t *testing.T) {
	p := abc(t)
	for _, behind := range slices.Concat(badNums(0, 7), badNums(0x80, 7), [][]byte{
		nil, {0x7F}, {0xFF, 0x80}, {0xFF, 0x00}, {0x86}, {0x87},
		{0x00, 0xFF}, {0x00, 0xD8}, {0x00, 0x50}, {0x00, 0x8F},
		join([]byte{0}, slices.Repeat([]byte{0xC1}, 65)),
	}) {
		p.fails(join([]byte{7}, behind), api.ErrWait, 0)
		p.fails(join(num(0, 8, 300), behind), api.ErrWait, 0)
		p.fails(join(longNum(0, 8, 256), behind), api.ErrWait, 0)
		p.fails(join(num(0, 8, highest), behind), api.ErrWait, 0)
	}
	// But the number must be one.
	for _, wrong := range badNums(0, 8) {
		p.fails(wrong, api.ErrForm, 0)
		p.fails(join(wrong, []byte{0, 0xC1}), api.ErrForm, 0)
	}
	p.fails(num(0, 8, highest)[:9], api.ErrEnd, 0)
	p.fails([]byte{0xFF}, api.ErrEnd, 0)
}

// someLines are lines of all kinds, for a section that needs 6 with the base 4, of abc's table.
func someLines() [][]byte {
	l := [][]byte{
		fixedLine(0), fixedLine(23), aheadLine(0), aheadLine(1), pastLine(0), pastLine(1),
	}
	for never := range 2 {
		for _, text := range texters() {
			l = append(l,
				fixedNameLine(never, 0, text, ""), fixedNameLine(never, 14, text, "v"), fixedNameLine(never, 15, text, strings.Repeat("v", 300)),
				aheadNameLine(never, 0, text, ""), aheadNameLine(never, 1, text, strings.Repeat("v", 127)),
				pastNameLine(never, 0, text, "v"), pastNameLine(never, 1, text, strings.Repeat("v", 128)),
				toldLine(never, text, "", ""), toldLine(never, text, "name", "value"), toldLine(never, text, strings.Repeat("n", 64), strings.Repeat("v", 512)),
				toldLine(never, text, "seven..", "v"), toldLine(never, text, "eight...", "v"),
			)
		}
	}
	// Texts with more groups than they need.
	return append(l,
		join(longNum(0x30, 3, 7), []byte("seven.."), longNum(0, 7, 127), []byte(strings.Repeat("v", 127))),
		join(longNum(0x50, 4, 15), longNum(0, 7, 128), []byte(strings.Repeat("v", 128))),
	)
}

func TestSectionsCutAtEveryByte(t *testing.T) {
	p := abc(t)
	begin := startLess(6, 1)
	var b []byte
	for _, line := range someLines() {
		for cut := 1; cut < len(line); cut++ {
			p.fails(join(begin, line[:cut]), api.ErrEnd, 2)
		}
		if _, fault := p.sameSection(join(begin, line)); fault != (api.Fault{}) {
			t.Fatalf("%x is %v", line, fault)
		}
		if len(line) < 100 {
			b = append(b, line...)
		}
	}
	for cut := range len(b) {
		p.sameSection(join(begin, b[:cut]))
	}
	for _, begin := range [][]byte{start(6, 0), start(6, 300), startLess(6, 4), join([]byte{6}, longNum(0, 7, 127))} {
		for cut := range len(begin) {
			p.fails(begin[:cut], api.ErrEnd, 0)
		}
	}
}

func TestSectionsNumbersThatHaveNoForm(t *testing.T) {
	p := abc(t)
	for bad := range 3 {
		for _, s := range []int{0x00, 0x80} {
			wrong := join([]byte{6}, badNums(s, 7)[bad])
			p.fails(wrong, api.ErrForm, 0)
			p.fails(join(wrong, fixedLine(1)), api.ErrForm, 0)
		}
		for _, x := range [][2]int{{0x80, 6}, {0xC0, 6}, {0x10, 4}, {0x40, 4}, {0x50, 4}, {0x60, 4}, {0x70, 4}, {0x00, 3}, {0x08, 3}, {0x20, 3}, {0x28, 3}, {0x30, 3}, {0x38, 3}} {
			p.lineFails(start(6, 0), badNums(x[0], x[1])[bad], api.ErrForm)
		}
		for _, h := range []int{0x00, 0x80} {
			wrong := badNums(h, 7)[bad]
			p.lineFails(start(6, 0), join(num(0x50, 4, 1), wrong), api.ErrForm)
			p.lineFails(start(6, 0), join(num(0x40, 4, 1), wrong), api.ErrForm)
			p.lineFails(startLess(6, 3), join(num(0x00, 3, 1), wrong), api.ErrForm)
			p.lineFails(start(6, 0), join(plain(0x20, 4, "n"), wrong), api.ErrForm)
			p.lineFails(start(6, 0), join(coded(0x30, 4, "n"), wrong), api.ErrForm)
		}
	}
}

func TestSectionsTextsThatAreNotToldRightly(t *testing.T) {
	p := abc(t)
	begin := startLess(6, 1)
	for never := range 2 {
		for _, wrong := range badTexts(0x20+0x10*never, 4) {
			p.lineFails(begin, join(wrong, plain(0, 8, "v")), api.ErrHuff)
			p.fails(join(begin, wrong[:len(wrong)-1]), api.ErrEnd, 2)
		}
		for _, wrong := range badTexts(0, 8) {
			p.lineFails(begin, join(num(0x50+0x20*never, 4, 1), wrong), api.ErrHuff)
			p.lineFails(begin, join(num(0x40+0x20*never, 4, 1), wrong), api.ErrHuff)
			p.lineFails(begin, join(num(0x08*never, 3, 1), wrong), api.ErrHuff)
			p.lineFails(begin, join(plain(0x20+0x10*never, 4, "n"), wrong), api.ErrHuff)
			p.lineFails(begin, join(coded(0x20+0x10*never, 4, "n"), wrong), api.ErrHuff)
			p.fails(join(begin, num(0x50, 4, 1), wrong[:len(wrong)-1]), api.ErrEnd, 2)
		}
	}
	// The same bytes are a text, if they are told plainly.
	p.tells(join(begin, []byte{0x23, 0x35, 0x24, 0x7E, 0x01, 0xFF}), field("\x35\x24\x7E", "\xFF"))
}

func TestLongTextsOfSections(t *testing.T) {
	p := abc(t)
	begin := startLess(6, 1)
	name, value := strings.Repeat("n", 64), strings.Repeat("v", 512)
	for never := range 2 {
		for _, text := range texters() {
			p.tells(join(begin,
				toldLine(never, text, name, value), fixedNameLine(never, 1, text, value), aheadNameLine(never, 1, text, value), pastNameLine(never, 1, text, value),
			), field(name, value), field(":path", value), field("c", value), field("f", value))
			for _, more := range []int{1, 2, 600, 70000} {
				n, v := name+strings.Repeat("n", more), value+strings.Repeat("v", more)
				p.lineFails(begin, toldLine(never, text, n, ""), api.ErrField)
				p.lineFails(begin, toldLine(never, text, n, v), api.ErrField)
				p.lineFails(begin, toldLine(never, text, "", v), api.ErrField)
				p.lineFails(begin, fixedNameLine(never, 1, text, v), api.ErrField)
				p.lineFails(begin, aheadNameLine(never, 1, text, v), api.ErrField)
				p.lineFails(begin, pastNameLine(never, 1, text, v), api.ErrField)
			}
		}
	}
}

// What is read of a line goes ahead of what is looked up, one behind the other.
func TestWhichFaultOfALine(t *testing.T) {
	p := abc(t)
	begin := startLess(6, 1)
	long := strings.Repeat("v", 513)
	missing, badValue, form := []byte{0x05, 'v'}, badTexts(0, 8)[0], badNums(0, 7)[0]
	for _, nowhere := range [][]byte{num(0x50, 4, 24), num(0x70, 4, highest), num(0x40, 4, 2), num(0x60, 4, 4), num(0x00, 3, 2), num(0x08, 3, highest)} {
		p.fails(join(begin, nowhere), api.ErrEnd, 2)
		p.lineFails(begin, join(nowhere, missing), api.ErrEnd)
		p.lineFails(begin, join(nowhere, form), api.ErrForm)
		p.lineFails(begin, join(nowhere, badValue), api.ErrHuff)
		p.lineFails(begin, join(nowhere, plain(0, 8, long)), api.ErrField)
		p.lineFails(begin, join(nowhere, coded(0, 8, long)), api.ErrField)
		p.lineFails(begin, join(nowhere, plain(0, 8, "v")), api.ErrTable)
	}
	for _, behind := range [][]byte{nil, missing, form, badValue, plain(0, 8, long), plain(0, 8, "v")} {
		p.fails(join(begin, badTexts(0x20, 4)[0], behind), api.ErrHuff, 2)
		p.fails(join(begin, badTexts(0x20, 4)[5], behind), api.ErrHuff, 2)
		p.fails(join(begin, plain(0x20, 4, long), behind), api.ErrField, 2)
		p.fails(join(begin, coded(0x20, 4, long), behind), api.ErrField, 2)
		p.fails(join(begin, badNums(0x20, 3)[0], behind), api.ErrForm, 2)
		p.fails(join(begin, badNums(0x40, 4)[0], behind), api.ErrForm, 2)
	}
	p.fails(join(begin, plain(0x20, 4, long)[:100]), api.ErrEnd, 2)
	p.fails(join(begin, num(0x50, 4, 1), plain(0, 8, long)[:500]), api.ErrEnd, 2)
	// The first line that is wrong counts, and what is wrong with the beginning goes ahead of it.
	wrongs := [][]byte{fixedLine(24), aheadLine(9), toldLine(0, plain, long, ""), badNums(0x80, 6)[0], join(num(0x50, 4, 1), badValue)}
	whys := []api.Errno{api.ErrTable, api.ErrTable, api.ErrField, api.ErrForm, api.ErrHuff}
	for n, one := range wrongs {
		for _, other := range wrongs {
			p.fails(join(begin, fixedLine(1), one, other), whys[n], 3)
			p.fails(join(startLess(6, 6), one, other), api.ErrForm, 0)
			p.fails(join([]byte{6}, badNums(0, 7)[0], one), api.ErrForm, 0)
		}
	}
}

func TestManyLines(t *testing.T) {
	p := abc(t)
	begin := startLess(6, 1)
	for _, line := range someLines() {
		l, fault := p.sameSection(join(begin, line))
		if fault != (api.Fault{}) {
			t.Fatal(fault)
		}
		most := join(begin, slices.Repeat(line, 64))
		p.tells(most, slices.Repeat(l, 64)...)
		p.fails(join(most, line), api.ErrMany, len(most))
		p.fails(join(most, line, line), api.ErrMany, len(most))
		for _, wrong := range [][]byte{
			{0x50}, {0xFF}, fixedLine(24), aheadLine(9), pastLine(9), toldLine(0, plain, strings.Repeat("n", 65), ""),
			badNums(0xC0, 6)[0], join(num(0x50, 4, 1), badTexts(0, 8)[0]),
		} {
			p.fails(join(most, wrong), api.ErrMany, len(most))
		}
	}
	most := join(begin, slices.Repeat(fixedLine(1), 63))
	p.fails(join(most, fixedLine(24)), api.ErrTable, len(most))
	p.fails(join(most, fixedLine(24), fixedLine(1)), api.ErrTable, len(most))
	p.fails(join(most, []byte{0x50}), api.ErrEnd, len(most))
	p.fails(join([]byte{7, 0}, most[2:], most[2:]), api.ErrWait, 0)
}
