package conn

import (
	"fmt"
	"math"
	"slices"
	"strings"
	"testing"

	"turnbuckle/api"
)

// The chapter's example, from role 0 and from role 1.
func TestExample(t *testing.T) {
	for role := range 2 {
		a, b := end(t, role, 7), end(t, 1-role, 7)
		if why := a.Write(0, []byte("a"), true); why != api.OK {
			t.Fatal(why)
		}
		if why := b.Recv(a.Step(0), 0); why != api.OK {
			t.Fatal(why)
		}
		if got := b.Read(0, 9); string(got) != "a" || !b.Done(0) {
			t.Errorf("role %d: %q, %v", role, got, b.Done(0))
		}
	}
}

// P10.1: a role is 0 or 1, and all keys are.
func TestNew(t *testing.T) {
	for _, key := range []uint64{0, 1, 2, 3, someKey, 1 << 63, math.MaxUint64} {
		for role := range 2 {
			if e := end(t, role, key); look(e) != (seen{idle: true}) || e.Step(0) != nil {
				t.Errorf("New(%d, %X) is not fresh", role, key)
			}
		}
		for _, role := range []int{-1, -2, 2, 3, math.MinInt, math.MaxInt} {
			if e, why := New(role, key); e != nil || why != api.ErrArg {
				t.Errorf("New(%d, %X) is %v, %v", role, key, e, why)
			}
		}
		a, b := both(t, key)
		a.write(1, "there", true)
		b.write(1, "and back", true)
		settle(a, b, 0)
		b.wantRead(a, 1, 9, "there")
		a.wantRead(b, 1, 9, "and back")
	}
}

// P10.1, P10.2: both ends write and read on one stream, and on all of them.
func TestTalk(t *testing.T) {
	for _, streams := range [][]int{{0}, {1}, {2}, {3}, {0, 1, 2, 3}, {3, 1}} {
		a, b := both(t, someKey)
		for now := range 20 {
			for _, i := range streams {
				a.write(i, fmt.Sprintf("to %d at %d;", i, now), now == 19)
				b.write(i, fmt.Sprintf("%d's answer on %d;", now, i), now == 19)
			}
			settle(a, b, now)
			for _, i := range streams {
				b.wantRead(a, i, 99, fmt.Sprintf("to %d at %d;", i, now))
				a.wantRead(b, i, 99, fmt.Sprintf("%d's answer on %d;", now, i))
			}
			a.wantQueued(0, 0, 0, 0)
			b.wantQueued(0, 0, 0, 0)
		}
		settle(a, b, 20)
		for i := range Streams {
			if has := slices.Contains(streams, i); a.e.Done(i) != has || b.e.Done(i) != has {
				t.Errorf("%v: Done(%d) is %v, %v", streams, i, a.e.Done(i), b.e.Done(i))
			}
		}
		a.wantIdle(true)
		b.wantIdle(true)
	}
}

// P10.1, P10.2: streams are from 0 to 3.
func TestStreams(t *testing.T) {
	a, b := both(t, someKey)
	for _, i := range []int{-1, -4, 4, 5, 16, math.MinInt, math.MaxInt} {
		for _, fin := range []bool{false, true} {
			a.refuseWrite(i, []byte("x"), fin, api.ErrStream)
			a.refuseWrite(i, nil, fin, api.ErrStream)
			a.refuseWrite(i, make([]byte, 5000), fin, api.ErrStream)
		}
		if got := a.e.Read(i, 9); got != nil {
			t.Errorf("Read(%d, 9) is %q", i, got)
		}
		if a.e.Done(i) || a.e.Queued(i) != 0 {
			t.Errorf("stream %d: %v, %d", i, a.e.Done(i), a.e.Queued(i))
		}
	}
	a.wantSilent(0)
	for _, i := range []int{0, 3} {
		a.write(i, "edge", true)
		settle(a, b, 0)
		b.wantRead(a, i, 9, "edge")
		for _, none := range []int{-1, 4} {
			if b.e.Done(none) || b.e.Read(none, 9) != nil || a.e.Queued(none) != 0 {
				t.Errorf("there is a stream %d", none)
			}
		}
	}
}

// P10.1: nothing that is written without an end turns nothing; with it, it is the end.
func TestWriteNothing(t *testing.T) {
	a, b := both(t, someKey)
	a.write(2, "", false)
	if why := a.e.Write(2, nil, false); why != api.OK {
		t.Error(why)
	}
	a.wantIdle(true)
	a.wantSilent(0)
	a.write(2, "", true)
	a.wantQueued(0, 0, 0, 0)
	a.wantIdle(false)
	d, l := a.wantStep(0)
	if got := toldOn(l, 2); got != "0:." {
		t.Errorf("told is %q", got)
	}
	if b.e.Done(2) {
		t.Error("done ahead of its end")
	}
	b.take(d, 0)
	if !b.e.Done(2) {
		t.Error("not done, though its end is 0")
	}
	b.wantRead(a, 2, 9, "")
	settle(a, b, 0)
	a.wantIdle(true)
	b.wantIdle(true)
}

// P10.1: so many bytes may be written and not acked, at once and in several calls.
func TestBuffer(t *testing.T) {
	for _, parts := range [][]int{{2048}, {2047, 1}, {1, 2047}, {1000, 1000, 48}, {0, 2048, 0}, {2047}} {
		a, _ := both(t, someKey)
		sum := 0
		for _, n := range parts {
			a.write(1, text(n), false)
			sum += n
			a.wantQueued(0, sum, 0, 0)
		}
		for _, more := range []int{2049 - sum, 2050 - sum, 4096, 1 << 20} {
			a.refuseWrite(1, make([]byte, more), false, api.ErrWait)
			a.refuseWrite(1, make([]byte, more), true, api.ErrWait)
		}
		// Another stream has its own room, and telling makes none.
		a.write(2, text(2048), false)
		a.all(0)
		a.refuseWrite(1, make([]byte, 2049-sum), false, api.ErrWait)
		a.write(1, text(2048-sum), true)
		a.wantQueued(0, 2048, 2048, 0)
	}
	a, _ := both(t, someKey)
	for _, n := range []int{2049, 2050, 4096} {
		a.refuseWrite(0, make([]byte, n), false, api.ErrWait)
	}
	for range 2048 {
		a.write(0, "x", false)
	}
	a.refuseWrite(0, []byte("x"), true, api.ErrWait)
	a.write(0, "", true)
	a.wantQueued(2048)
}

// P10.1: what was acked makes room, just as much as it is, in whatever order the acks come.
func TestAckMakesRoom(t *testing.T) {
	a, b := both(t, someKey)
	a.write(0, text(100), false)
	first, _ := a.wantStep(0)
	a.write(0, text(200), false)
	second, _ := a.wantStep(0)
	a.write(0, text(1748), false)
	a.wantQueued(2048)
	a.refuseWrite(0, []byte("x"), false, api.ErrWait)
	b.take(second, 0)
	b.handOver(a, 0)
	a.wantQueued(1848)
	a.refuseWrite(0, make([]byte, 201), false, api.ErrWait)
	a.write(0, text(200), false)
	a.refuseWrite(0, []byte("x"), false, api.ErrWait)
	b.take(first, 0)
	b.handOver(a, 0)
	a.wantQueued(1948)
	a.refuseWrite(0, make([]byte, 101), true, api.ErrWait)
	a.write(0, text(100), true)
	for now := range 9 {
		settle(a, b, now)
		b.readAll(a)
	}
	if !b.e.Done(0) {
		t.Error("not done")
	}
}

// P10.1: what was written to its end is written no more; of several errors the one that is named first is answered.
func TestWrittenToItsEnd(t *testing.T) {
	for _, first := range []string{"", "x", text(2048)} {
		a, b := both(t, someKey)
		a.write(3, first, true)
		again := func() {
			t.Helper()
			for _, fin := range []bool{false, true} {
				a.refuseWrite(3, nil, fin, api.ErrOver)
				a.refuseWrite(3, []byte{}, fin, api.ErrOver)
				a.refuseWrite(3, []byte("y"), fin, api.ErrOver)
				a.refuseWrite(3, make([]byte, 2049), fin, api.ErrOver)
			}
		}
		again()
		a.all(0)
		again()
		b.write(3, "the other way it may be", false)
		for now := range 4 {
			now *= round
			settle(a, b, now)
			b.readAll(a)
			again()
		}
		if !b.e.Done(3) || len(b.read[3]) != len(first) {
			t.Errorf("%d bytes of %d were read, done %v", len(b.read[3]), len(first), b.e.Done(3))
		}
	}
}

// P10.1, P10.2: an end that is told alone, behind its bytes.
func TestEndAlone(t *testing.T) {
	a, b := both(t, someKey)
	a.write(0, "ab", false)
	settle(a, b, 0)
	b.wantRead(a, 0, 9, "ab")
	settle(a, b, 0)
	if b.e.Done(0) {
		t.Error("done ahead of its end")
	}
	a.write(0, "", true)
	a.wantIdle(false)
	d, l := a.wantStep(0)
	if got := toldOn(l, 0); got != "2:." {
		t.Errorf("told is %q", got)
	}
	a.wantIdle(false)
	b.take(d, 0)
	if !b.e.Done(0) {
		t.Error("not done at its end")
	}
	b.handOver(a, 0)
	a.wantIdle(true)
}

// P10.2: an end that comes ahead of the bytes is none until these are read.
func TestEndAhead(t *testing.T) {
	a, b := both(t, someKey)
	a.write(0, "ab", false)
	first, _ := a.wantStep(0)
	a.write(0, "c", true)
	second, _ := a.wantStep(0)
	b.take(second, 0)
	b.wantRead(a, 0, 9, "")
	b.take(first, 0)
	for _, want := range []string{"a", "b", "c"} {
		if b.e.Done(0) {
			t.Errorf("done ahead of %q", want)
		}
		b.wantRead(a, 0, 1, want)
	}
	if !b.e.Done(0) {
		t.Error("not done")
	}
}

// P10.3, P10.8: the other end's window is filled to its last byte, and no further; what is read makes room, a byte for a byte.
func TestWindow(t *testing.T) {
	for _, ask := range []int{1, 2, 500, 1023, 1024, 2000} {
		a, b := both(t, someKey)
		a.write(1, text(2048), true)
		settle(a, b, 0)
		a.wantQueued(0, 1024, 0, 0)
		a.wantIdle(false)
		a.wantSilent(0)
		got := b.reads(a, 1, ask)
		if want := min(ask, 1024); len(got) != want {
			t.Fatalf("%d bytes are read, not %d", len(got), want)
		}
		settle(a, b, 0)
		a.wantQueued(0, 1024-len(got), 0, 0)
		b.readAll(a)
		settle(a, b, 0)
		b.readAll(a)
		settle(a, b, 0)
		a.wantQueued(0, 0, 0, 0)
		if !b.e.Done(1) {
			t.Error("not done")
		}
	}
}

// P10.3: one byte more than the window has room for waits until one was read, and so does an end behind it; an end alone does not.
func TestWindowJustFull(t *testing.T) {
	a, b := both(t, someKey)
	a.write(0, text(1024), false)
	settle(a, b, 0)
	a.wantQueued(0)
	a.wantIdle(true)
	b.wantIdle(true)
	a.write(0, "Z", true)
	a.wantSilent(0)
	a.wantSilent(round)
	b.wantRead(a, 0, 1, text(1024)[:1])
	b.wantIdle(false)
	b.handOver(a, round)
	d, l := a.wantStep(round)
	if got := toldOn(l, 0); got != "1024:Z." {
		t.Errorf("told is %q", got)
	}
	b.take(d, round)
	b.readAll(a)
	if !b.e.Done(0) {
		t.Error("not done")
	}
	a, b = both(t, someKey)
	a.write(0, text(1024), false)
	settle(a, b, 0)
	a.write(0, "", true)
	d, _ = a.wantStep(0)
	b.take(d, 0)
	b.readAll(a)
	if !b.e.Done(0) {
		t.Error("an end alone needs no room")
	}
}

// P10.2: as many bytes are read as are asked for and there.
func TestRead(t *testing.T) {
	a, b := both(t, someKey)
	a.write(0, "abcdefghij", false)
	settle(a, b, 0)
	for _, n := range []int{0, -1, -9, math.MinInt} {
		b.wantRead(a, 0, n, "")
	}
	b.wantRead(a, 1, 9, "")
	b.wantRead(a, 0, 3, "abc")
	b.wantRead(a, 0, 1, "d")
	b.wantRead(a, 0, 0, "")
	b.wantRead(a, 0, 6, "efghij")
	b.wantRead(a, 0, 6, "")
	a.write(0, "kl", false)
	settle(a, b, 0)
	b.wantRead(a, 0, math.MaxInt, "kl")
}

// P10.2: nothing is read beyond a gap, and all once it is filled.
func TestGap(t *testing.T) {
	a, b := both(t, someKey)
	a.write(0, "ab", false)
	first, _ := a.wantStep(0)
	a.write(0, "cd", false)
	second, _ := a.wantStep(0)
	a.write(0, "ef", true)
	third, _ := a.wantStep(0)
	b.take(third, 0)
	b.wantRead(a, 0, 9, "")
	b.take(first, 0)
	b.wantRead(a, 0, 9, "ab")
	b.wantRead(a, 0, 9, "")
	b.take(second, 0)
	b.wantRead(a, 0, 9, "cdef")
}

// P10.1: how much is queued, behind each writing, telling, losing and ack.
func TestQueued(t *testing.T) {
	a, b := both(t, someKey)
	a.wantQueued(0, 0, 0, 0)
	a.write(0, "abc", false)
	a.wantQueued(3, 0, 0, 0)
	a.write(3, "defg", true)
	a.wantQueued(3, 0, 0, 4)
	first, _ := a.wantStep(0)
	a.wantQueued(3, 0, 0, 4)
	a.write(0, "h", false)
	a.wantQueued(4, 0, 0, 4)
	second, _ := a.wantStep(0)
	b.take(first, 0)
	a.wantQueued(4, 0, 0, 4)
	ack, _ := b.wantStep(0)
	a.take(ack, 0)
	a.wantQueued(1, 0, 0, 0)
	a.wantIdle(false)
	b.take(second, 0)
	b.handOver(a, 0)
	a.wantQueued(0, 0, 0, 0)
	a.wantIdle(true)
	for _, none := range []int{-1, 4, math.MinInt, math.MaxInt} {
		if got := a.e.Queued(none); got != 0 {
			t.Errorf("Queued(%d) is %d", none, got)
		}
	}
}

// P10.3: an end to which nothing was written, and nothing came, has nothing to tell, at no time; nor has one that has told all.
func TestSilence(t *testing.T) {
	times := []int{0, 1, round, lastTime, lastTime + 1, -1, math.MinInt, math.MaxInt}
	a, b := both(t, someKey)
	for _, now := range times {
		a.wantSilent(now)
		a.wantIdle(true)
	}
	a, b = both(t, someKey)
	a.write(0, "x", true)
	a.wantStep(0)
	a.wantSilent(0)
	a.wantIdle(false)
	a, b = both(t, someKey)
	a.write(0, "x", true)
	settle(a, b, 0)
	for _, now := range times {
		a.wantSilent(now)
		b.wantSilent(now)
		a.wantIdle(true)
		b.wantIdle(true)
	}
}

// P10.3: an end that has none under way tells at once what was written, of all streams.
func TestTellsAtOnce(t *testing.T) {
	a, b := both(t, someKey)
	for now := range 50 {
		for i := range Streams {
			a.write(i, text(200+now), false)
		}
		d, l := a.wantStep(now)
		for i := range Streams {
			if want := fmt.Sprintf("%d:%s", len(a.wrote[i])-200-now, text(200+now)); toldOn(l, i) != want {
				t.Fatalf("round %d: stream %d is not told", now, i)
			}
		}
		b.take(d, now)
		b.readAll(a)
		settle(a, b, now)
		a.wantQueued(0, 0, 0, 0)
	}
}

// P10.3: what takes just one datagram is told in one, and what takes more in more, of which the first one is full.
func TestOneDatagram(t *testing.T) {
	// The number takes 5 bytes, the tag 8; each stream's frame 5, and the second one's count of bytes is told in two.
	for _, more := range []int{-1, 0, 1, 2} {
		a, b := both(t, someKey)
		a.write(0, text(1024), false)
		a.write(1, text(1200-13-5-1024-5+more), true)
		l := a.all(0)
		if want := 1 + max(0, min(more, 1)); len(l) != want {
			t.Errorf("%d more: %d datagrams, not %d", more, len(l), want)
		}
		if want := 1200 + min(more, 0); len(l[0].b) != want {
			t.Errorf("%d more: %d bytes, not %d", more, len(l[0].b), want)
		}
		for _, d := range l {
			b.take(d, 0)
		}
		b.readAll(a)
		if !b.e.Done(1) || len(b.read[0]) != 1024 {
			t.Errorf("%d more: not all came", more)
		}
	}
}

// most is how many bytes of a stream, from its beginning on, have room in so many bytes with their frame, and how many that takes.
func most(room int) (int, int) {
	for n := room; n >= 0; n-- {
		if size := len(forge(0, 0, 0, 1, at(0, 0, text(n), false))) - 10; size <= room {
			return n, size
		}
	}
	return 0, 0
}

// P10.3: little room that is left behind other frames is used to the last byte that it has room for, or no frame is begun there.
func TestLittleRoom(t *testing.T) {
	for _, last := range []int{0, 300} {
		for rest := range 160 {
			a, b := both(t, someKey)
			a.write(0, text(1020), true)
			a.write(1, text(rest), true)
			a.write(2, text(last), true)
			l := a.all(0)
			first, size := most(1200 - 13 - 1025)
			if rest <= first {
				_, size = most(rest + 4 + max(0, min(1, rest-63)))
				n, more := most(1200 - 13 - 1025 - size)
				if last == 0 {
					more = min(more, 4)
				} else if n == 0 {
					more = 0
				}
				size += more
			}
			if got := len(l[0].b); got != 13+1025+size {
				t.Errorf("%d and %d bytes: the first datagram has %d bytes, not %d", rest, last, got, 13+1025+size)
			}
			for _, d := range l {
				b.take(d, 0)
			}
			b.readAll(a)
			if !b.e.Done(0) || !b.e.Done(1) || !b.e.Done(2) {
				t.Fatalf("%d and %d bytes: not all came", rest, last)
			}
		}
	}
}

// P10.3: all windows full at once, in both directions.
func TestAllWindows(t *testing.T) {
	a, b := both(t, someKey)
	for i := range Streams {
		a.write(i, text(2048), true)
		b.write(i, text(2048), true)
	}
	l := a.all(0)
	if len(l) != 4 {
		t.Errorf("%d datagrams of 4 windows", len(l))
	}
	for _, d := range l {
		b.take(d, 0)
	}
	for now := range 5 {
		settle(a, b, now)
		a.readAll(b)
		b.readAll(a)
	}
	for i := range Streams {
		if !a.e.Done(i) || !b.e.Done(i) {
			t.Errorf("stream %d is not done", i)
		}
	}
}

// P10.3: no datagram has more than 64 frames, however many pieces wait.
func TestManyPieces(t *testing.T) {
	a, b := both(t, someKey)
	var odd []made
	for n := range 400 {
		a.write(0, string(rune('a'+n%26)), n == 399)
		d, _ := a.wantStep(0)
		if n%2 == 1 {
			odd = append(odd, d)
		}
	}
	for _, d := range odd {
		b.take(d, 0)
	}
	// An ack tells no more than 32 spans, so that the others are told by hand.
	for _, d := range odd {
		a.takeForged(d.n+100, ackOf(d.n, d.n))
	}
	a.wantQueued(200)
	told := 0
	for {
		d, ok := a.step(round)
		if !ok {
			break
		}
		_, l := peel(t, someKey, 0, d.n-1, d.b)
		told += len(l)
		b.take(d, round)
	}
	if told < 190 {
		t.Errorf("only %d pieces were told", told)
	}
	b.wantRead(a, 0, 500, strings.Repeat("abcdefghijklmnopqrstuvwxyz", 16)[:400])
}

// P10.3, P10.4: what was lost is told again: at once, if three that were sent behind it came; else when the wait for a probe is over.
func TestToldAgain(t *testing.T) {
	a, b := both(t, someKey)
	a.write(0, "lost", true)
	a.wantStep(0)
	for i := 1; i < 4; i++ {
		a.write(i, "came", true)
		d, _ := a.wantStep(0)
		b.take(d, 0)
	}
	b.handOver(a, 0)
	d, l := a.wantStep(0)
	if toldOn(l, 0) != "0:lost." {
		t.Errorf("told is %v", l)
	}
	b.take(d, 0)
	b.wantRead(a, 0, 9, "lost")
	a, b = both(t, someKey)
	a.write(0, "lost", true)
	a.wantStep(0)
	a.wantSilent(124)
	d, l = a.wantStep(125)
	if toldOn(l, 0) != "0:lost." {
		t.Errorf("told is %v", l)
	}
	// The wait is doubled, as long as nothing comes.
	a.wantSilent(125 + 249)
	a.wantStep(125 + 250)
	a.wantSilent(375 + 499)
	d, _ = a.wantStep(375 + 500)
	a.wantSilent(875)
	b.take(d, 875)
	b.wantRead(a, 0, 9, "lost")
	settle(a, b, 875)
	a.wantIdle(true)
	a.wantSilent(875 + round)
}

// P10.3: what is under way is not told again, as long as it may come: of one stream just what was lost is.
func TestNotToldAgain(t *testing.T) {
	a, b := both(t, someKey)
	a.write(0, "abc", false)
	a.wantStep(0)
	var rest []made
	for _, s := range []string{"def", "ghi", "jkl"} {
		a.write(0, s, false)
		d, _ := a.wantStep(0)
		rest = append(rest, d)
	}
	b.take(rest[2], 0)
	b.handOver(a, 0)
	_, l := a.wantStep(0)
	if got := toldOn(l, 0); got != "0:abc" {
		t.Errorf("told is %q", got)
	}
	a.wantSilent(0)
	b.take(rest[0], 0)
	b.take(rest[1], 0)
	b.handOver(a, 0)
	a.wantQueued(3)
	_, l = a.wantStep(125)
	if got := toldOn(l, 0); got != "0:abc" {
		t.Errorf("told is %q", got)
	}
}

// P10.3: how long is waited hangs on how long answers took: for a probe, and for what lies below one that was acked.
func TestWaits(t *testing.T) {
	answered := func(n api.Frame) *side {
		a, _ := both(t, someKey)
		a.write(0, "abc", false)
		a.wantStep(0)
		n.Kind, n.Spans = api.Ack, []api.Span{{From: 0, To: 0}}
		a.takeAt(1000, 0, n)
		a.write(0, "def", false)
		return a
	}
	// The first answer took 1000: Var is 500, and the wait for a probe 3025.
	for _, delay := range []int{0, 1, 900, 1 << 50, api.MaxVarint} {
		a := answered(api.Frame{N: delay})
		a.wantStep(1000)
		a.wantSilent(1000 + 3024)
		a.wantStep(1000 + 3025)
		a.wantSilent(1000 + 3025 + 6049)
		a.wantStep(1000 + 3025 + 6050)
	}
	// A second one of 1000, less a delay of 25, is 1000, as that is the least one: Var falls to 375. Of 2000, less 25, it makes Var 618, Smooth 1121.
	for _, c := range []struct{ took, delay, wait int }{{1000, 25, 2525}, {2000, 25, 1121 + 4*618 + 25}, {2000, 900, 1121 + 4*618 + 25}} {
		a := answered(api.Frame{})
		a.wantStep(1000)
		a.takeAt(1000+c.took, 1, api.Frame{Kind: api.Ack, N: c.delay, Spans: []api.Span{{From: 1, To: 1}}})
		a.write(0, "ghi", false)
		a.wantStep(1000 + c.took)
		a.wantSilent(1000 + c.took + c.wait - 1)
		a.wantStep(1000 + c.took + c.wait)
	}
	// An answer to one that lies below another one that was acked earlier does not count.
	b, _ := both(t, someKey)
	for range 2 {
		b.write(0, "abc", false)
		b.wantStep(0)
	}
	b.takeAt(1000, 0, ackOf(1, 1))
	b.takeAt(5000, 1, ackOf(0, 0))
	b.write(0, "def", false)
	b.wantStep(5000)
	b.wantSilent(5000 + 3024)
	b.wantStep(5000 + 3025)
	// What lies below one that was acked is lost 9 eighths of an answer behind its telling: 899 makes Smooth 987, and the wait 1110.
	a := answered(api.Frame{})
	a.wantStep(1000)
	a.write(1, "later", false)
	a.wantStep(1001)
	a.takeAt(1900, 1, ackOf(2, 2))
	a.wantSilent(2109)
	_, l := a.wantStep(2110)
	if toldOn(l, 0) != "3:def" {
		t.Errorf("told is %v", l)
	}
}

// P10.3: the wait for a probe runs from the last telling on, and is doubled no more once something was acked, be it late.
func TestProbes(t *testing.T) {
	a, _ := both(t, someKey)
	a.write(0, "abc", false)
	a.wantStep(0)
	a.write(0, "def", false)
	a.wantStep(100)
	a.wantSilent(224)
	_, l := a.wantStep(225)
	if toldOn(l, 0) != "0:abcdef" {
		t.Errorf("told is %v", l)
	}
	a.wantSilent(225 + 249)
	a.wantStep(225 + 250)
	a.takeAt(475, 0, ackOf(0, 0))
	a.all(475)
	a.wantQueued(3)
	// The answer took 475, Var is 237: the wait is 475 and 948 and 25.
	a.wantSilent(475 + 1447)
	_, l = a.wantStep(475 + 1448)
	if toldOn(l, 0) != "3:def" {
		t.Errorf("told is %v", l)
	}
}

// P10.3: very much goes over at one time, as acks make room on the way again.
func TestMuchAtOnce(t *testing.T) {
	a, b := both(t, someKey)
	for range 100 {
		for i := range Streams {
			a.write(i, text(1024), false)
			if i%2 == 1 {
				b.write(i, text(700), false)
			}
		}
		settle(a, b, 0)
		a.readAll(b)
		b.readAll(a)
		settle(a, b, 0)
		if a.e.flight.window.Flight+b.e.flight.window.Flight > 0 {
			t.Fatal("something is under way")
		}
	}
	for i := range Streams {
		if len(b.read[i]) != 100*1024 || len(a.read[i]) != i%2*70000 {
			t.Errorf("stream %d: %d and %d bytes were read", i, len(b.read[i]), len(a.read[i]))
		}
	}
}

// P10.3: a limit that is under way is not told again when something else on that stream is lost.
func TestLimitNotToldAgain(t *testing.T) {
	a, b := both(t, someKey)
	a.write(0, "abc", false)
	settle(a, b, 0)
	b.write(0, "lost", false)
	b.wantStep(0)
	b.wantRead(a, 0, 9, "abc")
	_, l := b.wantStep(0)
	if !slices.Equal(kinds(l), []int{api.MaxOn}) {
		t.Errorf("told is %v", l)
	}
	var d made
	for range 2 {
		b.write(1, "x", false)
		d, _ = b.wantStep(0)
	}
	b.takeForged(900, ackOf(d.n, d.n))
	_, l = b.wantStep(0)
	if !slices.Equal(kinds(l), []int{api.Stream}) {
		t.Errorf("told is %v", l)
	}
}

// P10.3: an ack settles what is under way, also if the last one that it tells of asked for none.
func TestAckOfAnAck(t *testing.T) {
	a, b := both(t, someKey)
	a.write(0, "abc", false)
	b.write(0, "abc", false)
	first, _ := a.wantStep(0)
	b.handOver(a, 0)
	second, l := a.wantStep(0)
	if !slices.Equal(kinds(l), []int{api.Ack}) {
		t.Errorf("told is %v", l)
	}
	b.take(first, 0)
	b.take(second, 0)
	b.handOver(a, 0)
	if out := a.e.flight.ledger.Out(); len(out) > 0 || a.e.flight.window.Flight > 0 {
		t.Errorf("under way are %v", out)
	}
}

// What is kept of what datagrams told is no more than what may still be acked.
func TestKeptNoMore(t *testing.T) {
	a, b := both(t, someKey)
	for now := range 1000 {
		a.write(now%Streams, "some", false)
		l := a.all(now * 200)
		for _, d := range l[:len(l)-1] {
			b.take(d, now*200)
		}
		for _, d := range a.all(now*200 + 150) {
			b.take(d, now*200+150)
		}
		b.readAll(a)
		settle(a, b, now*200+150)
		if got := len(a.e.flight.told); got > 10 {
			t.Fatalf("what %d datagrams told is kept", got)
		}
	}
}

// P10.4: an ack counts, however late it comes.
func TestLateAck(t *testing.T) {
	a, b := both(t, someKey)
	a.write(0, "abc", true)
	first, _ := a.wantStep(0)
	b.take(first, 0)
	ack, _ := b.wantStep(0)
	for n := range 700 {
		a.wantStep((n + 1) * round)
	}
	a.wantQueued(3)
	a.take(ack, 700*round)
	a.wantQueued(0)
	a.wantIdle(true)
	a.wantSilent(800 * round)
	// So it is of a limit, also if something else was acked between.
	b.write(1, "x", false)
	a.write(1, "y", false)
	b.handOver(a, 0)
	a.handOver(b, 0)
	b.reads(a, 1, 1)
	limit, l := b.wantStep(0)
	if !slices.Contains(kinds(l), api.MaxOn) {
		t.Errorf("told is %v", l)
	}
	again, _ := b.wantStep(round)
	b.takeForged(900, ackOf(1, 1))
	b.wantQueued(0, 0, 0, 0)
	b.wantIdle(false)
	b.takeForged(901, ackOf(limit.n, limit.n))
	b.wantIdle(true)
	b.takeForged(902, ackOf(again.n, again.n))
	b.wantIdle(true)
}

// P10.3: an ack that is lost does not hold up the talk.
func TestLostAck(t *testing.T) {
	a, b := both(t, someKey)
	a.write(0, "abc", false)
	a.handOver(b, 0)
	b.wantStep(0)
	b.wantSilent(0)
	b.wantIdle(true)
	a.wantSilent(0)
	if a.handOver(b, round) != 1 {
		t.Error("it is not told again")
	}
	b.handOver(a, round)
	a.wantQueued(0)
	a.wantIdle(true)
	// So it is with an ack of a limit.
	b.wantRead(a, 0, 9, "abc")
	b.wantIdle(false)
	b.handOver(a, round)
	a.wantStep(round)
	b.wantIdle(false)
	b.wantSilent(round)
	b.handOver(a, 2*round)
	a.handOver(b, 2*round)
	b.wantIdle(true)
}

// P10.3: a limit that is lost is told again: else what was written would wait for ever.
func TestLostLimit(t *testing.T) {
	a, b := both(t, someKey)
	a.write(0, text(1025), true)
	settle(a, b, 0)
	b.readAll(a)
	b.wantStep(0)
	a.wantSilent(0)
	for now := range 4 {
		settle(a, b, (now+1)*round)
	}
	b.readAll(a)
	if !b.e.Done(0) {
		t.Error("not done")
	}
}

// P10.4: numbers are from 0 on, however high they get; none of them comes twice.
func TestNumbers(t *testing.T) {
	a, b := both(t, someKey)
	for n := 0; a.last < 1<<16+300; n++ {
		a.write(n%Streams, "x", false)
		for _, d := range a.all(n) {
			b.take(d, n)
			if why := b.e.Recv(d.b, n); why != api.ErrOrder {
				t.Fatalf("the datagram %d came twice: %v", d.n, why)
			}
		}
		b.wantRead(a, n%Streams, 9, "x")
		b.handOver(a, n)
	}
	settle(a, b, 1<<20)
	a.wantQueued(0, 0, 0, 0)
	a.wantIdle(true)
	b.wantIdle(true)
}

// P10.4, P10.5: a datagram that comes late, behind very many others, is the one that it was, and is acked as that.
func TestLateDatagram(t *testing.T) {
	for _, between := range []int{100, 127, 128, 129, 255, 256, 257, 400, 1<<15 + 1, 1<<16 + 1} {
		a, b := both(t, someKey)
		a.write(0, "late", true)
		late, _ := a.wantStep(0)
		for n := range between {
			a.write(1, "x", false)
			for _, d := range a.all(n) {
				b.take(d, n)
			}
			b.reads(a, 1, 9)
			b.handOver(a, n)
		}
		b.take(late, between)
		b.wantRead(a, 0, 9, "late")
		// What it was taken for, were it another one, is lost now.
		for range 300 {
			a.write(1, "y", false)
			for _, d := range a.all(between) {
				b.take(d, between)
			}
			b.reads(a, 1, 9)
			b.handOver(a, between)
		}
		settle(a, b, between)
		a.wantQueued(0, 0, 0, 0)
	}
}

// P10.4: numbers may come in one byte to four.
func TestWidths(t *testing.T) {
	for width := 1; width <= 4; width++ {
		_, b := both(t, someKey)
		for _, n := range []int{0, 1, 2, 100, 200, 255, 256, 300, 400, 511, 600} {
			d := forge(someKey, 0, n, width, at(0, 0, "a", false))
			if why := b.e.Recv(d, 0); why != api.OK {
				t.Errorf("number %d in %d bytes: %v", n, width, why)
			}
			b.noteCame(n)
			if why := b.e.Recv(d, 0); why != api.ErrOrder {
				t.Errorf("number %d in %d bytes, again: %v", n, width, why)
			}
			b.wantStep(0)
		}
	}
}

// P10.4: what came is remembered, however many gaps there are between.
func TestManyGaps(t *testing.T) {
	_, b := both(t, someKey)
	recv := func(n int, want api.Errno) {
		t.Helper()
		if why := b.e.Recv(forge(someKey, 0, n, 4, api.Frame{Kind: api.Ping}), 0); why != want {
			t.Fatalf("number %d: %v, not %v", n, why, want)
		}
		if want == api.OK {
			b.noteCame(n)
			b.wantStep(0)
		}
	}
	for n := range 600 {
		recv(3*n, api.OK)
	}
	for n := range 600 {
		recv(3*n, api.ErrOrder)
	}
	for n := range 600 {
		recv(3*(599-n)+2, api.OK)
	}
	for n := range 600 {
		recv(3*n+1, api.OK)
	}
	for n := range 1800 {
		recv(n, api.ErrOrder)
	}
	recv(1800, api.OK)
	b.takeForged(1801, api.Frame{Kind: api.Ping})
	_, l := b.wantStep(0)
	if want := (api.Span{From: 0, To: 1801}); len(l[0].Spans) != 1 || l[0].Spans[0] != want {
		t.Errorf("acked are %v", l[0].Spans)
	}
}

// P10.3, P10.4: all times are taken; none that is earlier than the end's, or is none, turns it.
func TestTimes(t *testing.T) {
	for _, now := range []int{0, 1, 5, 1000, lastTime - 1, lastTime} {
		a, b := both(t, someKey)
		a.write(0, "abc", true)
		a.handOver(b, now)
		b.wantRead(a, 0, 9, "abc")
		b.handOver(a, now)
		a.wantIdle(true)
		b.wantIdle(true)
		for _, other := range []int{-1, lastTime + 1, math.MinInt, math.MaxInt, now - 1, 0} {
			a.wantSilent(other)
		}
	}
	// Nothing is told again, as no time goes by; then it does.
	for _, begin := range []int{0, 5, 1000} {
		a, _ := both(t, someKey)
		a.wantSilent(begin)
		a.write(0, "abc", true)
		a.wantStep(-1)
		for _, now := range []int{-1, 0, begin, begin - 1, lastTime + 1, math.MinInt, math.MaxInt, begin + 124} {
			a.wantSilent(now)
		}
		a.wantStep(begin + 125)
		a.wantSilent(0)
		a.wantStep(lastTime)
		for _, now := range []int{0, lastTime, lastTime + 1, math.MaxInt} {
			a.wantSilent(now)
		}
	}
	// Recv's time is the end's, too, if it is one.
	a, b := both(t, someKey)
	a.write(0, "abc", true)
	a.wantStep(0)
	b.write(0, "d", true)
	for i, now := range []int{-1, lastTime + 1, math.MaxInt, 124, 3, 125} {
		b.write(1, "e", false)
		d, _ := b.wantStep(0)
		a.take(d, now)
		for d, ok := a.step(-1); ok; d, ok = a.step(-1) {
			_, l := peel(t, someKey, 0, d.n-1, d.b)
			if told := toldOn(l, 0) != ""; told != (i == 5) {
				t.Errorf("behind Recv at %d: told again is %v", now, told)
			}
		}
	}
}

// P10.4: how long an ack was put off is told with it.
func TestDelay(t *testing.T) {
	a, b := both(t, someKey)
	a.write(0, "abc", true)
	a.handOver(b, 100)
	_, l := b.wantStep(117)
	if len(l) != 1 || l[0].Kind != api.Ack || l[0].N != 17 {
		t.Errorf("told is %v", l)
	}
	// It is that of the greatest number that came.
	b.takeAt(200, 9, api.Frame{Kind: api.Ping})
	b.takeAt(203, 7, api.Frame{Kind: api.Ping})
	if _, l := b.wantStep(210); l[0].N != 10 {
		t.Errorf("told is %v", l)
	}
}

// P10.4: an ack tells all that came, but of more than 32 spans the last ones; and it is told until something told it.
func TestAckTells(t *testing.T) {
	_, b := both(t, someKey)
	for n := range 40 {
		b.takeForged(2*n, api.Frame{Kind: api.Ping})
		_, l := b.wantStep(0)
		var want []api.Span
		for i := max(0, n-31); i <= n; i++ {
			want = append(want, api.Span{From: 2 * i, To: 2 * i})
		}
		if !slices.Equal(l[0].Spans, want) {
			t.Fatalf("told is %v, not %v", l[0].Spans, want)
		}
	}
	b.takeForged(1, api.Frame{Kind: api.Padding})
	b.wantSilent(0)
	b.takeForged(81, api.Frame{Kind: api.Ping}, api.Frame{Kind: api.Padding})
	b.takeForged(83, api.Frame{Kind: api.Padding})
	b.wantIdle(false)
	_, l := b.wantStep(0)
	if got := l[0].Spans[30:]; !slices.Equal(got, []api.Span{{From: 81, To: 81}, {From: 83, To: 83}}) {
		t.Errorf("told is %v", l)
	}
}

// P10.4: one who is asked for nothing but an ack tells nothing but that, and it is not asked for one.
func TestAckAlone(t *testing.T) {
	a, b := both(t, someKey)
	a.write(0, "abc", true)
	a.handOver(b, 0)
	b.wantIdle(false)
	d, l := b.wantStep(0)
	if !slices.Equal(kinds(l), []int{api.Ack}) {
		t.Errorf("told is %v", l)
	}
	b.wantIdle(true)
	a.take(d, 0)
	a.wantIdle(true)
	a.wantSilent(0)
	// All kinds but Padding, Ack and Close ask for one.
	ends := []api.Frame{{Kind: api.Ping}, {Kind: api.Handshake}, {Kind: api.MaxData, N: 5}, {Kind: api.MaxOpen, N: 5}, {Kind: api.MaxOn, Stream: 3, N: 5}, {Kind: api.Stop, Stream: 3}, {Kind: api.Reset, Stream: 3}, at(3, 0, "", false)}
	for i, f := range ends {
		a.takeForged(100+i, api.Frame{}, f)
		a.wantIdle(false)
		_, l := a.wantStep(0)
		if !slices.Equal(kinds(l), []int{api.Ack}) {
			t.Errorf("%v: told is %v", f, l)
		}
	}
	for i, f := range []api.Frame{{Kind: api.Padding}, {Kind: api.Close, Data: []byte("bye")}, ackOf(0, 0)} {
		a.takeForged(200+i, f)
		a.wantIdle(true)
		a.wantSilent(0)
	}
	// Behind all this the talk goes on.
	a.takeForged(300, at(3, 0, "and now", true))
	if got := a.e.Read(3, 9); string(got) != "and now" || !a.e.Done(3) {
		t.Errorf("read is %q, %v", got, a.e.Done(3))
	}
}

// P10.3: no more than 512 datagrams are under way; those that only ack are none of them.
func TestManyUnderWay(t *testing.T) {
	a, b := both(t, someKey)
	for range 512 {
		a.write(0, "x", false)
		a.wantStep(0)
	}
	a.write(0, "y", true)
	a.wantSilent(0)
	b.write(0, "z", false)
	b.handOver(a, 0)
	_, l := a.wantStep(0)
	if !slices.Equal(kinds(l), []int{api.Ack}) {
		t.Errorf("told is %v", l)
	}
	a.handOver(b, 125)
	b.wantRead(a, 0, 999, strings.Repeat("x", 512)+"y")
	for range 600 {
		b.write(1, "x", false)
		b.handOver(a, 125)
		a.handOver(b, 125)
		a.readAll(b)
	}
	settle(a, b, 125)
	a.write(1, "at once", true)
	a.handOver(b, 125)
	b.wantRead(a, 1, 9, "at once")
}

// P10.3: behind losses no more bytes are under way than the window of layer 7 has room for, but at least 2400.
func TestNarrowWay(t *testing.T) {
	a, b := both(t, someKey)
	now := 0
	for a.e.flight.window.Size > 2400 {
		for i := range 4 {
			a.write(0, "x", false)
			d, _ := a.wantStep(now)
			if i == 3 {
				b.take(d, now)
			}
		}
		b.handOver(a, now)
		now++
		settle(a, b, now)
		b.readAll(a)
		settle(a, b, now)
		now++
		if now > 100 {
			t.Fatal("it does not get narrow")
		}
	}
	for i := range Streams {
		a.write(i, text(900), false)
	}
	sum := 0
	for _, d := range a.all(now) {
		sum += len(d.b)
	}
	if sum > 2400 || sum < 2300 {
		t.Errorf("%d bytes are under way", sum)
	}
	// An ack needs no room there.
	b.write(0, "z", false)
	b.handOver(a, now)
	if _, l := a.wantStep(now); !slices.Equal(kinds(l), []int{api.Ack}) {
		t.Errorf("told is %v", l)
	}
}

// P10.6: no stream waits for ever for others that are written to again and again.
func TestTurns(t *testing.T) {
	a, b := both(t, someKey)
	a.e.flight.window.Size = 2400
	a.write(3, text(2048), true)
	for n := 1; n <= 60; n++ {
		for i := range 3 {
			a.write(i, text(2048-a.e.Queued(i)), false)
		}
		fair(a, b, n*round)
	}
	if !b.e.Done(3) {
		t.Errorf("%d bytes were read of the stream that waited", len(b.read[3]))
	}
}

// fair is one of the times of P10.6.
func fair(a, b *side, now int) {
	a.t.Helper()
	fromA, fromB := a.all(now), b.all(now)
	for _, d := range fromA {
		b.take(d, now)
	}
	for _, d := range fromB {
		a.take(d, now)
	}
	a.readAll(b)
	b.readAll(a)
}

// R4: the bytes that are handed in are neither turned nor kept, and those that are answered may be written over.
func TestMemory(t *testing.T) {
	a, b := both(t, someKey)
	spoil := func(l []byte) {
		l = l[:cap(l)]
		for i := range l {
			l[i] = '#'
		}
	}
	in := append(make([]byte, 0, 100), "written"...)
	if why := a.e.Write(0, in, true); why != api.OK || string(in) != "written" {
		t.Fatal(why, in)
	}
	spoil(in)
	a.noteWrote(0, []byte("written"), true)
	first, _ := a.wantStep(0)
	spoil(first.b)
	second, _ := a.wantStep(round)
	was := string(second.b)
	b.take(second, 0)
	if string(second.b) != was {
		t.Error("Recv turned what it was handed")
	}
	spoil(second.b)
	got := b.e.Read(0, 3)
	if string(got) != "wri" {
		t.Errorf("read is %q", got)
	}
	spoil(got)
	if got := b.e.Read(0, 9); string(got) != "tten" {
		t.Errorf("read is %q", got)
	}
	ack, _ := b.wantStep(0)
	spoil(ack.b)
	bad := []byte(was)
	bad[3] ^= 1
	worse := string(bad)
	if why := b.e.Recv(bad, 0); why != api.ErrTag || string(bad) != worse {
		t.Error("a refused datagram was turned")
	}
	b.takeForged(2, api.Frame{Kind: api.Ping})
	if _, l := b.wantStep(0); l[0].Spans[0] != (api.Span{From: 1, To: 2}) {
		t.Errorf("told is %v", l)
	}
}
