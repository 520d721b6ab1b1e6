package conn

import (
	"bytes"
	"fmt"
	"math"
	"testing"

	"turnbuckle/api"
	"turnbuckle/frames"
	"turnbuckle/tag"
)

// busy are two ends that have talked: a has read some and not all, b's last datagram is on its way to a, and some of a's were lost.
func busy(t *testing.T) (a, b *side, onWay made) {
	t.Helper()
	a, b = both(t, someKey)
	a.write(0, "one", true)
	b.write(0, text(1100), false)
	b.write(1, "abcdef", false)
	settle(a, b, 10)
	a.wantRead(b, 1, 3, "abc")
	a.write(2, "lost", false)
	a.wantStep(20)
	a.write(3, "also lost", false)
	a.wantStep(21)
	b.write(1, "ghi", true)
	b.write(2, "more", false)
	onWay, _ = b.wantStep(30)
	return a, b, onWay
}

// script is what an end answers to one row of calls, by which it tells all that it has in it.
func script(a *side, onWay made) string {
	var out []byte
	tell := func(l ...any) { out = fmt.Append(out, l...) }
	for i, now := range []int{0, 30, 31, 50, 500, 5000} {
		tell(look(a.e), "\n")
		for range 70 {
			b := a.e.Step(now)
			tell(now, b, look(a.e), "\n")
			if b == nil {
				break
			}
		}
		switch i {
		case 1:
			tell(a.e.Recv(onWay.b, now), a.e.Recv(onWay.b, now))
		case 2:
			for j := range Streams {
				tell(a.e.Read(j, 2))
			}
		case 3:
			tell(a.e.Write(0, []byte("x"), false), a.e.Write(1, make([]byte, 2049), false), a.e.Write(2, []byte("x"), true))
		case 4:
			for j := range Streams {
				tell(a.e.Read(j, 5000), a.e.Done(j))
			}
		}
	}
	return string(out)
}

// wantRefused wants a fresh end and a busy one to refuse a datagram, and nothing to turn by this that any later call tells: not even the time.
func wantRefused(t *testing.T, b []byte, want api.Errno) {
	t.Helper()
	for _, now := range []int{0, 25, 1 << 30, lastTime} {
		fresh, _ := both(t, someKey)
		fresh.refuse(b, now, want)
		fresh.wantIdle(true)
		if got := fresh.all(0); len(got) > 0 {
			t.Fatalf("a fresh end tells something")
		}
		a, _, onWay := busy(t)
		twin, _, _ := busy(t)
		was := string(b)
		a.refuse(b, now, want)
		if string(b) != was {
			t.Fatal("Recv turned what it was handed")
		}
		a.refuse(b, now, want)
		if script(a, onWay) != script(twin, onWay) {
			t.Fatalf("what was refused at %d with %v turned something", now, want)
		}
	}
}

// The two helpers above see what an end has in it.
func TestScript(t *testing.T) {
	a, _, onWay := busy(t)
	twin, _, _ := busy(t)
	if script(a, onWay) != script(twin, onWay) {
		t.Error("the same calls have other answers")
	}
	for _, f := range []api.Frame{{Kind: api.Ping}, {Kind: api.Padding}, ackOf(2, 2), at(2, 2, "r", false), {Kind: api.MaxOn, Stream: 2, N: 2000}} {
		a, _, onWay = busy(t)
		twin, _, _ = busy(t)
		a.takeForged(50, f)
		if script(a, onWay) == script(twin, onWay) {
			t.Errorf("%v is not seen", f)
		}
	}
	a, _, onWay = busy(t)
	twin, _, _ = busy(t)
	a.e.Step(300)
	if script(a, onWay) == script(twin, onWay) {
		t.Error("the time is not seen")
	}
}

// P10.4: what layer 2 does not open: bytes that are none, too few, under another key, or under the end's own role.
func TestNoDatagram(t *testing.T) {
	wantRefused(t, nil, api.ErrTag)
	wantRefused(t, []byte{}, api.ErrTag)
	for n := range 30 {
		wantRefused(t, make([]byte, n), api.ErrTag)
	}
	wantRefused(t, make([]byte, 1200), api.ErrTag)
	wantRefused(t, make([]byte, 1201), api.ErrTag)
	wantRefused(t, make([]byte, 1<<16), api.ErrTag)
	ping := api.Frame{Kind: api.Ping}
	for _, key := range []uint64{someKey ^ 1, someKey ^ 2, someKey ^ 3, someKey + 1, 0, ^uint64(someKey)} {
		for role := range 2 {
			if sealKey(key, role) != sealKey(someKey, 1) {
				wantRefused(t, forge(key, role, 100, 1, ping), api.ErrTag)
			}
		}
	}
	wantRefused(t, forge(someKey, 0, 100, 1, ping), api.ErrTag)
	wantRefused(t, tag.Seal(someKey, []byte{1, 100, 1}), api.ErrTag)
	wantRefused(t, tag.Seal(someKey^3, []byte{1, 100, 1}), api.ErrTag)
}

// P10.4: an end refuses what it made itself, and what another connection's ends made.
func TestTurnedRound(t *testing.T) {
	for role := range 2 {
		a, _ := both(t, someKey)
		other, third := both(t, someKey+4)
		if role == 1 {
			_, a = both(t, someKey)
		}
		for _, s := range []*side{a, other, third} {
			s.write(1, "hello", true)
			d, _ := s.wantStep(0)
			a.refuse(d.b, 5, api.ErrTag)
		}
		a.wantRead(other, 1, 9, "")
	}
}

// P10.5, P10.7: nor does an end take what it made itself, when it was turned in one byte: some of these it opens.
func TestTurnedRoundInOneByte(t *testing.T) {
	opened := 0
	for role := range 2 {
		for _, key := range []uint64{0, 1, 2, 3, someKey, math.MaxUint64} {
			a, b := both(t, key)
			if role == 1 {
				a, b = b, a
			}
			a.write(0, "one", false)
			a.write(3, "two", true)
			for n := range 3 {
				d, _ := a.wantStep(n * round)
				for i := range d.b {
					for by := 1; by < 256; by++ {
						d.b[i] ^= byte(by)
						was := look(a.e)
						if why := a.e.Recv(d.b, lastTime); why == api.OK {
							t.Fatalf("an end takes the datagram %d that it made, turned at %d by %d", d.n, i, by)
						} else if why != api.ErrTag {
							opened++
						}
						if look(a.e) != was {
							t.Fatal("it turned something")
						}
						d.b[i] ^= byte(by)
					}
				}
			}
			a.wantRead(b, 0, 9, "")
		}
	}
	if opened == 0 {
		t.Error("none was opened")
	}
}

// P10.7: a datagram that was turned in one byte turns nothing.
func TestOneByteTurned(t *testing.T) {
	b, fresh := both(t, someKey)
	b.write(0, "abc", true)
	d, _ := b.wantStep(0)
	for i := range d.b {
		for by := 1; by < 256; by++ {
			d.b[i] ^= byte(by)
			fresh.refuse(d.b, round, api.ErrTag)
			d.b[i] ^= byte(by)
		}
	}
	fresh.take(d, 0)
	fresh.wantRead(b, 0, 9, "abc")
	_, _, onWay := busy(t)
	for i := range onWay.b {
		turned := bytes.Clone(onWay.b)
		turned[i] ^= 1 << (i % 8)
		wantRefused(t, turned, api.ErrTag)
	}
}

// P10.4: a datagram that is cut or longer, without a tag that fits.
func TestCutOrLonger(t *testing.T) {
	_, _, onWay := busy(t)
	for n := range len(onWay.b) {
		wantRefused(t, onWay.b[:n], api.ErrTag)
	}
	for _, more := range []string{"\x00", "\x01", "more", text(1200), text(2000)} {
		wantRefused(t, append(bytes.Clone(onWay.b), more...), api.ErrTag)
		wantRefused(t, append([]byte(more), onWay.b...), api.ErrTag)
	}
}

// P10.4: a datagram that came already, and one with its number, whatever that tells.
func TestCameAlready(t *testing.T) {
	a, b, onWay := busy(t)
	a.take(onWay, 40)
	for range 3 {
		a.refuse(onWay.b, lastTime, api.ErrOrder)
	}
	for n := range onWay.n + 1 {
		a.refuse(forge(someKey, 1, n, 1, at(3, 0, "forged", true)), lastTime, api.ErrOrder)
		a.refuse(forge(someKey, 1, n, 4, api.Frame{Kind: api.Ping}), lastTime, api.ErrOrder)
		a.refuse(forge(someKey, 1, n, 4, at(4, 0, "", true)), lastTime, api.ErrOrder)
		a.refuse(forge(someKey, 1, n, 4, ackOf(90, 90)), lastTime, api.ErrOrder)
	}
	b.write(3, "true", true)
	settle(b, a, 41)
	a.wantRead(b, 3, 9, "true")
}

// P10.4: datagrams of 1200 bytes may come, and none of more.
func TestMostBytes(t *testing.T) {
	for size := 1190; size <= 1200; size++ {
		_, b := both(t, someKey)
		d := forgeBody(someKey, 0, 0, 1, make([]byte, size-10))
		if len(d) != size {
			t.Fatal(len(d))
		}
		// So many frames may not be; so many bytes may.
		b.refuse(d, 0, api.ErrMany)
		d = forge(someKey, 0, 0, 1, at(0, 0, text(1000), false), at(1, 0, text(size-10-1005-5), true))
		if len(d) != size {
			t.Fatal(len(d))
		}
		if why := b.e.Recv(d, 0); why != api.OK || len(b.e.Read(0, 5000)) != 1000 || len(b.e.Read(1, 5000)) != size-10-1010 || !b.e.Done(1) {
			t.Errorf("%d bytes: %v", size, why)
		}
	}
	for _, size := range []int{1201, 1202, 1300, 5000, 1 << 17} {
		body := append([]byte{1, 100}, make([]byte, size-10)...)
		copy(body[2:], "\x08\x00a")
		wantRefused(t, tag.Seal(sealKey(someKey, 1), body), api.ErrMany)
		// Of several errors the tag's is named first.
		wantRefused(t, tag.Seal(sealKey(someKey, 0), body), api.ErrTag)
		body[0] = 9
		wantRefused(t, tag.Seal(sealKey(someKey, 1), body), api.ErrMany)
	}
}

// P10.4: what is sealed rightly and is no datagram: its number or its frames are not such.
func TestWrongForm(t *testing.T) {
	sealed := func(body string) []byte { return tag.Seal(sealKey(someKey, 1), []byte(body)) }
	cases := []struct {
		body string
		want api.Errno
	}{
		{"", api.ErrEnd},
		{"\x00", api.ErrForm},
		{"\x00\x01", api.ErrForm},
		{"\x00\x64\x01", api.ErrForm},
		{"\x05", api.ErrForm},
		{"\x05\x00\x00\x00\x00\x64\x01", api.ErrForm},
		{"\x06\x00\x00\x00\x00\x00\x64\x01", api.ErrForm},
		{"\x81\x64\x01", api.ErrForm},
		{"\xff\x64\x01", api.ErrForm},
		{"\x01", api.ErrEnd},
		{"\x02", api.ErrEnd},
		{"\x02\x00", api.ErrEnd},
		{"\x03\x00\x00", api.ErrEnd},
		{"\x04\x00\x00\x00", api.ErrEnd},
		{"\x01\x64", api.ErrEnd},
		{"\x02\x00\x64", api.ErrEnd},
		{"\x03\x00\x00\x64", api.ErrEnd},
		{"\x04\x00\x00\x00\x64", api.ErrEnd},
		// Frames that layer 4 refuses, behind some that it does not.
		{"\x01\x64\x03", api.ErrForm},
		{"\x01\x64\x01\x03", api.ErrForm},
		{"\x01\x64\x40\x01", api.ErrForm},
		{"\x01\x64\x0e", api.ErrEnd},
		{"\x01\x64\x01\x0e\x03\x00\x05abcd", api.ErrEnd},
		{"\x01\x64\x0b\x03\x02ok\x02\x01", api.ErrEnd},
		{"\x01\x64\x01\x02\x01\x00\x00\x02", api.ErrForm},
		{"\x01\x64\x01\x02\x20\x00\x20", api.ErrMany},
		{"\x01\x64\x01\x0e\x03\xff\xff\xff\xff\xff\xff\xff\xff\x01a", api.ErrFlow},
		{"\x01\x64" + string(make([]byte, 65)), api.ErrMany},
	}
	for _, c := range cases {
		wantRefused(t, sealed(c.body), c.want)
		if len(c.body) > 1 && c.body[0] < 5 && c.body[0] > 0 {
			// Nor is it one that came already, as it is none.
			a, _, _ := busy(t)
			a.takeForged(100, api.Frame{Kind: api.Padding})
			a.refuse(sealed(c.body), 0, c.want)
		}
	}
	a, _, _ := busy(t)
	if why := a.e.Recv(sealed("\x01\x64"+string(make([]byte, 64))), 0); why != api.OK {
		t.Errorf("64 frames: %v", why)
	}
}

// P10.4: frames that tell what may not be. Nothing of the datagram is taken, not even what stands ahead of them.
func TestMayNotBe(t *testing.T) {
	type frame = api.Frame
	cases := []struct {
		l    []frame
		want api.Errno
	}{
		{[]frame{at(4, 0, "x", false)}, api.ErrStream},
		{[]frame{at(5, 0, "", true)}, api.ErrStream},
		{[]frame{at(api.MaxVarint, 0, "", true)}, api.ErrStream},
		{[]frame{at(4, api.MaxVarint, "", false)}, api.ErrStream},
		{[]frame{{Kind: api.MaxOn, Stream: 4, N: 5}}, api.ErrStream},
		{[]frame{{Kind: api.Reset, Stream: 4}}, api.ErrStream},
		{[]frame{{Kind: api.Stop, Stream: 4}}, api.ErrStream},
		// The window.
		{[]frame{at(3, 1024, "x", false)}, api.ErrFlow},
		{[]frame{at(3, 1023, "xy", false)}, api.ErrFlow},
		{[]frame{at(3, 1, text(1024), true)}, api.ErrFlow},
		{[]frame{at(3, 1025, "", false)}, api.ErrFlow},
		{[]frame{at(3, 1025, "", true)}, api.ErrFlow},
		{[]frame{at(3, 0, text(1025), false)}, api.ErrFlow},
		{[]frame{at(3, api.MaxVarint, "", true)}, api.ErrFlow},
		{[]frame{at(3, api.MaxVarint-1, "x", true)}, api.ErrFlow},
		// The end, in one datagram, behind what may be.
		{[]frame{at(3, 0, "abc", true), at(3, 3, "d", false)}, api.ErrFinal},
		{[]frame{at(3, 0, "abc", true), at(3, 0, "abcd", false)}, api.ErrFinal},
		{[]frame{at(3, 0, "abc", true), at(3, 4, "", false)}, api.ErrFinal},
		{[]frame{at(3, 0, "abc", true), at(3, 0, "ab", true)}, api.ErrFinal},
		{[]frame{at(3, 0, "abc", true), at(3, 4, "", true)}, api.ErrFinal},
		{[]frame{at(3, 2, "c", false), at(3, 0, "ab", true)}, api.ErrFinal},
		{[]frame{at(3, 2, "c", false), at(3, 0, "", true)}, api.ErrFinal},
		{[]frame{at(3, 2, "c", false), at(3, 0, "a", false), at(3, 0, "ab", true)}, api.ErrFinal},
		{[]frame{at(3, 0, "", true), at(3, 0, "a", false)}, api.ErrFinal},
		{[]frame{at(3, 3, "", true), at(3, 2, "", true)}, api.ErrFinal},
		{[]frame{at(3, 3, "", true), at(3, 0, "ab", true)}, api.ErrFinal},
		// What was never sent.
		{[]frame{ackOf(90, 90)}, api.ErrOrder},
		{[]frame{ackOf(0, 90)}, api.ErrOrder},
		{[]frame{{Kind: api.Ack, Spans: []api.Span{{From: 0, To: 0}, {From: 90, To: 90}}}}, api.ErrOrder},
		{[]frame{ackOf(0, api.MaxVarint)}, api.ErrOrder},
		{[]frame{ackOf(api.MaxVarint, api.MaxVarint)}, api.ErrOrder},
		// The first one that may not be counts.
		{[]frame{at(4, 0, "x", false), ackOf(90, 90)}, api.ErrStream},
		{[]frame{ackOf(90, 90), at(4, 0, "x", false)}, api.ErrOrder},
		{[]frame{at(3, 1025, "", false), ackOf(90, 90)}, api.ErrFlow},
	}
	good := []frame{at(2, 0, "good", true), {Kind: api.Ping}, {Kind: api.MaxOn, Stream: 2, N: 4000}}
	for _, c := range cases {
		wantRefused(t, forge(someKey, 1, 100, 1, c.l...), c.want)
		if len(c.l[0].Data) < 1000 {
			l := append(append([]frame{}, good...), c.l...)
			wantRefused(t, forge(someKey, 1, 100, 4, l...), c.want)
			wantRefused(t, forge(someKey, 1, 100, 4, append(l, good...)...), c.want)
		}
	}
}

// P10.4: so it is of what came in datagrams ahead.
func TestMayNotBeBehind(t *testing.T) {
	_, _, onWay := busy(t)
	taken := func() *side {
		a, _, _ := busy(t)
		a.take(onWay, 30)
		return a
	}
	// a has made the numbers up to 3 or so, read 3 of the 9 bytes of stream 1, and none of the window that is full on stream 0.
	last := taken().last
	cases := []struct {
		f    api.Frame
		want api.Errno
	}{
		{at(0, 1024, "x", false), api.ErrFlow},
		{at(0, 1025, "", true), api.ErrFlow},
		{at(0, 0, text(1023), true), api.ErrFinal},
		{at(0, 0, "", true), api.ErrFinal},
		{at(0, 1024, "", true), api.OK},
		{at(0, 0, text(1024), true), api.OK},
		{at(1, 9, "x", false), api.ErrFinal},
		{at(1, 10, "", false), api.ErrFinal},
		{at(1, 8, "", true), api.ErrFinal},
		{at(1, 10, "", true), api.ErrFinal},
		{at(1, 2, "", true), api.ErrFinal},
		{at(1, 1028, "", false), api.ErrFlow},
		{at(1, 1027, "", false), api.ErrFinal},
		{at(1, 9, "", true), api.OK},
		{at(1, 9, "", false), api.OK},
		{at(1, 0, "abcdefghi", true), api.OK},
		{at(2, 0, "mor", true), api.ErrFinal},
		{at(2, 0, "more", true), api.OK},
		{at(2, 0, "moreover", false), api.OK},
		{ackOf(last+1, last+1), api.ErrOrder},
		{ackOf(0, last+1), api.ErrOrder},
		{ackOf(0, last), api.OK},
	}
	for _, c := range cases {
		a := taken()
		was := look(a.e)
		if got := a.e.Recv(forge(someKey, 1, 100, 1, c.f), 30); got != c.want {
			t.Errorf("%v: %v, not %v", c.f, got, c.want)
		}
		if c.want == api.OK {
			continue
		}
		if look(a.e) != was {
			t.Errorf("%v turned something", c.f)
		}
		twin := taken()
		if script(a, onWay) != script(twin, onWay) {
			t.Errorf("%v turned something", c.f)
		}
	}
	// What was refused may come again, when it may be.
	a, b := both(t, someKey)
	b.write(0, text(1024), false)
	settle(b, a, 0)
	d := forge(someKey, 1, 100, 1, at(0, 1024, "x", false))
	a.refuse(d, 0, api.ErrFlow)
	a.refuse(d, 0, api.ErrFlow)
	a.wantRead(b, 0, 1, text(1))
	if why := a.e.Recv(d, 0); why != api.OK {
		t.Error(why)
	}
	a.refuse(d, 0, api.ErrOrder)
}

// P10.4: frames without bytes are no bytes that came; an end may be told ahead of all bytes, and again.
func TestMayBe(t *testing.T) {
	cases := [][]api.Frame{
		{at(3, 5, "", false), at(3, 0, "abc", true)},
		{at(3, 1024, "", false), at(3, 3, "", true), at(3, 0, "abc", false)},
		{at(3, 3, "", true), at(3, 1, "bc", true), at(3, 3, "", false), at(3, 0, "abc", true)},
		{at(3, 2, "c", true), at(3, 0, "aXY", false), at(3, 1, "b", false)},
	}
	for i, l := range cases {
		want := []string{"abc", "abc", "abc", "aXc"}[i]
		together, apart := end(t, 1, someKey), end(t, 1, someKey)
		if why := together.Recv(forge(someKey, 0, 0, 1, l...), 0); why != api.OK {
			t.Errorf("case %d: %v", i, why)
		}
		for n, f := range l {
			if why := apart.Recv(forge(someKey, 0, n, 1, f), 0); why != api.OK {
				t.Errorf("case %d, frame %d: %v", i, n, why)
			}
		}
		for _, e := range []*End{together, apart} {
			if got := e.Read(3, 9); string(got) != want || !e.Done(3) {
				t.Errorf("case %d: %q, %v", i, got, e.Done(3))
			}
		}
	}
}

// P10.4: a limit does not fall, and one that is of no use does no harm.
func TestLimits(t *testing.T) {
	a, _ := both(t, someKey)
	a.write(0, text(2048), true)
	a.all(0)
	steps := []struct{ limit, told int }{{0, 0}, {1023, 0}, {1024, 0}, {1025, 1}, {1030, 5}, {1029, 0}, {1030, 0}, {api.MaxVarint, 1018}, {5, 0}}
	a.wasRead[0] = api.MaxVarint
	for i, s := range steps {
		a.takeForged(i, api.Frame{Kind: api.MaxOn, Stream: 0, N: s.limit})
		sum := 0
		for _, d := range a.all(0) {
			_, l := peel(t, someKey, 0, d.n-1, d.b)
			for _, f := range l {
				sum += len(f.Data)
			}
		}
		if sum != s.told {
			t.Errorf("limit %d: %d bytes are told, not %d", s.limit, sum, s.told)
		}
	}
	a, _ = both(t, someKey)
	a.write(0, text(2048), true)
	a.wasRead[0] = api.MaxVarint
	a.takeForged(0, api.Frame{Kind: api.MaxOn, N: 1600}, api.Frame{Kind: api.MaxOn, N: 1200})
	told := 0
	for _, d := range a.all(0) {
		_, l := peel(t, someKey, 0, d.n-1, d.b)
		for _, f := range l {
			told += len(f.Data)
		}
	}
	if told != 1600 {
		t.Errorf("%d bytes are told", told)
	}
}

// R1: whatever frames come, nothing panics, and the bounds of P10.8 hold.
func TestWildFrames(t *testing.T) {
	numbers := []int{0, 1, 2, 3, 4, 5, 1023, 1024, 1025, 2048, 4096, 1 << 32, api.MaxVarint - 1, api.MaxVarint}
	kinds := []int{api.Padding, api.Ping, api.Ack, api.Reset, api.Stop, api.Stream, api.MaxData, api.MaxOn, api.MaxOpen, api.Close, api.Handshake}
	a, _ := both(t, someKey)
	a.write(0, text(2000), false)
	a.write(1, text(2000), true)
	n, ok := 0, 0
	for _, kind := range kinds {
		for _, x := range numbers {
			for _, y := range numbers {
				f := api.Frame{Kind: kind, Stream: x, Offset: y, N: x, Code: y, Data: []byte("data"), Fin: x == y, Spans: []api.Span{{From: min(x, y), To: x}}}
				f = fitting(f)
				if _, why := frames.Encode([]api.Frame{f}); why != api.OK {
					continue
				}
				if a.e.Recv(forge(someKey, 1, n, 4, f), n) == api.OK {
					ok++
				}
				n++
				for range 64 {
					if len(a.e.Step(n)) > 1200 {
						t.Fatal("a datagram of more than 1200 bytes")
					}
				}
			}
		}
	}
	if ok < 300 {
		t.Errorf("only %d of %d were taken", ok, n)
	}
	for i := range Streams {
		if got := len(a.e.Read(i, math.MaxInt)); got > 1024 {
			t.Errorf("%d bytes came on stream %d", got, i)
		}
	}
}

// fitting has no fields but those of its kind.
func fitting(f api.Frame) api.Frame {
	switch f.Kind {
	case api.Ack:
		return api.Frame{Kind: f.Kind, N: f.N, Spans: f.Spans}
	case api.Reset:
		return api.Frame{Kind: f.Kind, Stream: f.Stream, Code: f.Code, Offset: f.Offset}
	case api.Stop:
		return api.Frame{Kind: f.Kind, Stream: f.Stream, Code: f.Code}
	case api.Stream:
		return api.Frame{Kind: f.Kind, Stream: f.Stream, Offset: f.Offset, Data: f.Data, Fin: f.Fin}
	case api.MaxData, api.MaxOpen:
		return api.Frame{Kind: f.Kind, N: f.N}
	case api.MaxOn:
		return api.Frame{Kind: f.Kind, Stream: f.Stream, N: f.N}
	case api.Close:
		return api.Frame{Kind: f.Kind, Code: f.Code, Data: f.Data}
	}
	return api.Frame{Kind: f.Kind}
}

// P10.4: a nil end, and one that New did not give.
func TestNoEnd(t *testing.T) {
	other := end(t, 0, someKey)
	other.Write(0, []byte("x"), true)
	d := other.Step(0)
	for _, e := range []*End{nil, new(End), {}} {
		for _, stream := range []int{0, 3, -1, 4, math.MinInt, math.MaxInt} {
			for _, b := range [][]byte{nil, []byte("x"), make([]byte, 3000)} {
				for _, fin := range []bool{false, true} {
					if why := e.Write(stream, b, fin); why != api.ErrNil {
						t.Errorf("Write is %v", why)
					}
				}
			}
			if got := e.Read(stream, 9); got != nil {
				t.Errorf("Read is %q", got)
			}
			if e.Done(stream) || e.Queued(stream) != 0 {
				t.Errorf("Done is %v, Queued %d", e.Done(stream), e.Queued(stream))
			}
		}
		for _, now := range []int{0, -1, round, lastTime, lastTime + 1, math.MinInt, math.MaxInt} {
			if got := e.Step(now); got != nil {
				t.Errorf("Step is %q", got)
			}
			for _, b := range [][]byte{nil, {}, d, make([]byte, 1201), make([]byte, 20)} {
				if why := e.Recv(b, now); why != api.ErrNil {
					t.Errorf("Recv is %v", why)
				}
			}
		}
		if !e.Idle() {
			t.Error("it is not idle")
		}
	}
}
