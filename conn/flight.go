package conn

import (
	"maps"
	"slices"

	"turnbuckle/api"
	"turnbuckle/cong"
	"turnbuckle/rtt"
	"turnbuckle/sent"
	"turnbuckle/spans"
)

// mostOut is for how many datagrams a ledger has room.
const mostOut = 512

// told is what a datagram told.
type told struct {
	time  int // when it was sent
	parts []part
}

// flight is what this end told and has not heard of. Datagrams that ask for no ack are no part of it.
type flight struct {
	told    map[int]told // of datagrams that were not acked, lost or not, as an ack may come late; by their numbers; nil in an end that New did not give
	ledger  *sent.Ledger
	last    int // the last number that the ledger knows
	window  cong.State
	answer  rtt.State
	doubled int // how often the wait for a probe was doubled
}

// newFlight is one of an end that told nothing.
func newFlight() flight {
	return flight{told: map[int]told{}, ledger: sent.New(), last: none, window: cong.New()}
}

// room is how many bytes the next datagram may have.
func (f *flight) room() int {
	if len(f.ledger.Out()) >= mostOut {
		return 0
	}
	return cong.Room(f.window)
}

// send takes a datagram that is made.
func (f *flight) send(g *gram, time, size int) {
	f.told[g.number] = told{time: time, parts: g.parts}
	f.ledger.Sent(g.number, time, size)
	f.last = g.number
	f.window, _ = cong.Sent(f.window, size)
}

// heard is what those datagrams told that came.
func (f *flight) heard(ack api.Frame, time int) []part {
	var all []part
	newest := none
	for n, t := range f.told {
		if spans.Has(ack.Spans, n) {
			all = append(all, t.parts...)
			newest = max(newest, n)
		}
	}
	if newest == none {
		return nil
	}
	f.doubled = 0
	// How long the answer to one took that lies below another one that was acked earlier tells little.
	if newest > f.ledger.Largest() {
		f.answer, _ = rtt.Sample(f.answer, time-f.told[newest].time, min(ack.N, api.MaxTime))
	}
	return all
}

// forget forgets what datagrams told of which nothing is open.
func (f *flight) forget(isOpen func(part) bool) {
	maps.DeleteFunc(f.told, func(_ int, t told) bool { return !slices.ContainsFunc(t.parts, isOpen) })
}

// settle has the ledger hear of an ack, and answers the numbers of those that are lost by it.
func (f *flight) settle(ack api.Frame, time int) []int {
	known, _ := spans.Take(ack.Spans, f.last+1, api.MaxVarint)
	if len(known) == 0 {
		return nil
	}
	// Those that are lost by their time are asked for in Step.
	acked, lost, _ := f.ledger.Ack(known, time, api.MaxTime)
	for _, p := range acked {
		f.window, _ = cong.Acked(f.window, p.Size, p.Time)
	}
	return f.fall(lost, time)
}

// lose answers the numbers of those that are lost by their time, or given up.
func (f *flight) lose(time int) []int {
	wait, _ := rtt.Loss(f.answer)
	lost := f.fall(f.ledger.Lose(time, wait), time)
	return append(lost, f.giveUp(time)...)
}

// fall tells the window of losses.
func (f *flight) fall(lost []sent.Packet, time int) []int {
	for _, p := range lost {
		f.window, _ = cong.Lost(f.window, p.Size, p.Time, time)
	}
	return numbersOf(lost)
}

// giveUp gives all up that are on their way, once nothing was heard for as long as the wait for a probe: the probe tells again what they told.
func (f *flight) giveUp(time int) []int {
	out := f.ledger.Out()
	wait, _ := rtt.Probe(f.answer, f.doubled)
	if len(out) == 0 || time-out[len(out)-1].Time < wait {
		return nil
	}
	f.doubled++
	for _, p := range f.ledger.Drop() {
		f.window, _ = cong.Gone(f.window, p.Size)
	}
	return numbersOf(out)
}

// numbersOf are datagrams' numbers.
func numbersOf(l []sent.Packet) []int {
	var all []int
	for _, p := range l {
		all = append(all, p.N)
	}
	return all
}
