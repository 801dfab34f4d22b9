package table_test

import (
	"testing"

	"sternpost/api"
)

// 19.4: all connections tick, whoever holds them, by their numbers, not by what is due first.
func TestTick(t *testing.T) {
	x := made(t, set, here)
	x.listen(80, api.OK)
	x.listen(81, api.OK)
	opened := x.opened(70, 1)
	held := x.stands(81, 9, 2)
	x.accept(81, 2)
	waits := x.stands(80, 5, 3)
	x.take(there, far(0, 5, 80, 501, waits+1, "hi"), 1, 3)
	x.write(2, "yes", 1, 3, to(there, own(api.PSH, 81, 9, held+1, 501, "yes"))...)
	x.due(2)
	x.tick(1)
	s := own(0, 80, 5, waits+1, 503, "")
	s.Window = 58
	x.tick(2, to(there, s)...)
	x.due(5)
	x.tick(4)
	x.tick(9, to(there, question(firstOwn, 70, opened), own(api.PSH, 81, 9, held+1, 501, "yes"))...)
	x.tick(9)
}

// 19.4: one that is given up, or has lingered, is gone, if nobody holds it.
func TestGoneByTick(t *testing.T) {
	x := made(t, set, here)
	x.listen(80, api.OK)
	iss := x.comes(80, 5, 1)
	held := x.stands(80, 6, 2)
	x.accept(80, 2)
	x.close(2, 0, to(there, own(api.FIN, 80, 6, held+1, 501, ""))...)
	x.take(there, far(api.FIN, 6, 80, 501, held+2, ""), 0, 2, to(there, own(0, 80, 6, held+2, 502, ""))...)
	left := x.stands(80, 7, 3)
	x.accept(80, 3)
	x.close(3, 1, to(there, own(api.FIN, 80, 7, left+1, 501, ""))...)
	x.drop(3, api.OK)
	x.take(there, far(api.FIN, 7, 80, 501, left+2, ""), 1, 3, to(there, own(0, 80, 7, left+2, 502, ""))...)
	x.is(3, api.TimeWait, api.OK)
	x.tick(8, to(there, answer(80, 5, iss))...)
	x.tick(10)
	x.is(2, api.Closed, api.OK)
	x.numbers(1, 2, 3)
	x.tick(11)
	x.numbers(1, 2)
	x.without(3)
	x.tick(24, to(there, answer(80, 5, iss))...)
	x.tick(56, to(there, api.Segment{From: 80, To: 5, Seq: iss + 1, Ack: 501, Flags: api.RST | api.ACK, Window: 60})...)
	x.numbers(2)
	x.without(1)
	x.drop(2, api.OK)
	x.empty()
}

// 19.4: of a port the first one, by numbers, that waits, and stands: not in the order in which they came to stand.
func TestAccept(t *testing.T) {
	s := set
	s.Backlog = 9
	x := made(t, s, here)
	x.listen(80, api.OK)
	x.listen(81, api.OK)
	first := x.comes(80, 5, 1)
	x.stands(81, 5, 2)
	second := x.comes(80, 6, 3)
	x.comes(80, 7, 4)
	x.acceptsNone(80, 79, 82, firstOwn)
	x.acceptsNone(noPorts...)
	x.take(there, far(0, 6, 80, 501, second+1, ""), 0, 3)
	x.take(there, far(0, 5, 80, 501, first+1, ""), 0, 1)
	x.accept(80, 1)
	x.accept(80, 3)
	x.acceptsNone(80)
	x.is(4, api.SynRcvd, api.OK)
	x.unheld(2, 4)
	x.accept(81, 2)
	x.acceptsNone(80, 81)
	// One that is not held any more is not accepted again.
	x.drop(1, api.OK)
	x.acceptsNone(80)
	x.numbers(1, 2, 3, 4)
}

// 19.4: one stands, too, whose other side has sent all.
func TestAcceptsEnded(t *testing.T) {
	x := made(t, set, here)
	x.listen(80, api.OK)
	iss := x.comes(80, 5, 1)
	s := own(0, 80, 5, iss+1, 504, "")
	s.Window = 58
	x.take(there, far(api.FIN|api.PSH, 5, 80, 501, iss+1, "hi"), 0, 1, to(there, s)...)
	x.is(1, api.CloseWait, api.OK)
	x.accept(80, 1)
	x.read(1, 9, 0, "hi")
	x.readFails(1, 9, 0, api.ErrEnd)
}

// 19.5: what there is no connection of, and what is not held, is refused, ahead of all that chapter 18 says.
func TestNoneToAsk(t *testing.T) {
	x := made(t, set, here)
	x.listen(80, api.OK)
	x.stands(80, 5, 1)
	x.comes(80, 6, 2)
	x.opened(80, 3)
	x.without(noNumbers...)
	x.without(4)
	x.unheld(1, 2)
	x.accept(80, 1)
	x.drop(1, api.OK)
	x.drop(3, api.OK)
	x.unheld(1, 2, 3)
	x.is(1, api.Estab, api.OK)
	x.is(2, api.SynRcvd, api.OK)
	x.is(3, api.SynSent, api.OK)
	x.ends(1, 80, there, 5)
	x.ends(2, 80, there, 6)
	x.ends(3, firstOwn, there, 80)
	x.numbers(1, 2, 3)
}

// 19.5: what is asked is chapter 18's, with all that it refuses.
func TestAsked(t *testing.T) {
	x := made(t, set, here)
	x.listen(80, api.OK)
	iss := x.stands(80, 5, 1)
	x.accept(80, 1)
	x.read(1, 9, 0, "")
	x.take(there, far(0, 5, 80, 501, iss+1, "0123456789012345"), 0, 1)
	x.take(there, far(0, 5, 80, 517, iss+1, "0123456789012345678901234567890123456789"), 0, 1,
		to(there, api.Segment{From: 80, To: 5, Seq: iss + 1, Ack: 557, Flags: api.ACK, Window: 4})...)
	x.read(1, -1, 0, "")
	x.read(1, 0, 0, "")
	x.read(1, 10, 0, "0123456789")
	x.read(1, 6, 1, "012345", to(there, api.Segment{From: 80, To: 5, Seq: iss + 1, Ack: 557, Flags: api.ACK, Window: 20})...)
	x.read(1, 1000, 1, "0123456789012345678901234567890123456789")
	x.write(1, "01234567890123456789abcdefghijklmnopqrstuvwxyzABCDEFGHIJKLMNOPQRSTUVWXYZ", 2, 60, to(there,
		own(0, 80, 5, iss+1, 557, "01234567890123456789"), own(0, 80, 5, iss+21, 557, "abcdefghijklmnopqrst"),
		own(api.PSH, 80, 5, iss+41, 557, "uvwxyzABCDEFGHIJKLMN"))...)
	x.writeFails(1, "x", 2, api.ErrFull)
	x.close(1, 3, to(there, own(api.FIN, 80, 5, iss+61, 557, ""))...)
	x.closeFails(1, 3, api.ErrState)
	x.writeFails(1, "x", 3, api.ErrState)
	x.abort(1, to(there, reset(80, 5, iss+62))...)
	x.abort(1)
	x.is(1, api.Closed, api.ErrReset)
	x.writeFails(1, "x", 3, api.ErrReset)
	x.readFails(1, 9, 3, api.ErrReset)
	x.closeFails(1, 3, api.ErrReset)
	x.drop(1, api.OK)
	x.empty()
}

// 19.5: one that was closed by the other side is held still, with what came of it.
func TestHeldIsNotGone(t *testing.T) {
	x := made(t, set, here)
	iss := x.opened(80, 1)
	x.take(there, api.Segment{From: 80, To: firstOwn, Ack: iss + 1, Flags: api.RST | api.ACK}, 0, 1)
	x.is(1, api.Closed, api.ErrReset)
	x.ends(1, firstOwn, there, 80)
	x.numbers(1)
	x.tick(9)
	x.readFails(1, 9, 9, api.ErrReset)
	x.numbers(1)
	x.givesUp(2)
	x.drop(1, api.OK)
	x.without(1)
	x.numbers(2)
}

// givesUp lets one be opened, and closed ahead of any answer.
func (s side) givesUp(number int) {
	s.t.Helper()
	s.opened(81, number)
	s.close(number, 9)
	s.is(number, api.Closed, api.OK)
	s.closeFails(number, 9, api.ErrState)
	s.writeFails(number, "x", 9, api.ErrState)
	s.readFails(number, 9, 9, api.ErrState)
	s.abort(number)
}

// 19.5: one that is dropped goes on, and sends, until it is closed.
func TestDrop(t *testing.T) {
	x := made(t, set, here)
	x.listen(80, api.OK)
	iss := x.stands(80, 5, 1)
	x.accept(80, 1)
	x.write(1, "yes", 0, 3, to(there, own(api.PSH, 80, 5, iss+1, 501, "yes"))...)
	x.close(1, 0, to(there, own(api.FIN, 80, 5, iss+4, 501, ""))...)
	x.drop(1, api.OK)
	x.drop(1, api.ErrNone)
	x.is(1, api.FinWait1, api.OK)
	x.due(4)
	x.tick(4, to(there, own(api.FIN|api.PSH, 80, 5, iss+1, 501, "yes"))...)
	x.take(there, far(0, 5, 80, 501, iss+5, ""), 9, 1)
	x.is(1, api.FinWait2, api.OK)
	x.take(there, far(api.FIN, 5, 80, 501, iss+5, ""), 9, 1, to(there, own(0, 80, 5, iss+5, 502, ""))...)
	x.is(1, api.TimeWait, api.OK)
	x.numbers(1)
	// While it lingers nothing comes in between its ends.
	x.take(there, syn(5, 80), 10, 1, to(there, own(0, 80, 5, iss+5, 502, ""))...)
	x.tick(19)
	x.empty()
	at := first(set.Key, api.Ends{IP: here, Port: 80, FarIP: there, FarPort: 5}, 20)
	x.take(there, syn(5, 80), 20, 2, to(there, answer(80, 5, at))...)
}

// 19.5: numbers are given once; what there is of them rises.
func TestNumbers(t *testing.T) {
	s := set
	s.Backlog = 9
	x := made(t, s, here)
	x.listen(80, api.OK)
	for i := range 6 {
		x.stands(80, 9-i, i+1)
	}
	x.numbers(upTo(6)...)
	for _, number := range []int{4, 1, 6} {
		x.take(there, api.Segment{From: 10 - number, To: 80, Seq: 501, Flags: api.RST}, 0, number)
	}
	x.numbers(2, 3, 5)
	x.without(1, 4, 6)
	x.opened(80, 7)
	x.comes(80, 4, 8)
	x.numbers(2, 3, 5, 7, 8)
	x.accept(80, 2)
	x.accept(80, 3)
	x.accept(80, 5)
	x.numbers(2, 3, 5, 7, 8)
}

// 19.5: the least tick at which a clock of any of them is due.
func TestDue(t *testing.T) {
	x := made(t, set, here)
	x.listen(80, api.OK)
	iss := x.stands(80, 5, 1)
	if at, ok := x.x.Due(); at != 0 || ok {
		t.Fatalf("Due: %d, %v, want none", at, ok)
	}
	x.connect(there, 80, 5, 2, to(there, question(firstOwn, 80, first(set.Key, api.Ends{IP: here, Port: firstOwn, FarIP: there, FarPort: 80}, 5)))...)
	x.due(13)
	x.connect(there, 80, 3, 3, to(there, question(firstOwn+1, 80, first(set.Key, api.Ends{IP: here, Port: firstOwn + 1, FarIP: there, FarPort: 80}, 3)))...)
	x.due(11)
	x.connect(there, 80, 9, 4, to(there, question(firstOwn+2, 80, first(set.Key, api.Ends{IP: here, Port: firstOwn + 2, FarIP: there, FarPort: 80}, 9)))...)
	x.due(11)
	// The first one waits still: its clock counts, too.
	x.take(there, far(0, 5, 80, 501, iss+1, "hi"), 7, 1)
	x.due(8)
	x.abort(3)
	x.due(8)
	x.tick(8, to(there, api.Segment{From: 80, To: 5, Seq: iss + 1, Ack: 503, Flags: api.ACK, Window: 58})...)
	x.due(13)
}

// 19.4, 19.5: a tick that may not be is the nearest one to a connection, as chapter 18 has it.
func TestStrangeTicks(t *testing.T) {
	for _, now := range noTicks {
		x := made(t, set, here)
		x.listen(80, api.OK)
		iss := x.stands(80, 5, 1)
		x.accept(80, 1)
		at := api.MaxTick
		if now < 0 {
			at = 0
		}
		x.write(1, "yes", now, 3, to(there, own(api.PSH, 80, 5, iss+1, 501, "yes"))...)
		x.due(at + 4)
		x.tick(now)
		x.read(1, 9, now, "")
		x.close(1, now, to(there, own(api.FIN, 80, 5, iss+4, 501, ""))...)
		x.due(at + 4)
	}
}

// R4: what is handed out, and handed in, is the table's no more, and not the table's.
func TestMemory(t *testing.T) {
	x := made(t, set, here)
	x.listen(80, api.OK)
	iss := x.stands(80, 5, 1)
	x.comes(80, 6, 2)
	l := x.x.Numbers()
	for i := range l {
		l[i] = 9
	}
	if len(append(l, 9, 9, 9)) != 5 {
		t.Error("append")
	}
	x.numbers(1, 2)
	s := far(0, 5, 80, 501, iss+1, "")
	s.Opts.Sacks = append(make([]api.Range, 0, 4), api.Range{From: iss + 3, To: iss + 4})
	x.take(there, s, 0, 1)
	if s.Opts.Sacks[0] != (api.Range{From: iss + 3, To: iss + 4}) || s.Opts.Sacks[:2][1] != (api.Range{}) {
		t.Errorf("%v", s.Opts.Sacks[:2])
	}
	out := x.x.Tick(8)
	if len(out) != 1 {
		t.Fatal(out)
	}
	out[0] = api.Out{}
	at := first(set.Key, api.Ends{IP: here, Port: 80, FarIP: there, FarPort: 6}, 0)
	x.tick(24, to(there, answer(80, 6, at))...)
}
