package tests

import (
	"math"
	"slices"
	"strings"
	"testing"

	"loop.example/g00232/impl"
)

func late(num int, text string) impl.Late { return impl.Late{Num: num, Text: text} }

// openStream is one whose numbers are unlike each other, so that one in the
// place of another is told.
func openStream() impl.Stream {
	return impl.Stream{State: impl.StOpen, Iss: 100, Una: 101, Rcv: 501}
}

func inState(state int) impl.Stream {
	x := openStream()
	x.State = state
	return x
}

func waiting(wait string, sent, fin int) impl.Stream {
	x := openStream()
	x.Wait, x.Sent, x.Fin = wait, sent, fin
	return x
}

// early is an open stream that has these, at Rcv 501.
func early(list ...impl.Late) impl.Stream {
	x := openStream()
	x.In, x.Late = "in", list
	return x
}

func changed(x impl.Stream, change func(*impl.Stream)) impl.Stream {
	x = copyOfStream(x)
	change(&x)
	return x
}

func copyOfStream(x impl.Stream) impl.Stream {
	x.Wait, x.In, x.Late = strings.Clone(x.Wait), strings.Clone(x.In), slices.Clone(x.Late)
	for at := range x.Late {
		x.Late[at].Text = strings.Clone(x.Late[at].Text)
	}
	return x
}

func sameStream(a, b impl.Stream) bool {
	return a.State == b.State && a.Iss == b.Iss && a.Una == b.Una && a.Rcv == b.Rcv &&
		a.Wait == b.Wait && a.Sent == b.Sent && a.Fin == b.Fin && a.PeerFin == b.PeerFin &&
		a.In == b.In && slices.Equal(a.Late, b.Late) && a.Owe == b.Owe && a.Due == b.Due && a.Times == b.Times
}

func within(n, low, high int) bool { return low <= n && n <= high }

func plainStreamOk(x impl.Stream) bool {
	for _, n := range []int{x.Iss, x.Una, x.Rcv} {
		if !within(n, 0, 65535) {
			return false
		}
	}
	if !within(x.State, 0, 4) || !within(x.Fin, 0, 3) || !within(x.Due, 0, 1000000000) || !within(x.Times, 0, 12) {
		return false
	}
	if len(x.Wait) > 200 || len(x.In) > 1000 || len(x.Late) > 8 || x.Sent < 0 || x.Sent > 24 || x.Sent > len(x.Wait) {
		return false
	}
	if x.Fin == 2 && x.Sent < len(x.Wait) || x.Fin == 3 && x.Wait != "" {
		return false
	}
	return !slices.ContainsFunc(x.Late, func(l impl.Late) bool {
		return !within(l.Num, 0, 65535) || !within(len(l.Text), 1, 8)
	})
}

// plainPause is written out: 2, 4, 8 and so on up to 64.
func plainPause(times int) int {
	return []int{1, 2, 4, 8, 16, 32, 64, 64, 64, 64, 64, 64, 64}[times]
}

func plainPush(x impl.Stream, now int) (impl.Stream, []impl.Seg) {
	x = copyOfStream(x)
	if !plainStreamOk(x) || !within(now, 0, 999999900) {
		return x, nil
	}
	due, out := x.Due <= now && x.Times < 12, []impl.Seg{}
	switch {
	case x.State == 2 && due:
		out = append(out, seg(x.Iss, 0, 1, ""))
	case x.State == 3 && due:
		out = append(out, seg(x.Iss, x.Rcv, 3, ""))
	case x.State == 4:
		out = plainPoured(&x, due)
	}
	if len(out) > 0 {
		x.Times = min(x.Times+1, 12)
		x.Due = now + plainPause(x.Times)
	}
	if x.State != 4 {
		return x, out
	}
	if len(out) == 0 && x.Owe {
		out = append(out, seg(plainFlight(x), x.Rcv, 2, ""))
	}
	x.Owe = false
	return x, out
}

// plainFlight is the number behind all that was sent.
func plainFlight(x impl.Stream) int {
	number := x.Una + x.Sent
	if x.Fin == 2 {
		number++
	}
	return number % 65536
}

// plainPoured goes on byte by byte, and cuts where a part has 8 bytes, or the
// last one that may be sent.
func plainPoured(x *impl.Stream, due bool) []impl.Seg {
	if due && x.Fin == 2 {
		x.Fin, x.Sent = 1, 0
	}
	if due {
		x.Sent = 0
	}
	out, part := []impl.Seg{}, ""
	for at := x.Sent; at < len(x.Wait) && at < 24; at++ {
		part += x.Wait[at : at+1]
		if x.Sent = at + 1; len(part) == 8 || x.Sent == 24 || x.Sent == len(x.Wait) {
			out = append(out, seg((x.Una+x.Sent-len(part))%65536, x.Rcv, 2, part))
			part = ""
		}
	}
	if x.Fin == 1 && x.Sent == len(x.Wait) {
		out = append(out, seg((x.Una+len(x.Wait))%65536, x.Rcv, 6, ""))
		x.Fin = 2
	}
	return out
}

func plainHear(x impl.Stream, s impl.Seg) impl.Stream {
	was := copyOfStream(x)
	if !plainStreamOk(x) || !plainSegOk(s) {
		return was
	}
	x = copyOfStream(x)
	syn, ack := s.Flags%2 == 1, s.Flags/2%2 == 1
	opens := ack && s.Ack == (x.Iss+1)%65536
	switch {
	case x.State == 1 && syn && !ack:
		x.State, x.Rcv = 3, (s.Num+1)%65536
	case x.State == 2 && syn && opens:
		x.State, x.Rcv, x.Una, x.Owe, x.Times, x.Due = 4, (s.Num+1)%65536, s.Ack, true, 0, 0
	case x.State == 3 && syn:
		x.Times, x.Due = 0, 0
	case x.State == 4 && syn:
		x.Owe = true
	case x.State == 4:
		x = plainHearOpen(x, s)
	case x.State == 3 && opens:
		x.State, x.Una, x.Times, x.Due = 4, s.Ack, 0, 0
		x = plainHearOpen(x, s)
	}
	if len(x.In) > 1000 {
		return was
	}
	return x
}

func plainHearOpen(x impl.Stream, s impl.Seg) impl.Stream {
	if s.Flags/2%2 == 1 {
		plainAcked(&x, s.Ack)
	}
	if s.Body != "" {
		plainBody(&x, s.Num, s.Body)
	}
	if s.Flags < 4 {
		return x
	}
	x.Owe = true
	if !x.PeerFin && (s.Num+len(s.Body))%65536 == x.Rcv {
		x.PeerFin, x.Rcv = true, (x.Rcv+1)%65536
	}
	return x
}

// plainAcked takes one number after the other, up to the one that is told, if
// it is on the way.
func plainAcked(x *impl.Stream, ack int) {
	y := *x
	for y.Una != ack {
		switch {
		case y.Sent > 0:
			y.Wait, y.Sent = y.Wait[1:], y.Sent-1
		case y.Fin == 2:
			y.Fin = 3
		default:
			return
		}
		y.Una, y.Times = (y.Una+1)%65536, 0
	}
	*x = y
}

func plainAhead(num, rcv int) bool { return (rcv-num+65536)%65536 < 32768 }

// plainTake holds the number of each byte against Rcv.
func plainTake(x *impl.Stream, num int, text string) {
	for at := range len(text) {
		if (num+at)%65536 == x.Rcv {
			x.In, x.Rcv = x.In+text[at:at+1], (x.Rcv+1)%65536
		}
	}
}

func plainBody(x *impl.Stream, num int, text string) {
	x.Owe = true
	there := slices.ContainsFunc(x.Late, func(l impl.Late) bool { return l.Num == num })
	if plainAhead(num, x.Rcv) {
		plainTake(x, num, text)
	} else if (num-x.Rcv+65536)%65536 < 64 && len(x.Late) < 8 && !there {
		x.Late = append(x.Late, late(num, text))
	}
	for {
		at := slices.IndexFunc(x.Late, func(l impl.Late) bool { return plainAhead(l.Num, x.Rcv) })
		if at < 0 {
			return
		}
		plainTake(x, x.Late[at].Num, x.Late[at].Text)
		x.Late = slices.Concat(x.Late[:at], x.Late[at+1:])
	}
}

func wantStreamOk(t *testing.T, x impl.Stream, want bool) {
	t.Helper()
	if got := impl.StreamOk(x); got != want {
		t.Errorf("StreamOk(%.300v) is %v", x, got)
	}
}

func wantWrite(t *testing.T, x impl.Stream, s, wait string) {
	t.Helper()
	want := changed(x, func(x *impl.Stream) { x.Wait = wait })
	if got, ok := impl.Write(x, s); !ok || !sameStream(got, want) || !impl.StreamOk(got) {
		t.Errorf("Write(%.300v, %.80q) = %.300v, %v", x, s, got, ok)
	}
}

func wantNoWrite(t *testing.T, x impl.Stream, s string) {
	t.Helper()
	if got, ok := impl.Write(x, s); ok || !sameStream(got, x) {
		t.Errorf("Write(%.300v, %.80q) = %.300v, %v", x, s, got, ok)
	}
}

func wantShut(t *testing.T, x impl.Stream) {
	t.Helper()
	want := changed(x, func(x *impl.Stream) { x.Fin = impl.FinWanted })
	if got, ok := impl.Shut(x); !ok || !sameStream(got, want) || !impl.StreamOk(got) {
		t.Errorf("Shut(%.300v) = %.300v, %v", x, got, ok)
	}
}

func wantNoShut(t *testing.T, x impl.Stream) {
	t.Helper()
	if got, ok := impl.Shut(x); ok || !sameStream(got, x) {
		t.Errorf("Shut(%.300v) = %.300v, %v", x, got, ok)
	}
}

func wantPush(t *testing.T, x impl.Stream, now int, want impl.Stream, out ...impl.Seg) {
	t.Helper()
	got, segs := impl.Push(x, now)
	if !sameStream(got, want) || !slices.Equal(segs, out) {
		t.Errorf("Push(%.300v, %d) = %.300v, %.200v; want %.300v, %.200v", x, now, got, segs, want, out)
	}
}

// wantNoPush: nothing is sent, and nothing is another one.
func wantNoPush(t *testing.T, x impl.Stream, now int) {
	t.Helper()
	wantPush(t, x, now, x)
}

func wantHear(t *testing.T, x impl.Stream, s impl.Seg, want impl.Stream) {
	t.Helper()
	if got := impl.Hear(x, s); !sameStream(got, want) {
		t.Errorf("Hear(%.300v, %v) = %.300v; want %.300v", x, s, got, want)
	}
}

func wantHeard(t *testing.T, x impl.Stream, s impl.Seg, change func(*impl.Stream)) {
	t.Helper()
	wantHear(t, x, s, changed(x, change))
}

// wantNoHear: it is as it was, every field.
func wantNoHear(t *testing.T, x impl.Stream, s impl.Seg) {
	t.Helper()
	wantHear(t, x, s, x)
}

func wantEnded(t *testing.T, x impl.Stream, want bool) {
	t.Helper()
	if got := impl.Ended(x); got != want {
		t.Errorf("Ended(%.300v) is %v", x, got)
	}
}

// wantStreamAsPlain holds all that a stream does against the plain functions,
// and asks that it stays right, and that what came out of it stays.
func wantStreamAsPlain(t *testing.T, x impl.Stream, s impl.Seg, now int) (impl.Stream, impl.Stream) {
	t.Helper()
	right := plainStreamOk(x)
	wantStreamOk(t, x, right)
	pushed, out := plainPush(x, now)
	wantPush(t, x, now, pushed, out...)
	heard := plainHear(x, s)
	wantHear(t, x, s, heard)
	for _, segment := range out {
		wantSegOk(t, segment, true)
	}
	for _, y := range []impl.Stream{pushed, heard} {
		if right && (!impl.StreamOk(y) || !strings.HasPrefix(y.In, x.In)) {
			t.Errorf("of %.300v came %.300v, by %v or at %d", x, y, s, now)
		}
	}
	return pushed, heard
}

func TestStreamConstants(t *testing.T) {
	if impl.StIdle != 0 || impl.StListen != 1 || impl.StAsked != 2 || impl.StHeard != 3 || impl.StOpen != 4 {
		t.Error("a state is another number")
	}
	if impl.FinNone != 0 || impl.FinWanted != 1 || impl.FinSent != 2 || impl.FinDone != 3 {
		t.Error("a Fin is another number")
	}
	if impl.MaxFlight != 24 || impl.MaxTimes != 12 || impl.MaxWait != 200 {
		t.Error("a limit of streams is another number")
	}
}

func TestStreamNew(t *testing.T) {
	for _, iss := range rightNums() {
		for ask, state := range map[bool]int{false: impl.StListen, true: impl.StAsked} {
			got, ok := impl.StreamNew(iss, ask)
			if !ok || !sameStream(got, impl.Stream{State: state, Iss: iss, Una: iss}) || !impl.StreamOk(got) {
				t.Errorf("StreamNew(%d, %v) = %v, %v", iss, ask, got, ok)
			}
		}
	}
	for _, iss := range append([]int{-1, 65536}, oddNums()...) {
		for _, ask := range []bool{false, true} {
			if got, ok := impl.StreamNew(iss, ask); ok || !sameStream(got, impl.Stream{}) {
				t.Errorf("StreamNew(%d, %v) = %v, %v", iss, ask, got, ok)
			}
		}
	}
}

// streamFields are the numbers of a stream that have limits of their own.
func streamFields() map[string]func(*impl.Stream) *int {
	return map[string]func(*impl.Stream) *int{
		"State": func(x *impl.Stream) *int { return &x.State },
		"Iss":   func(x *impl.Stream) *int { return &x.Iss },
		"Una":   func(x *impl.Stream) *int { return &x.Una },
		"Rcv":   func(x *impl.Stream) *int { return &x.Rcv },
		"Fin":   func(x *impl.Stream) *int { return &x.Fin },
		"Due":   func(x *impl.Stream) *int { return &x.Due },
		"Times": func(x *impl.Stream) *int { return &x.Times },
	}
}

func TestStreamOkOfEachLimit(t *testing.T) {
	limits := map[string]int{"State": 4, "Iss": 65535, "Una": 65535, "Rcv": 65535, "Fin": 3, "Due": 1000000000, "Times": 12}
	for name, field := range streamFields() {
		limit := limits[name]
		for n, right := range map[int]bool{
			-1: false, 0: true, 1: true, limit - 1: true, limit: true, limit + 1: false,
			math.MinInt: false, math.MaxInt: false, 1 << 32: false, -limit: false, -1 << 32: false, math.MinInt + limit: false,
		} {
			for _, x := range []impl.Stream{{}, openStream()} {
				*field(&x) = n
				wantStreamOk(t, x, right)
			}
		}
	}
}

func TestStreamOkOfWaitAndSent(t *testing.T) {
	for _, length := range []int{0, 1, 2, 8, 9, 23, 24, 25, 26, 199, 200} {
		limit := min(length, 24)
		for sent := -2; sent <= length+2; sent++ {
			wantStreamOk(t, waiting(mixedBytes(length), sent, impl.FinNone), 0 <= sent && sent <= limit)
			wantStreamOk(t, waiting(mixedBytes(length), sent, impl.FinWanted), 0 <= sent && sent <= limit)
		}
		for _, sent := range []int{math.MinInt, math.MaxInt, 1 << 32, -1 << 32} {
			wantStreamOk(t, waiting(mixedBytes(length), sent, impl.FinNone), false)
		}
	}
	for _, length := range []int{201, 202, 256, 400, 20001} {
		for _, sent := range []int{0, 1, 24} {
			wantStreamOk(t, waiting(mixedBytes(length), sent, impl.FinNone), false)
		}
	}
}

func TestStreamOkOfFins(t *testing.T) {
	for _, length := range []int{0, 1, 2, 8, 23, 24, 25, 200} {
		wait := mixedBytes(length)
		for sent := 0; sent <= min(length, 24); sent++ {
			wantStreamOk(t, waiting(wait, sent, impl.FinNone), true)
			wantStreamOk(t, waiting(wait, sent, impl.FinWanted), true)
			wantStreamOk(t, waiting(wait, sent, impl.FinSent), sent == length)
			wantStreamOk(t, waiting(wait, sent, impl.FinDone), length == 0)
			wantStreamOk(t, waiting(wait, sent, impl.FinDone+1), false)
			wantStreamOk(t, waiting(wait, sent, -1), false)
		}
	}
}

func TestStreamOkOfIn(t *testing.T) {
	for length, right := range map[int]bool{0: true, 1: true, 999: true, 1000: true, 1001: false, 1002: false, 20001: false} {
		wantStreamOk(t, changed(openStream(), func(x *impl.Stream) { x.In = mixedBytes(length) }), right)
	}
}

func lates(count int) []impl.Late {
	list := []impl.Late{}
	for at := range count {
		list = append(list, late(510+9*at, mixedBytes(1+at%8)))
	}
	return list
}

func TestStreamOkOfLate(t *testing.T) {
	for count := range 20 {
		wantStreamOk(t, early(lates(count)...), count <= 8)
		wantStreamOk(t, early(slices.Repeat([]impl.Late{late(1, "x")}, count)...), count <= 8)
	}
	for length, right := range map[int]bool{0: false, 1: true, 2: true, 7: true, 8: true, 9: false, 16: false, 264: false} {
		for at := range 8 {
			list := lates(8)
			list[at].Text = mixedBytes(length)
			wantStreamOk(t, early(list...), right)
			wantStreamOk(t, early(list[:at+1]...), right)
		}
	}
	for _, n := range rightNums() {
		wantStreamOk(t, early(late(n, "x")), true)
		wantStreamOk(t, early(late(1, "y"), late(n, "x")), true)
	}
	for _, n := range append([]int{-1, 65536}, oddNums()...) {
		wantStreamOk(t, early(late(n, "x")), false)
		wantStreamOk(t, early(late(1, "y"), late(n, "x"), late(2, "y")), false)
	}
	// A stream without anything, and one of what is not limited.
	wantStreamOk(t, impl.Stream{}, true)
	wantStreamOk(t, changed(openStream(), func(x *impl.Stream) { x.Owe, x.PeerFin = true, true }), true)
}

// wrongStreams are right but for one thing each.
func wrongStreams() []impl.Stream {
	list := []impl.Stream{
		waiting(mixedBytes(201), 0, impl.FinNone), waiting("abc", 4, impl.FinNone), waiting("abc", -1, impl.FinNone), waiting(mixedBytes(40), 25, impl.FinNone),
		waiting("abc", 2, impl.FinSent), waiting("abc", 3, impl.FinDone), waiting(mixedBytes(40), 24, impl.FinSent),
		early(lates(9)...), early(late(510, "")), early(late(510, mixedBytes(9))), early(late(-1, "x")), early(late(65536, "x")),
	}
	list = append(list, changed(openStream(), func(x *impl.Stream) { x.In = mixedBytes(1001) }))
	for name, field := range streamFields() {
		for _, n := range []int{-1, math.MinInt, math.MaxInt, 1000000001} {
			for state := range 5 {
				x := inState(state)
				x.Wait, x.Owe, x.Late = "abc", true, []impl.Late{late(510, name)}
				*field(&x) = n
				list = append(list, x)
			}
		}
	}
	return list
}

func TestWrongStreams(t *testing.T) {
	for _, x := range wrongStreams() {
		wantStreamOk(t, x, false)
		wantNoWrite(t, x, "s")
		wantNoWrite(t, x, "")
		wantNoShut(t, x)
		for _, now := range []int{-1, 0, 5, 999999900, 1000000000} {
			wantNoPush(t, x, now)
		}
		for flags := range 8 {
			wantNoHear(t, x, seg(501, 0, flags, ""))
			wantNoHear(t, x, seg(501, 101*(flags/2%2), flags, strings.Repeat("b", 1-flags%2)))
		}
	}
}

func TestWrite(t *testing.T) {
	for _, state := range []int{impl.StIdle, impl.StListen, impl.StAsked, impl.StHeard, impl.StOpen} {
		x := inState(state)
		wantWrite(t, x, "hello", "hello")
		wantWrite(t, x, "", "")
		x.Wait, x.Sent, x.In, x.Late, x.Owe, x.Due, x.Times, x.PeerFin = "ab", 1, "in", lates(3), true, 7, 12, true
		wantWrite(t, x, "hello", "abhello")
		wantWrite(t, x, "\x00\xff", "ab\x00\xff")
		wantWrite(t, x, "", "ab")
	}
	for _, length := range []int{0, 1, 24, 25, 100, 199, 200} {
		wait, room := mixedBytes(length), 200-length
		for _, sent := range []int{0, min(length, 24)} {
			x := waiting(wait, sent, impl.FinNone)
			wantWrite(t, x, "", wait)
			wantWrite(t, x, mixedBytes(room), wait+mixedBytes(room))
			wantNoWrite(t, x, mixedBytes(room+1))
			wantNoWrite(t, x, mixedBytes(room+256))
			wantNoWrite(t, x, mixedBytes(20001))
		}
	}
}

func TestWriteBehindFin(t *testing.T) {
	for _, s := range []string{"", "x", mixedBytes(200), mixedBytes(201)} {
		for _, fin := range []int{impl.FinWanted, impl.FinSent, impl.FinDone} {
			wantNoWrite(t, waiting("", 0, fin), s)
		}
		wantNoWrite(t, waiting("ab", 1, impl.FinWanted), s)
		wantNoWrite(t, waiting("ab", 2, impl.FinSent), s)
	}
}

func TestShut(t *testing.T) {
	for state := range 5 {
		for _, wait := range []string{"", "abc", mixedBytes(200)} {
			x := waiting(wait, min(len(wait), 2), impl.FinNone)
			x.State, x.In, x.Late, x.Owe, x.Due, x.Times = state, "in", lates(2), true, 9, 3
			wantShut(t, x)
			shut, _ := impl.Shut(x)
			wantNoShut(t, shut)
			wantNoWrite(t, shut, "")
		}
		for _, fin := range []int{impl.FinWanted, impl.FinSent, impl.FinDone} {
			wantNoShut(t, changed(waiting("", 0, fin), func(x *impl.Stream) { x.State = state }))
		}
		wantNoShut(t, changed(waiting("ab", 1, impl.FinWanted), func(x *impl.Stream) { x.State = state }))
	}
}

func TestEnded(t *testing.T) {
	for state := range 5 {
		for fin := -1; fin <= 4; fin++ {
			for _, peer := range []bool{false, true} {
				x := waiting("", 0, fin)
				x.State, x.PeerFin = state, peer
				wantEnded(t, x, fin == impl.FinDone && peer)
			}
		}
	}
	wantEnded(t, impl.Stream{}, false)
	wantEnded(t, impl.Stream{Fin: impl.FinDone}, false)
	wantEnded(t, impl.Stream{PeerFin: true}, false)
	wantEnded(t, impl.Stream{Fin: impl.FinDone, PeerFin: true}, true)
}

func greeting(state int) impl.Seg {
	if state == impl.StAsked {
		return seg(100, 0, impl.FlagSyn, "")
	}
	return seg(100, 501, impl.FlagSyn+impl.FlagAck, "")
}

func TestPushOfGreetings(t *testing.T) {
	for _, state := range []int{impl.StAsked, impl.StHeard} {
		for _, now := range []int{0, 1, 50, 999999899, 999999900} {
			for _, due := range []int{now - 1, now} {
				if due >= 0 {
					x := changed(inState(state), func(x *impl.Stream) { x.Due = due })
					wantPush(t, x, now, changed(x, func(x *impl.Stream) { x.Times, x.Due = 1, now+2 }), greeting(state))
				}
			}
			wantNoPush(t, changed(inState(state), func(x *impl.Stream) { x.Due = now + 1 }), now)
			wantNoPush(t, changed(inState(state), func(x *impl.Stream) { x.Due = 1000000000 }), now)
		}
		x := changed(inState(state), func(x *impl.Stream) {
			x.Wait, x.Sent, x.Fin, x.Owe, x.PeerFin, x.In, x.Late = "abc", 3, impl.FinSent, true, true, "in", lates(8)
		})
		wantPush(t, x, 5, changed(x, func(x *impl.Stream) { x.Times, x.Due = 1, 7 }), greeting(state))
		// What is owed is no matter of these states.
		wantNoPush(t, changed(x, func(x *impl.Stream) { x.Due = 6 }), 5)
	}
}

func TestPushOfStatesThatSendNothing(t *testing.T) {
	for _, state := range []int{impl.StIdle, impl.StListen} {
		for _, fin := range []int{impl.FinNone, impl.FinWanted, impl.FinSent} {
			x := waiting("abc", 3, fin)
			x.State, x.Owe, x.Times = state, true, 1
			wantNoPush(t, x, 0)
			wantNoPush(t, x, 999999900)
			wantNoPush(t, inState(state), 0)
		}
	}
}

// Each number of times is told with what is waited then: 2 to it, 64 at most.
func TestPushOfEachTimes(t *testing.T) {
	pauses := []int{2, 4, 8, 16, 32, 64, 64, 64, 64, 64, 64, 64}
	for times, pause := range pauses {
		for _, now := range []int{0, 1000, 999999900} {
			behind := func(x *impl.Stream) { x.Times, x.Due = times+1, now+pause }
			for _, state := range []int{impl.StAsked, impl.StHeard} {
				x := changed(inState(state), func(x *impl.Stream) { x.Times = times })
				wantPush(t, x, now, changed(x, behind), greeting(state))
			}
			x := changed(waiting("abc", 3, impl.FinNone), func(x *impl.Stream) { x.Times, x.Due = times, now })
			wantPush(t, x, now, changed(x, behind), seg(101, 501, impl.FlagAck, "abc"))
			x = changed(waiting("abc", 0, impl.FinNone), func(x *impl.Stream) { x.Times, x.Due = times, now+9 })
			wantPush(t, x, now, changed(changed(x, behind), func(x *impl.Stream) { x.Sent = 3 }), seg(101, 501, impl.FlagAck, "abc"))
		}
	}
}

func TestPushAtMaxTimes(t *testing.T) {
	atMost := func(x impl.Stream) impl.Stream {
		return changed(x, func(x *impl.Stream) { x.Times, x.Due = 12, 0 })
	}
	for _, x := range []impl.Stream{inState(impl.StAsked), inState(impl.StHeard), waiting("abc", 3, impl.FinNone), waiting("abc", 3, impl.FinSent), waiting("", 0, impl.FinSent), openStream()} {
		wantNoPush(t, atMost(x), 0)
		wantNoPush(t, atMost(x), 999999900)
	}
	// What was never sent goes out still, and Times stays.
	x := atMost(waiting("0123456789", 8, impl.FinWanted))
	wantPush(t, x, 70, changed(x, func(x *impl.Stream) { x.Sent, x.Fin, x.Due = 10, impl.FinSent, 134 }), seg(109, 501, impl.FlagAck, "89"), seg(111, 501, 6, ""))
	x = changed(atMost(waiting("abc", 3, impl.FinSent)), func(x *impl.Stream) { x.Owe = true })
	wantPush(t, x, 70, changed(x, func(x *impl.Stream) { x.Owe = false }), seg(105, 501, impl.FlagAck, ""))
}

func TestPushAtWrongTimes(t *testing.T) {
	list := []impl.Stream{inState(impl.StAsked), inState(impl.StHeard), waiting("abc", 0, impl.FinWanted), waiting("abc", 3, impl.FinSent), changed(openStream(), func(x *impl.Stream) { x.Owe = true })}
	for _, x := range list {
		for _, now := range []int{-1, -2, math.MinInt, 999999901, 999999902, 1000000000, 1000000001, math.MaxInt, 1 << 32} {
			wantNoPush(t, x, now)
		}
		for _, now := range []int{0, 1, 999999899, 999999900} {
			if got, segs := impl.Push(x, now); len(segs) == 0 || !impl.StreamOk(got) {
				t.Errorf("Push(%v, %d) = %v, %v", x, now, got, segs)
			}
		}
	}
}

// What waits is sent in parts of 8 bytes, 24 bytes in all.
func TestPushOfWait(t *testing.T) {
	full := mixedBytes(200)
	for length, parts := range map[int][]int{
		1: {1}, 7: {7}, 8: {8}, 9: {8, 1}, 15: {8, 7}, 16: {8, 8}, 17: {8, 8, 1}, 23: {8, 8, 7}, 24: {8, 8, 8}, 25: {8, 8, 8}, 26: {8, 8, 8}, 200: {8, 8, 8},
	} {
		x := waiting(full[:length], 0, impl.FinNone)
		out, at := []impl.Seg{}, 0
		for _, part := range parts {
			out = append(out, seg(101+at, 501, impl.FlagAck, full[at:at+part]))
			at += part
		}
		then := changed(x, func(x *impl.Stream) { x.Sent, x.Times, x.Due = min(length, 24), 1, 12 })
		wantPush(t, x, 10, then, out...)
		wantNoPush(t, then, 10)
		wantNoPush(t, then, 11)
		wantPush(t, then, 12, changed(then, func(x *impl.Stream) { x.Times, x.Due = 2, 16 }), out...)
	}
	wantNoPush(t, openStream(), 10)
}

// What was sent is not sent anew ahead of its time: the parts begin at Sent.
func TestPushFromSentOn(t *testing.T) {
	full := mixedBytes(200)
	for _, length := range []int{1, 8, 9, 24, 25, 200} {
		limit := min(length, 24)
		for sent := 1; sent <= limit; sent++ {
			x := changed(waiting(full[:length], sent, impl.FinNone), func(x *impl.Stream) { x.Due, x.Times = 11, 2 })
			out := []impl.Seg{}
			for at := sent; at < limit; at += 8 {
				out = append(out, seg(101+at, 501, impl.FlagAck, full[at:min(at+8, limit)]))
			}
			if sent == limit {
				wantNoPush(t, x, 10)
				continue
			}
			wantPush(t, x, 10, changed(x, func(x *impl.Stream) { x.Sent, x.Times, x.Due = limit, 3, 18 }), out...)
		}
	}
	x := changed(waiting(full[:30], 22, impl.FinWanted), func(x *impl.Stream) { x.Due = 11 })
	wantPush(t, x, 10, changed(x, func(x *impl.Stream) { x.Sent, x.Times, x.Due = 24, 1, 12 }), seg(123, 501, 2, full[22:24]))
}

func TestPushSendsAgainWhenItIsDue(t *testing.T) {
	x := changed(waiting("0123456789", 5, impl.FinNone), func(x *impl.Stream) { x.Due, x.Times = 10, 11 })
	wantPush(t, x, 9, changed(x, func(x *impl.Stream) { x.Sent, x.Due, x.Times = 10, 73, 12 }), seg(106, 501, 2, "56789"))
	for _, now := range []int{10, 11, 999} {
		wantPush(t, x, now, changed(x, func(x *impl.Stream) { x.Sent, x.Due, x.Times = 10, now+64, 12 }), seg(101, 501, 2, "01234567"), seg(109, 501, 2, "89"))
	}
	x.Times = 12
	wantPush(t, x, 10, changed(x, func(x *impl.Stream) { x.Sent, x.Due = 10, 74 }), seg(106, 501, 2, "56789"))
	// Nothing was sent yet: what is due is not sent again, but at first.
	x = changed(waiting("012", 0, impl.FinNone), func(x *impl.Stream) { x.Due, x.Times = 50, 3 })
	wantPush(t, x, 10, changed(x, func(x *impl.Stream) { x.Sent, x.Due, x.Times = 3, 26, 4 }), seg(101, 501, 2, "012"))
}

func TestPushOfFin(t *testing.T) {
	full := mixedBytes(200)
	for _, length := range []int{0, 1, 8, 9, 23, 24, 25, 200} {
		for _, sent := range []int{0, min(length, 3), min(length, 24)} {
			x := changed(waiting(full[:length], sent, impl.FinWanted), func(x *impl.Stream) { x.Due = 11 })
			got, out := impl.Push(x, 10)
			if last := len(out) - 1; length <= 24 {
				if got.Fin != impl.FinSent || last < 0 || out[last] != seg(101+length, 501, 6, "") {
					t.Errorf("Push(%.300v, 10) = %.300v, %v", x, got, out)
				}
				out = out[:last]
			} else if got.Fin != impl.FinWanted {
				t.Errorf("Push(%.300v, 10) = %.300v, %v", x, got, out)
			}
			if slices.ContainsFunc(out, func(s impl.Seg) bool { return s.Flags != impl.FlagAck }) {
				t.Errorf("Push(%.300v, 10) sends %v", x, out)
			}
		}
	}
	sent := changed(waiting("abc", 3, impl.FinSent), func(x *impl.Stream) { x.Due, x.Times = 10, 1 })
	wantNoPush(t, sent, 9)
	wantPush(t, sent, 10, changed(sent, func(x *impl.Stream) { x.Due, x.Times = 14, 2 }), seg(101, 501, 2, "abc"), seg(104, 501, 6, ""))
	alone := changed(waiting("", 0, impl.FinSent), func(x *impl.Stream) { x.Due, x.Times = 10, 1 })
	wantNoPush(t, alone, 9)
	wantPush(t, alone, 10, changed(alone, func(x *impl.Stream) { x.Due, x.Times = 14, 2 }), seg(101, 501, 6, ""))
	for _, fin := range []int{impl.FinNone, impl.FinDone} {
		wantNoPush(t, waiting("", 0, fin), 10)
	}
}

func TestPushOfWhatIsOwed(t *testing.T) {
	owing := func(x impl.Stream) impl.Stream {
		return changed(x, func(x *impl.Stream) { x.Owe, x.Due, x.Times = true, 20, 5 })
	}
	paid := func(x *impl.Stream) { x.Owe = false }
	for _, sent := range []int{0, 1, 8, 24} {
		wait := mixedBytes(sent)
		for fin, num := range map[int]int{impl.FinNone: 101 + sent, impl.FinSent: 102 + sent} {
			x := owing(waiting(wait, sent, fin))
			wantPush(t, x, 10, changed(x, paid), seg(num, 501, impl.FlagAck, ""))
			wantNoPush(t, changed(x, paid), 10)
		}
	}
	x := owing(waiting("", 0, impl.FinDone))
	wantPush(t, x, 10, changed(x, paid), seg(101, 501, impl.FlagAck, ""))
	// Of a Wait that is longer than the flight, and all sent that may be.
	x = owing(waiting(mixedBytes(60), 24, impl.FinWanted))
	wantPush(t, x, 10, changed(x, paid), seg(125, 501, impl.FlagAck, ""))
	// With something to send that tells it, nothing more is sent.
	x = owing(waiting("abc", 1, impl.FinNone))
	wantPush(t, x, 10, changed(x, func(x *impl.Stream) { x.Sent, x.Owe, x.Due, x.Times = 3, false, 74, 6 }), seg(102, 501, 2, "bc"))
	x = owing(waiting("", 0, impl.FinWanted))
	wantPush(t, x, 10, changed(x, func(x *impl.Stream) { x.Fin, x.Owe, x.Due, x.Times = 2, false, 74, 6 }), seg(101, 501, 6, ""))
}

func TestPushOfNumbersThatGoRound(t *testing.T) {
	x := changed(waiting("0123456789abcdefghij", 0, impl.FinWanted), func(x *impl.Stream) { x.Una, x.Rcv = 65530, 65535 })
	then := changed(x, func(x *impl.Stream) { x.Sent, x.Fin, x.Times, x.Due = 20, impl.FinSent, 1, 2 })
	wantPush(t, x, 0, then, seg(65530, 65535, 2, "01234567"), seg(2, 65535, 2, "89abcdef"), seg(10, 65535, 2, "ghij"), seg(14, 65535, 6, ""))
	then.Owe = true
	wantPush(t, then, 0, changed(then, func(x *impl.Stream) { x.Owe = false }), seg(15, 65535, 2, ""))
	x = changed(waiting("", 0, impl.FinSent), func(x *impl.Stream) { x.Una, x.Owe, x.Due = 65535, true, 9 })
	wantPush(t, x, 0, changed(x, func(x *impl.Stream) { x.Owe = false }), seg(0, 501, 2, ""))
}

func flagged(flags int) impl.Seg {
	if flags/2%2 == 1 {
		return seg(900, 101, flags, "")
	}
	return seg(900, 0, flags, "")
}

func TestHearOfIdleStreams(t *testing.T) {
	for flags := range 8 {
		x := changed(waiting("ab", 2, impl.FinSent), func(x *impl.Stream) { x.State, x.Late = impl.StIdle, lates(3) })
		wantNoHear(t, x, flagged(flags))
		wantNoHear(t, impl.Stream{}, flagged(flags))
	}
	wantNoHear(t, inState(impl.StIdle), seg(501, 101, 6, "body"))
}

func TestHearOfListeningStreams(t *testing.T) {
	x := changed(inState(impl.StListen), func(x *impl.Stream) { x.Wait, x.Due, x.Times = "ab", 7, 3 })
	for flags := range 8 {
		if flags == 1 || flags == 5 {
			wantHeard(t, x, flagged(flags), func(x *impl.Stream) { x.State, x.Rcv = impl.StHeard, 901 })
			wantHeard(t, x, seg(65535, 0, flags, ""), func(x *impl.Stream) { x.State, x.Rcv = impl.StHeard, 0 })
			wantHeard(t, x, seg(0, 0, flags, ""), func(x *impl.Stream) { x.State, x.Rcv = impl.StHeard, 1 })
			continue
		}
		wantNoHear(t, x, flagged(flags))
		if flags%2 == 0 {
			wantNoHear(t, x, seg(501, 101*(flags/2%2), flags, "body"))
		}
	}
}

func TestHearOfAskingStreams(t *testing.T) {
	x := changed(inState(impl.StAsked), func(x *impl.Stream) { x.Una, x.Rcv, x.Wait, x.Due, x.Times = 100, 0, "ab", 7, 12 })
	for flags := range 8 {
		if flags == 3 || flags == 7 {
			wantHeard(t, x, flagged(flags), func(x *impl.Stream) {
				x.State, x.Rcv, x.Una, x.Owe, x.Times, x.Due = impl.StOpen, 901, 101, true, 0, 0
			})
			for _, ack := range []int{0, 99, 100, 102, 103, 65535} {
				wantNoHear(t, x, seg(900, ack, flags, ""))
			}
			continue
		}
		wantNoHear(t, x, flagged(flags))
		if flags%2 == 0 {
			wantNoHear(t, x, seg(501, 101*(flags/2%2), flags, "body"))
		}
	}
	x.Iss, x.Una = 65535, 65535
	wantHeard(t, x, seg(65535, 0, 3, ""), func(x *impl.Stream) {
		x.State, x.Rcv, x.Una, x.Owe, x.Times, x.Due = impl.StOpen, 0, 0, true, 0, 0
	})
	wantNoHear(t, x, seg(65535, 65535, 3, ""))
	wantNoHear(t, x, seg(65535, 1, 3, ""))
}

func TestHearOfStreamsThatHeard(t *testing.T) {
	x := changed(inState(impl.StHeard), func(x *impl.Stream) { x.Una, x.Wait, x.Due, x.Times = 100, "ab", 7, 12 })
	opened := func(x *impl.Stream) { x.State, x.Una, x.Times, x.Due = impl.StOpen, 101, 0, 0 }
	for _, flags := range []int{1, 3, 5, 7} {
		again := func(x *impl.Stream) { x.Due, x.Times = 0, 0 }
		wantHeard(t, x, flagged(flags), again)
		wantHeard(t, x, seg(500, 0, flags, ""), again)
	}
	for _, flags := range []int{0, 4} {
		for _, body := range []string{"", "x", "12345678"} {
			wantNoHear(t, x, seg(501, 0, flags, body))
		}
	}
	for _, ack := range []int{0, 99, 100, 102, 103, 65535} {
		for _, body := range []string{"", "x", "12345678"} {
			wantNoHear(t, x, seg(501, ack, 2, body))
			wantNoHear(t, x, seg(501, ack, 6, body))
		}
	}
	wantHeard(t, x, seg(501, 101, 2, ""), opened)
	wantHeard(t, x, seg(900, 101, 2, ""), opened)
	// The one that opens it brings what an open stream takes at once.
	wantHeard(t, x, seg(501, 101, 2, "body"), func(x *impl.Stream) { opened(x); x.In, x.Rcv, x.Owe = "body", 505, true })
	wantHeard(t, x, seg(501, 101, 6, "body"), func(x *impl.Stream) { opened(x); x.In, x.Rcv, x.Owe, x.PeerFin = "body", 506, true, true })
	wantHeard(t, x, seg(503, 101, 2, "body"), func(x *impl.Stream) { opened(x); x.Late, x.Owe = []impl.Late{late(503, "body")}, true })
	wantHeard(t, x, seg(501, 101, 6, ""), func(x *impl.Stream) { opened(x); x.Rcv, x.Owe, x.PeerFin = 502, true, true })
	// It is as it was, the State too, when that would be too much.
	wantNoHear(t, changed(x, func(x *impl.Stream) { x.In = mixedBytes(997) }), seg(501, 101, 6, "body"))
	x.Iss = 65535
	wantHeard(t, x, seg(501, 0, 2, ""), func(x *impl.Stream) { opened(x); x.Una = 0 })
	wantNoHear(t, x, seg(501, 65535, 2, ""))
}

func TestHearOfOpenStreamsByFlags(t *testing.T) {
	x := changed(waiting("ab", 2, impl.FinNone), func(x *impl.Stream) { x.Due, x.Times, x.Late = 7, 12, []impl.Late{late(510, "z")} })
	owes := func(x *impl.Stream) { x.Owe = true }
	for _, flags := range []int{1, 3, 5, 7} {
		ack := 102 * (flags / 2 % 2)
		wantHeard(t, x, seg(501, ack, flags, ""), owes)
		wantHeard(t, x, seg(500, ack, flags, ""), owes)
	}
	wantNoHear(t, x, seg(501, 0, 0, ""))
	wantNoHear(t, x, seg(505, 0, 0, ""))
	wantHeard(t, x, seg(501, 102, 2, ""), func(x *impl.Stream) { x.Wait, x.Sent, x.Una, x.Times = "b", 1, 102, 0 })
	wantHeard(t, x, seg(501, 0, 4, ""), func(x *impl.Stream) { x.Owe, x.PeerFin, x.Rcv = true, true, 502 })
	wantHeard(t, x, seg(501, 102, 6, ""), func(x *impl.Stream) {
		x.Wait, x.Sent, x.Una, x.Times, x.Owe, x.PeerFin, x.Rcv = "b", 1, 102, 0, true, true, 502
	})
	wantHeard(t, x, seg(501, 0, 0, "q"), func(x *impl.Stream) { x.Owe, x.In, x.Rcv = true, "q", 502 })
	wantHeard(t, x, seg(501, 102, 2, "q"), func(x *impl.Stream) {
		x.Wait, x.Sent, x.Una, x.Times, x.Owe, x.In, x.Rcv = "b", 1, 102, 0, true, "q", 502
	})
}

// An acknowledgement takes what was sent, and nothing that was not.
func TestHearOfAcks(t *testing.T) {
	full := mixedBytes(40)
	for _, una := range []int{101, 0, 65520, 65535} {
		for _, sent := range []int{0, 1, 8, 23, 24} {
			for _, length := range []int{sent, sent + 1, 40} {
				x := changed(waiting(full[:length], sent, impl.FinNone), func(x *impl.Stream) { x.Una, x.Times, x.Due = una, 5, 77 })
				for _, by := range []int{-32768, -64, -1, 0, sent + 1, sent + 2, 100, 32767, 32768} {
					wantNoHear(t, x, seg(501, (una+by+65536)%65536, 2, ""))
				}
				for n := 1; n <= sent; n++ {
					ack := (una + n) % 65536
					wantHeard(t, x, seg(501, ack, 2, ""), func(x *impl.Stream) {
						x.Wait, x.Sent, x.Una, x.Times = full[n:length], sent-n, ack, 0
					})
				}
			}
		}
	}
}

func TestHearOfAcksOfFin(t *testing.T) {
	for _, una := range []int{101, 0, 65533, 65535} {
		for _, wait := range []string{"", "a", "abc", mixedBytes(24)} {
			length := len(wait)
			x := changed(waiting(wait, length, impl.FinSent), func(x *impl.Stream) { x.Una, x.Times, x.Due = una, 5, 77 })
			ackOf := func(n int) int { return (una + n + 65536) % 65536 }
			for n := 1; n <= length; n++ {
				wantHeard(t, x, seg(501, ackOf(n), 2, ""), func(x *impl.Stream) {
					x.Wait, x.Sent, x.Una, x.Times = wait[n:], length-n, ackOf(n), 0
				})
			}
			wantHeard(t, x, seg(501, ackOf(length+1), 2, ""), func(x *impl.Stream) {
				x.Wait, x.Sent, x.Una, x.Times, x.Fin = "", 0, ackOf(length+1), 0, impl.FinDone
			})
			for _, by := range []int{-1, 0, length + 2, length + 3, 32768} {
				wantNoHear(t, x, seg(501, ackOf(by), 2, ""))
			}
			for _, fin := range []int{impl.FinNone, impl.FinWanted} {
				x.Fin = fin
				wantNoHear(t, x, seg(501, ackOf(length+1), 2, ""))
			}
		}
	}
	done := waiting("", 0, impl.FinDone)
	for _, ack := range []int{100, 101, 102, 103} {
		wantNoHear(t, done, seg(501, ack, 2, ""))
	}
}

// A Body that begins ahead of Rcv has something new, or nothing; how far ahead
// it is makes no difference below half of the round.
func TestHearOfBodiesAheadOfRcv(t *testing.T) {
	for _, rcv := range []int{501, 0, 3, 65535, 40000} {
		x := changed(openStream(), func(x *impl.Stream) { x.Rcv, x.In, x.Times, x.Due = rcv, "in", 3, 9 })
		for _, by := range []int{0, 1, 3, 4, 6, 7, 8, 9, 63, 64, 65, 1000, 32766, 32767} {
			s := seg((rcv-by+65536)%65536, 0, 0, "01234567")
			fresh := "01234567"[min(by, 8):]
			wantHeard(t, x, s, func(x *impl.Stream) {
				x.Owe, x.In, x.Rcv = true, "in"+fresh, (rcv+len(fresh))%65536
			})
		}
	}
}

func TestHearOfBodiesBehindRcv(t *testing.T) {
	for _, rcv := range []int{501, 0, 65535, 65480, 40000} {
		x := changed(openStream(), func(x *impl.Stream) { x.Rcv, x.In, x.Times, x.Due = rcv, "in", 3, 9 })
		for _, body := range []string{"x", "01234567"} {
			for _, by := range []int{1, 2, 8, 62, 63} {
				num := (rcv + by) % 65536
				wantHeard(t, x, seg(num, 0, 0, body), func(x *impl.Stream) { x.Owe, x.Late = true, []impl.Late{late(num, body)} })
			}
			for _, by := range []int{64, 65, 1000, 32767, 32768} {
				wantHeard(t, x, seg((rcv+by)%65536, 0, 0, body), func(x *impl.Stream) { x.Owe = true })
			}
			// Beyond half of the round it is ahead, and all of it came already.
			for _, by := range []int{32769, 40000, 65520} {
				wantHeard(t, x, seg((rcv+by)%65536, 0, 0, body), func(x *impl.Stream) { x.Owe = true })
			}
		}
		// Without a Body there is nothing to keep.
		for _, by := range []int{0, 1, 63, 64} {
			wantNoHear(t, x, seg((rcv+by)%65536, 0, 0, ""))
			wantNoHear(t, x, seg((rcv+by)%65536, 101, 2, ""))
		}
	}
}

func TestHearOfTheSameOneEarlyTwice(t *testing.T) {
	x := early(late(510, "abc"), late(520, "d"))
	for _, body := range []string{"abc", "z", "01234567"} {
		wantHeard(t, x, seg(510, 0, 0, body), func(x *impl.Stream) { x.Owe = true })
		wantHeard(t, x, seg(520, 0, 0, body), func(x *impl.Stream) { x.Owe = true })
		wantHeard(t, x, seg(511, 0, 0, body), func(x *impl.Stream) { x.Owe, x.Late = true, append(x.Late, late(511, body)) })
		wantHeard(t, x, seg(509, 0, 0, body), func(x *impl.Stream) { x.Owe, x.Late = true, append(x.Late, late(509, body)) })
	}
}

func TestHearOfManyEarlyOnes(t *testing.T) {
	x := openStream()
	want := []impl.Late{}
	for at := range 12 {
		s := seg(560-3*at, 0, 0, mixedBytes(1+at%8))
		if at < 8 {
			want = append(want, late(s.Num, s.Body))
		}
		wantHeard(t, x, s, func(x *impl.Stream) { x.Owe, x.Late = true, slices.Clone(want) })
		x = impl.Hear(x, s)
	}
	// One that is in time is taken still, and makes room.
	x = early(late(502, "b"), late(503, "c"), late(510, "1"), late(511, "2"), late(512, "3"), late(513, "4"), late(514, "5"), late(515, "6"))
	wantHeard(t, x, seg(509, 0, 0, "z"), func(x *impl.Stream) { x.Owe = true })
	wantHeard(t, x, seg(501, 0, 0, "a"), func(x *impl.Stream) { x.Owe, x.In, x.Rcv, x.Late = true, "inabc", 504, x.Late[2:] })
}

func TestHearTakesEarlyOnes(t *testing.T) {
	took := func(in string, left ...impl.Late) func(*impl.Stream) {
		return func(x *impl.Stream) { x.Owe, x.In, x.Rcv, x.Late = true, "in"+in, 501+len(in), left }
	}
	far := late(530, "far")
	wantHeard(t, early(late(503, "cd")), seg(501, 0, 0, "ab"), took("abcd"))
	wantHeard(t, early(late(504, "cd")), seg(501, 0, 0, "ab"), took("ab", late(504, "cd")))
	wantHeard(t, early(far, late(503, "cd"), late(505, "ef")), seg(501, 0, 0, "ab"), took("abcdef", far))
	// One that stands ahead in the list is reached by one behind it.
	wantHeard(t, early(late(505, "ef"), far, late(503, "cd")), seg(501, 0, 0, "ab"), took("abcdef", far))
	wantHeard(t, early(late(507, "gh"), late(505, "ef"), late(503, "cd")), seg(501, 0, 0, "ab"), took("abcdefgh"))
	// Of several the first one counts; what another one says there is passed by.
	wantHeard(t, early(late(503, "CD"), late(502, "bcdef")), seg(501, 0, 0, "ab"), took("abCDef"))
	wantHeard(t, early(late(502, "bcdef"), late(503, "CD")), seg(501, 0, 0, "ab"), took("abcdef"))
	wantHeard(t, early(late(503, "CD"), late(504, "xef"), late(503, "yzEF")), seg(501, 0, 0, "ab"), took("abCDef"))
	// Those that have nothing new go, too.
	wantHeard(t, early(late(502, "b"), late(503, "c"), far), seg(501, 0, 0, "abcd"), took("abcd", far))
	wantHeard(t, early(late(502, "b"), far, late(504, "de")), seg(501, 0, 0, "abcd"), took("abcde", far))
	// Such as begin at Rcv or ahead go also when what came has nothing new, or is early itself.
	wantHeard(t, early(late(501, "ab"), late(499, "xyABc"), late(400, "q"), far), seg(490, 0, 0, "z"), took("abc", far))
	wantHeard(t, early(late(501, "ab"), far), seg(503, 0, 0, "cd"), took("abcd", far))
	wantHeard(t, early(late(501, "ab"), far), seg(600, 0, 0, "cd"), took("ab", far))
	wantHeard(t, early(late(501, "ab"), far), seg(501, 0, 0, "ABC"), took("ABC", far))
	// One that is half of the round behind stays, one that is one more goes.
	wantHeard(t, early(late(33270, "h"), late(33271, "i")), seg(501, 0, 0, "a"), took("a", late(33270, "h")))
}

func TestHearOfEarlyOnesThatGoRound(t *testing.T) {
	x := changed(openStream(), func(x *impl.Stream) { x.Rcv = 65533 })
	x = impl.Hear(x, seg(5, 0, 0, "ijkl"))
	x = impl.Hear(x, seg(65535, 0, 0, "cd"))
	wantHeard(t, x, seg(1, 0, 0, "efgh"), func(x *impl.Stream) { x.Late = append(x.Late, late(1, "efgh")) })
	x = impl.Hear(x, seg(1, 0, 0, "efgh"))
	wantHeard(t, x, seg(65533, 0, 0, "ab"), func(x *impl.Stream) { x.In, x.Rcv, x.Late = "abcdefghijkl", 9, nil })
	wantHeard(t, x, seg(65530, 0, 0, "...abCDE"), func(x *impl.Stream) { x.In, x.Rcv, x.Late = "abCDEfghijkl", 9, nil })
}

// Without a Body no early one is taken: these are the Body's matter.
func TestHearWithoutABodyLeavesEarlyOnes(t *testing.T) {
	x := early(late(501, "ab"), late(502, "b"))
	wantNoHear(t, x, seg(501, 0, 0, ""))
	wantNoHear(t, x, seg(501, 101, 2, ""))
	wantHeard(t, x, seg(501, 0, 4, ""), func(x *impl.Stream) { x.Owe, x.PeerFin, x.Rcv = true, true, 502 })
	wantHeard(t, x, seg(502, 0, 4, ""), func(x *impl.Stream) { x.Owe = true })
}

func TestHearOfFins(t *testing.T) {
	x := early(late(503, "cd"))
	ended := func(in string, left ...impl.Late) func(*impl.Stream) {
		return func(x *impl.Stream) {
			x.Owe, x.PeerFin, x.In, x.Rcv, x.Late = true, true, "in"+in, 502+len(in), left
		}
	}
	owes := func(x *impl.Stream) { x.Owe = true }
	for _, flags := range []int{4, 6} {
		ack := 101 * (flags / 2 % 2)
		wantHeard(t, x, seg(501, ack, flags, ""), ended("", late(503, "cd")))
		wantHeard(t, x, seg(501, ack, flags, "a"), ended("a", late(503, "cd")))
		// Early ones that are taken bring Rcv beyond where this one ends.
		wantHeard(t, x, seg(501, ack, flags, "ab"), func(x *impl.Stream) { x.Owe, x.In, x.Rcv, x.Late = true, "inabcd", 505, nil })
		wantHeard(t, x, seg(498, ack, flags, "xyz"), ended("", late(503, "cd")))
		wantHeard(t, x, seg(499, ack, flags, "xyABCdef"), ended("ABCdef"))
		for _, num := range []int{500, 502, 505, 499, 565, 33269, 33270} {
			wantHeard(t, x, seg(num, ack, flags, ""), owes)
		}
		wantHeard(t, x, seg(498, ack, flags, "xy"), owes)
		wantHeard(t, x, seg(505, ack, flags, "ef"), func(x *impl.Stream) { x.Owe, x.Late = true, append(x.Late, late(505, "ef")) })
		// It comes twice.
		twice := changed(x, ended(""))
		wantHeard(t, twice, seg(501, ack, flags, ""), owes)
		wantHeard(t, twice, seg(502, ack, flags, ""), owes)
		wantHeard(t, twice, seg(502, ack, flags, "a"), func(x *impl.Stream) { x.Owe, x.In, x.Rcv = true, "ina", 503 })
	}
	// An early text that is taken ends where the one of FlagFin does.
	wantHeard(t, early(late(502, "bc")), seg(501, 0, 4, "abc"), ended("abc"))
	wantHeard(t, early(late(501, "abcd")), seg(503, 0, 4, "cd"), ended("abcd"))
	for _, rcv := range []int{65535, 0, 65530} {
		x := changed(openStream(), func(x *impl.Stream) { x.Rcv = rcv })
		wantHeard(t, x, seg(rcv, 0, 4, ""), func(x *impl.Stream) { x.Owe, x.PeerFin, x.Rcv = true, true, (rcv+1)%65536 })
		wantHeard(t, x, seg(rcv, 0, 4, "abcdef"), func(x *impl.Stream) {
			x.Owe, x.PeerFin, x.In, x.Rcv = true, true, "abcdef", (rcv+7)%65536
		})
	}
}

func TestHearOfAFullIn(t *testing.T) {
	with := func(length int, list ...impl.Late) impl.Stream {
		x := waiting("abc", 3, impl.FinSent)
		x.In, x.Late, x.Due, x.Times = mixedBytes(length), list, 9, 4
		return x
	}
	for _, length := range []int{991, 992, 993, 999, 1000} {
		for size := 1; size <= 8; size++ {
			body := mixedBytes(size)
			for _, flags := range []int{0, 2, 4, 6} {
				s := seg(501, 105*(flags/2%2), flags, body)
				x := with(length)
				if length+size > 1000 {
					wantNoHear(t, x, s)
				} else if got := impl.Hear(x, s); got.In != x.In+body || !impl.StreamOk(got) {
					t.Errorf("Hear(%.300v, %v) = %.300v", x, s, got)
				}
			}
		}
	}
	owes := func(x *impl.Stream) { x.Owe = true }
	wantHeard(t, with(1000), seg(493, 0, 0, "01234567"), owes)
	wantNoHear(t, with(1000), seg(494, 0, 0, "01234567"))
	wantHeard(t, with(1000), seg(502, 0, 0, "x"), func(x *impl.Stream) { x.Owe, x.Late = true, []impl.Late{late(502, "x")} })
	wantHeard(t, with(1000), seg(501, 0, 4, ""), func(x *impl.Stream) { x.Owe, x.PeerFin, x.Rcv = true, true, 502 })
	// What comes has room, an early one behind it has not.
	wantHeard(t, with(996, late(503, "cd")), seg(501, 0, 0, "ab"), func(x *impl.Stream) { x.Owe, x.In, x.Rcv, x.Late = true, x.In+"abcd", 505, nil })
	wantNoHear(t, with(997, late(503, "cd")), seg(501, 105, 6, "ab"))
	wantNoHear(t, with(996, late(503, "cd"), late(505, "e")), seg(501, 105, 6, "ab"))
	wantNoHear(t, with(1000, late(501, "e")), seg(600, 105, 6, "ab"))
	wantHeard(t, with(1000, late(500, "e")), seg(600, 0, 0, "ab"), func(x *impl.Stream) { x.Owe, x.Late = true, nil })
}

func TestHearOfWrongSegs(t *testing.T) {
	for state := range 5 {
		x := changed(waiting("ab", 2, impl.FinSent), func(x *impl.Stream) { x.State, x.Late, x.Times, x.Due = state, lates(3), 2, 9 })
		for _, s := range wrongSegs() {
			wantNoHear(t, x, s)
		}
	}
}

// TestThreeSegmentsOpenTwoStreams goes through each of the numbers about the
// place where they go round.
func TestThreeSegmentsOpenTwoStreams(t *testing.T) {
	for _, a := range rightNums() {
		for _, b := range rightNums() {
			asks, _ := impl.StreamNew(a, true)
			listens, _ := impl.StreamNew(b, false)
			asks, first := impl.Push(asks, 0)
			if len(first) != 1 || first[0] != seg(a, 0, 1, "") {
				t.Fatalf("the first are %v", first)
			}
			listens = impl.Hear(listens, first[0])
			listens, second := impl.Push(listens, 0)
			if len(second) != 1 || second[0] != seg(b, (a+1)%65536, 3, "") || listens.State != impl.StHeard {
				t.Fatalf("the second are %v", second)
			}
			asks = impl.Hear(asks, second[0])
			asks, third := impl.Push(asks, 0)
			if len(third) != 1 || third[0] != seg((a+1)%65536, (b+1)%65536, 2, "") {
				t.Fatalf("the third are %v", third)
			}
			listens = impl.Hear(listens, third[0])
			want := impl.Stream{State: impl.StOpen, Iss: a, Una: (a + 1) % 65536, Rcv: (b + 1) % 65536}
			if !sameStream(asks, want) {
				t.Errorf("the one that asks is %v; want %v", asks, want)
			}
			want = impl.Stream{State: impl.StOpen, Iss: b, Una: (b + 1) % 65536, Rcv: (a + 1) % 65536}
			if !sameStream(listens, want) {
				t.Errorf("the one that listens is %v; want %v", listens, want)
			}
		}
	}
}

// A third one that is lost is told again: the one that heard asks once more.
func TestGreetingsThatAreLost(t *testing.T) {
	asks, _ := impl.StreamNew(9, true)
	listens, _ := impl.StreamNew(700, false)
	asks, first := impl.Push(asks, 0)
	asks, nothing := impl.Push(asks, 1)
	asks, again := impl.Push(asks, 2)
	if len(nothing) != 0 || !slices.Equal(first, again) {
		t.Fatalf("%v, %v and %v are pushed", first, nothing, again)
	}
	listens = impl.Hear(listens, first[0])
	listens, second := impl.Push(listens, 3)
	asks = impl.Hear(asks, second[0])
	asks, _ = impl.Push(asks, 3)
	listens = impl.Hear(listens, again[0])
	listens, second = impl.Push(listens, 3)
	if len(second) != 1 {
		t.Fatal("one that asks again is not answered")
	}
	asks = impl.Hear(asks, second[0])
	asks, third := impl.Push(asks, 4)
	if len(third) != 1 || third[0] != seg(10, 701, 2, "") || impl.Hear(listens, third[0]).State != impl.StOpen {
		t.Fatalf("%v are pushed at last", third)
	}
}

func drawnText(draw func(int) int, length int) string {
	out := make([]byte, length)
	for at := range out {
		out[at] = byte('a' + draw(26))
	}
	return string(out)
}

// drawnStream is a right one mostly, of a Una and a Rcv close to where numbers
// go round.
func drawnStream(draw func(int) int) impl.Stream {
	near := func() int { return (draw(60) + 65506) % 65536 }
	x := impl.Stream{State: draw(5), Iss: near(), Una: near(), Rcv: near(), Fin: draw(4), PeerFin: draw(3) == 0, Owe: draw(2) == 0, Due: draw(12), Times: draw(13)}
	if draw(2) == 0 {
		x.State = impl.StOpen
	}
	if x.Fin != impl.FinDone || draw(20) == 0 {
		x.Wait = drawnText(draw, []int{0, draw(10), draw(30), 24, 25, 200, 190 + draw(11)}[draw(7)])
	}
	x.Sent = draw(min(len(x.Wait), 24) + 1)
	if x.Fin == impl.FinSent && len(x.Wait) > 24 {
		x.Fin = draw(2)
	} else if x.Fin == impl.FinSent && draw(20) > 0 {
		x.Sent = len(x.Wait)
	}
	x.In = drawnText(draw, []int{0, draw(20), 1000 - draw(30), 1000}[draw(4)])
	for range []int{0, draw(4), draw(9), 8}[draw(4)] {
		x.Late = append(x.Late, late((x.Rcv+draw(40)+65530)%65536, drawnText(draw, 1+draw(8))))
	}
	return x
}

func drawnSeg(draw func(int) int, x impl.Stream) impl.Seg {
	by := []int{0, -draw(10), draw(12), draw(70), 63 + draw(2), 32766 + draw(5), draw(65536)}[draw(7)]
	s := impl.Seg{Num: (x.Rcv + by + 131072) % 65536, Flags: draw(8)}
	if draw(2) == 0 {
		s.Flags = 2 * draw(4)
	}
	if s.Flags%2 == 0 || draw(20) == 0 {
		s.Body = drawnText(draw, []int{0, 1 + draw(8), 8, draw(10)}[draw(4)])
	}
	if s.Flags/2%2 == 1 || draw(20) == 0 {
		s.Ack = []int{x.Una, (x.Iss + 1) % 65536, (x.Una + draw(30) + 65535) % 65536, plainFlight(x), (plainFlight(x) + 1) % 65536, draw(65536)}[draw(6)]
	}
	return s
}

func TestDrawnStreamsAreAsThePlainOnes(t *testing.T) {
	draw, right, taken := drawsFrom(13), 0, 0
	for range 60000 {
		x := drawnStream(draw)
		_, heard := wantStreamAsPlain(t, x, drawnSeg(draw, x), draw(14)-1)
		if plainStreamOk(x) {
			right++
		}
		if len(heard.In) > len(x.In) {
			taken++
		}
	}
	if right < 40000 || right > 59500 || taken < 5000 {
		t.Errorf("of the drawn streams %d are right, %d take something", right, taken)
	}
}

// A stream stays right, whatever comes, and what came out of it stays: right
// segments and wrong ones, one behind the other, with what it does beside.
func TestStreamsStayRight(t *testing.T) {
	draw, opened, ended, full := drawsFrom(131), 0, 0, 0
	for range 400 {
		x, _ := impl.StreamNew([]int{0, 65535, 65500, 30}[draw(4)], draw(2) == 0)
		now := 0
		if draw(4) == 0 {
			x.In = drawnText(draw, 950)
		}
		for step := range 250 {
			now += draw(5)
			pushed, heard := wantStreamAsPlain(t, x, drawnSeg(draw, x), now)
			x = heard
			if draw(3) == 0 {
				x = pushed
			}
			if draw(8) == 0 {
				x, _ = impl.Write(x, drawnText(draw, draw(30)))
			}
			if step > 120 && draw(60) == 0 {
				x, _ = impl.Shut(x)
			}
			wantStreamOk(t, x, true)
		}
		if x.State == impl.StOpen {
			opened++
		}
		if impl.Ended(x) {
			ended++
		}
		if len(x.In) > 992 {
			full++
		}
	}
	if opened < 200 || ended < 20 || full < 5 {
		t.Errorf("of the streams %d are open, %d have ended, %d are full", opened, ended, full)
	}
}

// exchange brings what two streams push over to the other one, some of it not
// at all, twice, or in another order; when it is calm, all in order.
func exchange(t *testing.T, draw func(int) int, ends *[2]impl.Stream, net *[2][]impl.Seg, now int, calm bool) {
	t.Helper()
	for from := range ends {
		var out []impl.Seg
		ends[from], out = impl.Push(ends[from], now)
		net[from] = append(net[from], out...)
	}
	for from := range ends {
		for len(net[from]) > 0 && (calm || draw(3) > 0) {
			at := 0
			if !calm {
				at = draw(len(net[from]))
			}
			s := net[from][at]
			if calm || draw(4) > 0 {
				net[from] = slices.Delete(net[from], at, at+1)
			}
			if calm || draw(4) > 0 {
				ends[1-from] = impl.Hear(ends[1-from], s)
			}
		}
	}
	for _, x := range ends {
		wantStreamOk(t, x, true)
	}
}

func TestWhatIsWrittenComesOut(t *testing.T) {
	draw := drawsFrom(77)
	for range 300 {
		var ends [2]impl.Stream
		ends[0], _ = impl.StreamNew(65536-1-draw(90), true)
		ends[1], _ = impl.StreamNew(65536-1-draw(90), false)
		written, net, now := [2]string{}, [2][]impl.Seg{}, 0
		for at := range ends {
			written[at] = drawnText(draw, draw(201))
			ends[at], _ = impl.Write(ends[at], written[at])
			ends[at], _ = impl.Shut(ends[at])
		}
		for range draw(40) {
			now += draw(6)
			exchange(t, draw, &ends, &net, now, false)
			for at := range ends {
				if !strings.HasPrefix(written[1-at], ends[at].In) {
					t.Fatalf("of %q came %q", written[1-at], ends[at].In)
				}
			}
		}
		for range 60 {
			now += 70
			exchange(t, draw, &ends, &net, now, true)
		}
		for at := range ends {
			if ends[at].In != written[1-at] || !impl.Ended(ends[at]) {
				t.Fatalf("of %q came %q, and it is %v", written[1-at], ends[at].In, ends[at])
			}
		}
	}
}

func oddInts() []int {
	return []int{math.MinInt, math.MinInt + 1, -65537, -65536, -1, 0, 1, 2, 3, 4, 5, 12, 13, 24, 25, 63, 64, 200, 32768, 65535, 65536, 999999900, 1000000000, 1 << 32, 1 << 62, math.MaxInt - 1, math.MaxInt}
}

// No call panics, whatever it is given.
func TestStreamsOfWhateverNumbers(t *testing.T) {
	draw, odd := drawsFrom(41), oddInts()
	pick := func() int { return odd[draw(len(odd))] }
	text := func() string { return mixedBytes([]int{0, 1, 8, 9, 24, 200, 201, 1000, 1001}[draw(9)]) }
	for range 20000 {
		x := impl.Stream{State: pick(), Iss: pick(), Una: pick(), Rcv: pick(), Wait: text(), Sent: pick(), Fin: pick(), PeerFin: draw(2) == 0, In: text(), Owe: draw(2) == 0, Due: pick(), Times: pick()}
		if draw(2) == 0 {
			x.State, x.Iss, x.Una, x.Rcv, x.Due, x.Times = draw(5), 65535, 0, 65535, 0, draw(13)
		}
		for range draw(10) {
			x.Late = append(x.Late, late(pick(), text()))
		}
		wantStreamAsPlain(t, x, seg(pick(), pick(), pick(), text()), pick())
		if got, ok := impl.Write(x, text()); !ok && !sameStream(got, x) {
			t.Errorf("Write of %.300v is %.300v", x, got)
		}
		if got, ok := impl.Shut(x); !ok && !sameStream(got, x) {
			t.Errorf("Shut of %.300v is %.300v", x, got)
		}
		wantEnded(t, x, x.Fin == 3 && x.PeerFin)
	}
}

// roomyStream is the stream with something in the spare room behind its Late;
// and all of that.
func roomyStream(x impl.Stream) (impl.Stream, []impl.Late) {
	x = copyOfStream(x)
	whole := append(slices.Clone(x.Late), late(991, "spare1"), late(992, "spare2"))
	x.Late = whole[:len(x.Late)]
	return x, whole
}

func memoryStreams() []impl.Stream {
	list := []impl.Stream{
		{}, openStream(), early(late(503, "cd"), late(501, "ab"), late(530, "far")), early(lates(8)...), early(late(502, "bcd")), inState(impl.StHeard), inState(impl.StAsked), inState(impl.StListen),
		waiting("abcdefghijklmnop", 3, impl.FinNone), waiting("abc", 3, impl.FinSent), waiting(mixedBytes(200), 0, impl.FinWanted),
		changed(early(late(503, "cd")), func(x *impl.Stream) { x.In = mixedBytes(999) }), changed(early(lates(4)...), func(x *impl.Stream) { x.In = "" }),
	}
	draw := drawsFrom(53)
	for range 60 {
		list = append(list, drawnStream(draw))
	}
	return append(list, wrongStreams()...)
}

func memorySegs() []impl.Seg {
	list := []impl.Seg{seg(501, 0, 0, "body"), seg(501, 102, 6, "12345678"), seg(505, 103, 2, "late"), seg(498, 0, 0, "xyzab"), seg(100, 101, 2, "b"), seg(65536, 0, 0, "wrong")}
	for flags := range 8 {
		list = append(list, seg(501, 101*(flags/2%2), flags, ""))
	}
	return list
}

// wantNewStream: no text of the answer lies in a text that was handed in, and
// what is written into its Late changes nothing of the argument.
func wantNewStream(t *testing.T, answer impl.Stream, from impl.Stream, whole []impl.Late, texts ...string) {
	t.Helper()
	was, room := copyOfStream(from), slices.Clone(whole)
	texts = append(texts, from.Wait, from.In)
	for _, l := range from.Late {
		texts = append(texts, l.Text)
	}
	answered := []string{answer.Wait, answer.In}
	for _, l := range answer.Late {
		answered = append(answered, l.Text)
	}
	for _, text := range answered {
		if slices.ContainsFunc(texts, func(other string) bool { return lieTogether(text, other) }) {
			t.Fatalf("the text %.40q of an answer lies in another one", text)
		}
	}
	spare := answer.Late[:cap(answer.Late)]
	for at := range spare {
		spare[at] = late(-7, "spoilt")
	}
	if !sameStream(from, was) || !slices.Equal(whole, room) {
		t.Fatalf("an answer shares memory with %.300v", was)
	}
}

func TestStreamsAreNewAndNotWrittenInto(t *testing.T) {
	for _, x := range memoryStreams() {
		cut, whole := roomyStream(x)
		room := slices.Clone(whole)
		check := func(answer impl.Stream, texts ...string) {
			t.Helper()
			if !sameStream(cut, x) || !slices.Equal(whole, room) {
				t.Fatalf("a stream was written into: %.300v; it was %.300v", cut, x)
			}
			wantNewStream(t, answer, cut, whole, texts...)
		}
		for _, s := range []string{"", "written", mixedBytes(200), mixedBytes(201)} {
			s = strings.Clone(s)
			answer, _ := impl.Write(cut, s)
			check(answer, s)
		}
		answer, _ := impl.Shut(cut)
		check(answer)
		for _, now := range []int{-1, 0, 50, 999999901} {
			answer, out := impl.Push(cut, now)
			for at, s := range out {
				if lieTogether(s.Body, cut.Wait) || lieTogether(s.Body, answer.Wait) || at > 0 && lieTogether(s.Body, out[at-1].Body) {
					t.Fatalf("the Body %q lies in another text", s.Body)
				}
			}
			check(answer)
		}
		for _, s := range memorySegs() {
			s.Body = strings.Clone(s.Body)
			check(impl.Hear(cut, s), s.Body)
		}
	}
}

// What was answered ahead says nothing of what is answered.
func TestStreamsKeepNothing(t *testing.T) {
	for range 3 {
		for _, x := range memoryStreams() {
			for _, s := range memorySegs() {
				wantStreamAsPlain(t, x, s, 5)
			}
		}
		wantWrite(t, openStream(), "abc", "abc")
		wantNoWrite(t, openStream(), mixedBytes(201))
		wantShut(t, openStream())
		wantNoShut(t, waiting("", 0, impl.FinDone))
		wantEnded(t, impl.Stream{Fin: impl.FinDone, PeerFin: true}, true)
		wantEnded(t, openStream(), false)
	}
}
