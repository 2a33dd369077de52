package tests

import (
	"math"
	"slices"
	"strings"
	"testing"

	"loop.example/g00232/impl"
)

func turn(kind, end, at int) impl.Turn { return impl.Turn{Kind: kind, End: end, At: at} }

func pushOf(end int) impl.Turn { return turn(impl.TurnPush, end, 0) }

func carryAt(at int) impl.Turn { return turn(impl.TurnCarry, 0, at) }

func sameEnds(a, b impl.Ends) bool {
	return slices.EqualFunc(a.Streams, b.Streams, sameStream) && slices.EqualFunc(a.Bits, b.Bits, sameBitsList) &&
		slices.Equal(a.Ids, b.Ids) && slices.Equal(a.Net, b.Net) && a.Now == b.Now
}

func copyOfTexts(list []string) []string {
	out := []string{}
	for _, text := range list {
		out = append(out, strings.Clone(text))
	}
	return out
}

func copyOfEnds(e impl.Ends) impl.Ends {
	out := impl.Ends{Ids: slices.Clone(e.Ids), Net: copyOfTexts(e.Net), Now: e.Now}
	for _, x := range e.Streams {
		out.Streams = append(out.Streams, copyOfStream(x))
	}
	for _, list := range e.Bits {
		out.Bits = append(out.Bits, copyOfBits(list))
	}
	return out
}

// framed8 writes a text by hand in frames of 8 bytes of it each.
func framed8(text string, from, to, id int) []string {
	out := []string{}
	for at := 0; at < len(text); at += 8 {
		end := min(at+8, len(text))
		part := dgram(from, to, id, at, end < len(text), text[at:end])
		out = append(out, plainCell(cellOf(to, from, 1, plainDgram(part))))
	}
	return out
}

func plainWrap(s impl.Seg, from, to, id int) ([]string, bool) {
	if !plainSegOk(s) || !within(from, 1, 99) || !within(to, 1, 99) || !within(id, 0, 65535) {
		return nil, false
	}
	return framed8(plainSeg(s), from, to, id), true
}

// plainOfFrame is the datagram in a frame, when both are for this one.
func plainOfFrame(t string, to int) (impl.Dgram, bool) {
	if len(t) < 7+8 || plainSeal(t[:len(t)-4]) != t {
		return impl.Dgram{}, false
	}
	c, b := cellOf(int(t[0]), int(t[1]), int(t[2]), t[3:len(t)-4]), []byte(t[3:])
	d := dgram(int(b[0]), int(b[1]), int(b[2])*256+int(b[3]), int(b[4])*8, b[5] == 1, c.Body[8:])
	right := plainCellOk(c) && c.To == to && plainDgramOk(d) && plainDgram(d) == c.Body && d.To == to
	return d, right
}

func plainOfSeg(t string) (impl.Seg, bool) {
	if len(t) < 5 {
		return impl.Seg{}, false
	}
	b := []byte(t)
	s := seg(int(b[0])*256+int(b[1]), int(b[2])*256+int(b[3]), int(b[4]), t[5:])
	if !plainSegOk(s) {
		return impl.Seg{}, false
	}
	return s, true
}

func plainUnwrap(list []impl.Bits, t string, to, now int) ([]impl.Bits, impl.Seg, bool) {
	d, ok := plainOfFrame(t, to)
	if !ok {
		return copyOfBits(list), impl.Seg{}, false
	}
	left, whole, ok := plainJoin(list, d, now)
	if !ok {
		return left, impl.Seg{}, false
	}
	s, ok := plainOfSeg(whole.Body)
	return left, s, ok
}

func plainCarry(e *impl.Ends, place int) {
	frame := e.Net[place]
	e.Net = slices.Concat(e.Net[:place], e.Net[place+1:])
	for end := range 2 {
		tidy := slices.DeleteFunc(copyOfBits(e.Bits[end]), func(b impl.Bits) bool { return b.Until <= e.Now })
		left, s, ok := plainUnwrap(tidy, frame, end+1, e.Now)
		e.Bits[end] = left
		if ok {
			e.Streams[end] = plainHear(e.Streams[end], s)
		}
	}
}

func plainPushed(e *impl.Ends, end int) {
	x, segs := plainPush(e.Streams[end], e.Now)
	e.Streams[end] = x
	for _, s := range segs {
		frames, _ := plainWrap(s, end+1, 2-end, e.Ids[end])
		e.Net = append(e.Net, frames...)
		e.Ids[end]++
	}
}

func plainIsFrame(t string) bool {
	return len(t) >= 7 && plainSeal(t[:len(t)-4]) == t && plainCellOk(cellOf(int(t[0]), int(t[1]), int(t[2]), t[3:len(t)-4]))
}

func plainTurned(e *impl.Ends, t impl.Turn) {
	count := len(e.Net)
	switch {
	case t.Kind == 1:
		plainPushed(e, t.End)
	case count == 0:
	case t.Kind == 2:
		plainCarry(e, t.At%count)
	case t.Kind == 3:
		e.Net = slices.Concat(e.Net[:t.At%count], e.Net[t.At%count+1:])
	case t.Kind == 4:
		e.Net = append(e.Net, e.Net[t.At%count])
	case plainIsFrame(e.Net[t.At%count]):
		frame := e.Net[t.At%count]
		e.Net[t.At%count] = turnedAt(frame, t.At%len(frame))
	}
	e.Now++
}

func turnedAt(text string, at int) string {
	out := []byte(text)
	if out[at]%2 == 0 {
		out[at]++
	} else {
		out[at]--
	}
	return string(out)
}

// freshEnds are two ends that were written to and shut, and nothing else.
func freshEnds(a, b int, texts ...string) impl.Ends {
	asks, listens := impl.Stream{State: 2, Iss: a, Una: a, Fin: 1}, impl.Stream{State: 1, Iss: b, Una: b, Fin: 1}
	for at, text := range texts {
		if at%2 == 0 {
			asks.Wait += text
		} else {
			listens.Wait += text
		}
	}
	return impl.Ends{Streams: []impl.Stream{asks, listens}, Bits: [][]impl.Bits{nil, nil}, Ids: []int{0, 0}}
}

func plainRun(a, b int, texts []string, turns []impl.Turn) (impl.Ends, bool) {
	if !within(a, 0, 65535) || !within(b, 0, 65535) || len(texts) > 8 || len(turns) > 120 {
		return impl.Ends{}, false
	}
	if slices.ContainsFunc(texts, func(s string) bool { return len(s) > 25 }) {
		return impl.Ends{}, false
	}
	if slices.ContainsFunc(turns, func(t impl.Turn) bool { return !within(t.Kind, 1, 5) || !within(t.End, 0, 1) || t.At < 0 }) {
		return impl.Ends{}, false
	}
	e := freshEnds(a, b, texts...)
	for _, t := range turns {
		plainTurned(&e, t)
	}
	return e, true
}

func plainCalm(e impl.Ends, rounds int) impl.Ends {
	e = copyOfEnds(e)
	if len(e.Streams) != 2 || len(e.Bits) != 2 || len(e.Ids) != 2 {
		return e
	}
	for round := 0; round < rounds && round < 100; round++ {
		e.Now += 70
		plainPushed(&e, 0)
		plainPushed(&e, 1)
		for len(e.Net) > 0 {
			plainCarry(&e, 0)
		}
	}
	return e
}

func wantTurnOk(t *testing.T, x impl.Turn, want bool) {
	t.Helper()
	if got := impl.TurnOk(x); got != want {
		t.Errorf("TurnOk(%v) is %v", x, got)
	}
}

func wantWrap(t *testing.T, s impl.Seg, from, to, id int, want ...string) {
	t.Helper()
	if got, ok := impl.Wrap(s, from, to, id); !ok || !slices.Equal(got, want) {
		t.Errorf("Wrap(%v, %d, %d, %d) = %q, %v; want %q", s, from, to, id, got, ok, want)
	}
}

func wantNoWrap(t *testing.T, s impl.Seg, from, to, id int) {
	t.Helper()
	if got, ok := impl.Wrap(s, from, to, id); ok || len(got) != 0 {
		t.Errorf("Wrap(%v, %d, %d, %d) = %q, %v", s, from, to, id, got, ok)
	}
}

func wantUnwrapOf(t *testing.T, list []impl.Bits, frame string, to, now int, left []impl.Bits, want impl.Seg, right bool) {
	t.Helper()
	got, s, ok := impl.Unwrap(list, frame, to, now)
	if ok != right || s != want || !sameBitsList(got, left) {
		t.Errorf("Unwrap(%v, %.80q, %d, %d) = %v, %v, %v; want %v, %v, %v", list, frame, to, now, got, s, ok, left, want, right)
	}
}

func wantUnwrap(t *testing.T, list []impl.Bits, frame string, want impl.Seg, left ...impl.Bits) {
	t.Helper()
	wantUnwrapOf(t, list, frame, 2, 5, left, want, true)
}

// wantNoUnwrap: no segment, and these bits.
func wantNoUnwrap(t *testing.T, list []impl.Bits, frame string, left ...impl.Bits) {
	t.Helper()
	wantUnwrapOf(t, list, frame, 2, 5, left, impl.Seg{}, false)
}

func wantUnwrapAsPlain(t *testing.T, list []impl.Bits, frame string, to, now int) ([]impl.Bits, bool) {
	t.Helper()
	left, s, ok := plainUnwrap(list, frame, to, now)
	wantUnwrapOf(t, list, frame, to, now, left, s, ok)
	return left, ok
}

func wantRun(t *testing.T, texts []string, turns []impl.Turn, want impl.Ends) {
	t.Helper()
	wantRunOf(t, 10, 500, texts, turns, want)
}

func wantRunOf(t *testing.T, a, b int, texts []string, turns []impl.Turn, want impl.Ends) {
	t.Helper()
	if got, ok := impl.RunEnds(a, b, texts, turns); !ok || !sameEnds(got, want) {
		t.Errorf("RunEnds(%d, %d, %q, %v) = %v, %v; want %v", a, b, texts, turns, got, ok, want)
	}
}

func wantNoRun(t *testing.T, a, b int, texts []string, turns []impl.Turn) {
	t.Helper()
	if got, ok := impl.RunEnds(a, b, texts, turns); ok || !sameEnds(got, impl.Ends{}) {
		t.Errorf("RunEnds(%d, %d, %.200q, %v) = %v, %v", a, b, texts, turns, got, ok)
	}
}

func wantCalm(t *testing.T, e impl.Ends, rounds int, want impl.Ends) {
	t.Helper()
	if got := impl.CalmEnds(e, rounds); !sameEnds(got, want) {
		t.Errorf("CalmEnds(%v, %d) = %v; want %v", e, rounds, got, want)
	}
}

func TestTurnConstants(t *testing.T) {
	if impl.TurnPush != 1 || impl.TurnCarry != 2 || impl.TurnLose != 3 || impl.TurnTwice != 4 || impl.TurnSpoil != 5 {
		t.Error("a Kind of turns is another number")
	}
}

func wrongTurns() []impl.Turn {
	list := []impl.Turn{{}, turn(-1, -1, -1), turn(6, 2, 0)}
	for _, kind := range []int{0, 6, 7, -1, -5, 256 + 1, 1<<32 + 1, math.MinInt, math.MinInt + 1, math.MaxInt} {
		list = append(list, turn(kind, 0, 0), turn(kind, 1, 7))
	}
	for kind := 1; kind <= 5; kind++ {
		for _, end := range []int{-1, 2, -2, 3, 257, 1 << 32, 1<<32 + 1, math.MinInt, math.MinInt + 1, math.MaxInt} {
			list = append(list, turn(kind, end, 0), turn(kind, end, 7))
		}
		for _, at := range []int{-1, -2, -1 << 32, math.MinInt, math.MinInt + 1} {
			list = append(list, turn(kind, 0, at), turn(kind, 1, at))
		}
	}
	return list
}

func TestTurnOk(t *testing.T) {
	for kind := 0; kind <= 6; kind++ {
		for end := -1; end <= 2; end++ {
			for _, at := range []int{-1, 0, 1, 2, 119, 1000000000, 1000000001, 1 << 32, math.MaxInt} {
				wantTurnOk(t, turn(kind, end, at), kind != 0 && kind != 6 && (end == 0 || end == 1) && at != -1)
			}
		}
	}
	for _, wrong := range wrongTurns() {
		wantTurnOk(t, wrong, false)
	}
}

// The bytes of these frames are written out; their sum alone is worked out.
func TestWrapWrittenOut(t *testing.T) {
	head := "\x02\x01\x01" + "\x01\x02\x00\x00\x00\x00\xfe\xfd"
	wantWrap(t, seg(0, 0, impl.FlagSyn, ""), 1, 2, 0, plainSeal(head+"\x00\x00\x00\x00\x01"))
	wantWrap(t, seg(258, 772, impl.FlagAck, "abc"), 1, 2, 0, plainSeal(head+"\x01\x02\x03\x04\x02abc"))
	first := "\x07\x63\x01" + "\x63\x07\x01\x02\x00\x01\x9b\xf5" + "\x01\x02\x03\x04\x06abc"
	last := "\x07\x63\x01" + "\x63\x07\x01\x02\x01\x00\x9a\xf6" + "d"
	wantWrap(t, seg(258, 772, 6, "abcd"), 99, 7, 258, plainSeal(first), plainSeal(last))
}

func TestWrapOfEachBody(t *testing.T) {
	for length := range 9 {
		s := seg(7, 9, impl.FlagAck, mixedBytes(length))
		frames, _ := plainWrap(s, 1, 2, 3)
		wantWrap(t, s, 1, 2, 3, frames...)
		// Five bytes stand ahead of a Body, and eight go into a frame.
		if want := 1 + (5+length-1)/8; len(frames) != want {
			t.Errorf("a Body of %d bytes has %d frames", length, len(frames))
		}
	}
	for _, length := range []int{9, 10, 16, 155, 156, 160, 200, 20001} {
		wantNoWrap(t, seg(7, 9, impl.FlagAck, mixedBytes(length)), 1, 2, 3)
	}
	for _, s := range edgeSegs() {
		if frames, ok := plainWrap(s, 99, 1, 65535); ok {
			wantWrap(t, s, 99, 1, 65535, frames...)
		}
	}
	for _, s := range wrongSegs() {
		wantNoWrap(t, s, 1, 2, 3)
	}
}

func TestWrapOfEachNumber(t *testing.T) {
	short, long := seg(7, 0, impl.FlagSyn, ""), seg(7, 9, impl.FlagAck, mixedBytes(8))
	for _, s := range []impl.Seg{short, long} {
		for _, from := range []int{1, 2, 50, 98, 99} {
			for _, to := range []int{1, 2, 50, 98, 99} {
				for _, id := range []int{0, 1, 255, 256, 65534, 65535} {
					frames, _ := plainWrap(s, from, to, id)
					wantWrap(t, s, from, to, id, frames...)
				}
			}
		}
		for _, wrong := range append([]int{0}, farNumbers()...) {
			wantNoWrap(t, s, wrong, 2, 3)
			wantNoWrap(t, s, 1, wrong, 3)
			wantNoWrap(t, s, wrong, wrong, 3)
		}
		for _, wrong := range oddIds() {
			wantNoWrap(t, s, 1, 2, wrong)
		}
	}
}

// longSeg has two frames from 1 to 2 with Id 3.
func longSeg() (impl.Seg, string, string) {
	s := seg(258, 772, 6, "abcdefgh")
	frames := framed8(plainSeg(s), 1, 2, 3)
	return s, frames[0], frames[1]
}

func TestUnwrapOfFramesInOrder(t *testing.T) {
	s, first, last := longSeg()
	one := bitsOf(1, 3, 0, 15, piece{0, "\x01\x02\x03\x04\x06abc"})
	wantNoUnwrap(t, nil, first, one)
	wantUnwrap(t, []impl.Bits{one}, last, s)
	other := bitsOf(1, 3, 13, 15, piece{8, "defgh"})
	wantNoUnwrap(t, nil, last, other)
	wantUnwrap(t, []impl.Bits{other}, first, s)
	// One that comes twice, and one too few.
	wantNoUnwrap(t, []impl.Bits{one}, first, one)
	wantNoUnwrap(t, []impl.Bits{other}, last, other)
	// Behind the whole one its frames wait anew.
	wantNoUnwrap(t, nil, last, other)
	// Bits of others stay, ahead and behind.
	a, b := bitsOf(1, 2, 0, 9, piece{0, "12345678"}), bitsOf(2, 3, 0, 4, piece{0, "12345678"})
	wantUnwrap(t, []impl.Bits{a, one, b}, last, s, a, b)
	wantNoUnwrap(t, []impl.Bits{a, b}, first, a, b, one)
	wantNoUnwrap(t, []impl.Bits{a, b, a}, first, b, a, one)
}

func TestUnwrapOfOneFrame(t *testing.T) {
	_, first, _ := longSeg()
	bits := bitsOf(1, 3, 0, 15, piece{0, "\x01\x02\x03\x04\x06abc"})
	for _, s := range []impl.Seg{seg(0, 0, 1, ""), seg(65535, 65535, 3, ""), seg(7, 0, 0, ""), seg(7, 0, 0, "x"), seg(9, 8, 2, "xyz")} {
		frame := framed8(plainSeg(s), 1, 2, 3)[0]
		wantUnwrap(t, nil, frame, s)
		// It is whole by itself: what waits under its Id waits on.
		wantUnwrap(t, []impl.Bits{bits}, frame, s, bits)
		wantUnwrapOf(t, nil, frame, 2, 0, nil, s, true)
		wantUnwrapOf(t, nil, frame, 2, 999999990, nil, s, true)
		for _, now := range []int{-1, 999999991, 1000000000, math.MinInt, math.MaxInt} {
			wantUnwrapOf(t, []impl.Bits{bits}, frame, 2, now, []impl.Bits{bits}, impl.Seg{}, false)
			wantUnwrapOf(t, []impl.Bits{bits}, first, 2, now, []impl.Bits{bits}, impl.Seg{}, false)
			wantUnwrapOf(t, nil, first, 2, now, nil, impl.Seg{}, false)
		}
	}
}

// Every right segment comes back from its frames, in whatever order, and with
// each of them twice.
func TestWhatIsWrappedIsUnwrapped(t *testing.T) {
	for _, s := range rightSegs() {
		from, to, id := 1+s.Num%99, 1+s.Ack%99, (s.Num+s.Ack)%65536
		frames, ok := impl.Wrap(s, from, to, id)
		if !ok || len(frames) == 0 {
			t.Fatalf("Wrap(%v, %d, %d, %d) = %q, %v", s, from, to, id, frames, ok)
		}
		eachOrder(len(frames), func(order []int) {
			bits, got, ok := []impl.Bits{}, impl.Seg{}, false
			for nth, place := range order {
				bits, got, ok = impl.Unwrap(bits, frames[place], to, 10)
				if ok != (nth == len(frames)-1) {
					t.Fatalf("frame %d of %q of %v is %v", place, frames, s, ok)
				}
				if !ok {
					bits, _, ok = impl.Unwrap(bits, frames[place], to, 11)
				}
			}
			if !ok || got != s || len(bits) != 0 {
				t.Fatalf("of the frames %q in the order %v came %v; want %v", frames, order, got, s)
			}
		})
	}
}

func TestUnwrapForAnother(t *testing.T) {
	s, first, last := longSeg()
	bits := []impl.Bits{bitsOf(1, 3, 0, 15, piece{0, "\x01\x02\x03\x04\x06abc"})}
	for _, to := range []int{-1, 0, 1, 3, 99, 100, 258, 1<<32 + 2, math.MinInt, math.MaxInt} {
		for _, frame := range []string{first, last} {
			wantUnwrapOf(t, bits, frame, to, 5, bits, impl.Seg{}, false)
			wantUnwrapOf(t, nil, frame, to, 5, nil, impl.Seg{}, false)
		}
	}
	part := plainDgram(dgram(1, 2, 3, 8, false, "defgh"))
	for kind := 1; kind <= 3; kind++ {
		// From and Kind of a frame are not asked for.
		wantUnwrap(t, bits, plainCell(cellOf(2, 7, kind, part)), s)
	}
	wantNoUnwrap(t, bits, plainCell(cellOf(0, 1, 1, part)), bits...)
	wantNoUnwrap(t, bits, plainCell(cellOf(1, 1, 1, part)), bits...)
	wantNoUnwrap(t, bits, plainCell(cellOf(2, 1, 1, plainDgram(dgram(1, 1, 3, 8, false, "defgh")))), bits...)
	wantNoUnwrap(t, bits, plainCell(cellOf(2, 1, 1, plainDgram(dgram(1, 3, 3, 8, false, "defgh")))), bits...)
	wantUnwrapOf(t, bits, plainCell(cellOf(0, 1, 1, part)), 0, 5, bits, impl.Seg{}, false)
	wantUnwrapOf(t, bits, plainCell(cellOf(0, 1, 1, plainDgram(dgram(1, 0, 3, 8, false, "defgh")))), 0, 5, bits, impl.Seg{}, false)
}

func TestUnwrapOfWhatIsNone(t *testing.T) {
	_, first, last := longSeg()
	bits := []impl.Bits{bitsOf(1, 3, 0, 15, piece{0, "\x01\x02\x03\x04\x06abc"}), bitsOf(2, 1, 4, 2)}
	texts := []string{"", "x", mixedBytes(7), mixedBytes(15), mixedBytes(20001), last + "x", last + "\x00", last[:len(last)-1], last[1:], first + last, plainSeal(""), plainSeal("\x02\x01")}
	for _, body := range []string{"", "x", mixedBytes(7), mixedBytes(8), mixedBytes(13), mixedBytes(60), plainDgram(dgram(1, 2, 3, 8, false, "")), "\x00" + plainDgram(dgram(1, 2, 3, 8, false, "defgh"))} {
		texts = append(texts, plainCell(cellOf(2, 1, 1, body)))
	}
	part := plainDgram(dgram(1, 2, 3, 8, false, "defgh"))
	for at := range 8 {
		texts = append(texts, plainCell(cellOf(2, 1, 1, turnedAt(part, at))))
	}
	texts = append(texts, plainCell(cellOf(2, 0, 1, part)), plainCell(cellOf(2, 100, 1, part)), plainCell(cellOf(2, 1, 0, part)), plainCell(cellOf(2, 1, 4, part)))
	texts = append(texts, plainCell(cellOf(2, 1, 1, plainDgram(dgram(0, 2, 3, 8, false, "d")))), plainCell(cellOf(2, 1, 1, plainDgram(dgram(1, 2, 3, 8, true, "d")))))
	for at := range len(last) {
		texts = append(texts, turnedAt(last, at))
	}
	for _, text := range texts {
		wantNoUnwrap(t, bits, text, bits...)
		wantNoUnwrap(t, nil, text)
	}
}

// What is put together is gone from the bits, though it is no segment.
func TestUnwrapOfWhatIsNoSegment(t *testing.T) {
	other := bitsOf(1, 4, 0, 3, piece{0, "12345678"})
	for _, body := range []string{"x", "\x00\x00\x00\x00", "\x00\x00\x00\x01\x00", "\x00\x00\x00\x00\x08", "\x00\x00\x00\x00\x01x"} {
		frame := framed8(body, 1, 2, 3)[0]
		wantNoUnwrap(t, nil, frame)
		wantNoUnwrap(t, []impl.Bits{other}, frame, other)
	}
	for _, body := range []string{"\x00\x00\x00\x00\x00123456789", "\x00\x00\x00\x01\x00xyz1", "\x00\x00\x00\x00\x80xyz1", "\x00\x00\x00\x00\x01xyz1", strings.Repeat("\x00", 16)} {
		frames := framed8(body, 1, 2, 3)
		for _, order := range [][]int{{0, 1}, {1, 0}} {
			bits, _, _ := impl.Unwrap([]impl.Bits{other}, frames[order[0]], 2, 5)
			if len(bits) != 2 {
				t.Fatalf("of %q is left %v", frames, bits)
			}
			wantNoUnwrap(t, bits, frames[order[1]], other)
		}
	}
}

// Unwrap drops no bits for their age: that is a matter of TidyBits.
func TestUnwrapOfBitsThatAreOver(t *testing.T) {
	s, first, last := longSeg()
	for _, until := range []int{-1, 0, 4, 5, 6, 100} {
		over := bitsOf(1, 3, 0, until, piece{0, "\x01\x02\x03\x04\x06abc"})
		wantUnwrap(t, []impl.Bits{over}, last, s)
		wantNoUnwrap(t, []impl.Bits{over}, first, over)
	}
	whole := bitsOf(1, 3, 13, 9, piece{0, "\x01\x02\x03\x04\x06abc"}, piece{8, "defgh"})
	wantUnwrap(t, []impl.Bits{whole}, last, s)
	wantUnwrap(t, []impl.Bits{whole, whole}, first, s, whole)
}

func drawnFrame(draw func(int) int) string {
	body := plainSeg(drawnSeg(draw, impl.Stream{Rcv: 5}))
	if draw(4) == 0 {
		body = mixedBytes(1 + draw(20))
	}
	frames := framed8(body, 1+draw(2), 1+draw(2), draw(2))
	frame := frames[draw(len(frames))]
	switch draw(8) {
	case 0:
		return turnedAt(frame, draw(len(frame)))
	case 1:
		return plainCell(cellOf(draw(3), draw(3), draw(4), mixedBytes(draw(20))))
	}
	return frame
}

func TestUnwrapOfDrawnFrames(t *testing.T) {
	draw, whole := drawsFrom(14), 0
	for range 30000 {
		if _, ok := wantUnwrapAsPlain(t, drawnBits(draw), drawnFrame(draw), draw(4), draw(14)-1); ok {
			whole++
		}
	}
	for range 300 {
		bits := []impl.Bits{}
		for now := range 40 {
			left, ok := wantUnwrapAsPlain(t, bits, drawnFrame(draw), 1+draw(2), now)
			if bits = left; ok {
				whole++
			}
		}
	}
	if whole < 4000 {
		t.Errorf("%d of the drawn frames brought a segment", whole)
	}
}

func TestEndsNew(t *testing.T) {
	for _, a := range rightNums() {
		for _, b := range rightNums() {
			want := impl.Ends{
				Streams: []impl.Stream{{State: impl.StAsked, Iss: a, Una: a}, {State: impl.StListen, Iss: b, Una: b}},
				Bits:    [][]impl.Bits{{}, {}},
				Ids:     []int{0, 0},
			}
			if got, ok := impl.EndsNew(a, b); !ok || !sameEnds(got, want) {
				t.Errorf("EndsNew(%d, %d) = %v, %v", a, b, got, ok)
			}
		}
		for _, wrong := range append([]int{-1, 65536}, oddNums()...) {
			for _, pair := range [][2]int{{a, wrong}, {wrong, a}, {wrong, wrong}} {
				if got, ok := impl.EndsNew(pair[0], pair[1]); ok || !sameEnds(got, impl.Ends{}) {
					t.Errorf("EndsNew(%v) = %v, %v", pair, got, ok)
				}
			}
		}
	}
}

func TestRunEndsOfTexts(t *testing.T) {
	texts := []string{}
	for count := range 9 {
		wantRun(t, texts, nil, freshEnds(10, 500, texts...))
		texts = append(texts, mixedBytes(24-count)+"z")
	}
	wantNoRun(t, 10, 500, texts, nil)
	wantNoRun(t, 10, 500, make([]string, 9), nil)
	wantNoRun(t, 10, 500, make([]string, 264), nil)
	wantRun(t, make([]string, 8), nil, freshEnds(10, 500))
	full := slices.Repeat([]string{mixedBytes(25)}, 8)
	wantRun(t, full, nil, freshEnds(10, 500, full...))
	for _, length := range []int{0, 1, 24, 25, 26, 27, 200, 201, 281, 20001} {
		for at := range 8 {
			some := []string{"a", "b", "c", "d", "e", "f", "g", "h"}
			some[at] = mixedBytes(length)
			if length <= 25 {
				wantRun(t, some, nil, freshEnds(10, 500, some...))
				wantRun(t, some[:at+1], nil, freshEnds(10, 500, some[:at+1]...))
				continue
			}
			wantNoRun(t, 10, 500, some, nil)
			wantNoRun(t, 10, 500, some[:at+1], []impl.Turn{pushOf(0)})
		}
	}
	e, ok := impl.RunEnds(10, 500, []string{"ab", "cd", "ef", "gh", "ij"}, nil)
	if !ok || e.Streams[0].Wait != "abefij" || e.Streams[1].Wait != "cdgh" || e.Streams[0].Fin != impl.FinWanted || e.Streams[1].Fin != impl.FinWanted {
		t.Errorf("texts written to both in turns are %v, %v", e, ok)
	}
}

func TestRunEndsOfNumbers(t *testing.T) {
	for _, n := range rightNums() {
		wantRunOf(t, n, 9, nil, nil, freshEnds(n, 9))
		wantRunOf(t, 9, n, nil, nil, freshEnds(9, n))
	}
	for _, wrong := range append([]int{-1, 65536}, oddNums()...) {
		wantNoRun(t, wrong, 9, nil, nil)
		wantNoRun(t, 9, wrong, []string{"a"}, []impl.Turn{pushOf(0)})
	}
}

func TestRunEndsOfHowManyTurns(t *testing.T) {
	for _, one := range []impl.Turn{pushOf(0), pushOf(1), carryAt(0), turn(3, 1, 5), turn(4, 1, 5), turn(5, 1, 5)} {
		for _, count := range []int{0, 1, 2, 119, 120} {
			turns := slices.Repeat([]impl.Turn{one}, count)
			want, _ := plainRun(10, 500, []string{"a"}, turns)
			if want.Now != count {
				t.Fatalf("Now is %d behind %d turns", want.Now, count)
			}
			wantRun(t, []string{"a"}, turns, want)
		}
		for _, count := range []int{121, 122, 240, 376, 1000} {
			wantNoRun(t, 10, 500, []string{"a"}, slices.Repeat([]impl.Turn{one}, count))
		}
	}
}

func TestRunEndsOfWrongTurns(t *testing.T) {
	for _, wrong := range wrongTurns() {
		wantNoRun(t, 10, 500, nil, []impl.Turn{wrong})
		wantNoRun(t, 10, 500, []string{"a"}, []impl.Turn{wrong, pushOf(0)})
		wantNoRun(t, 10, 500, []string{"a"}, []impl.Turn{pushOf(0), carryAt(0), wrong})
		turns := slices.Repeat([]impl.Turn{carryAt(3)}, 120)
		turns[119] = wrong
		wantNoRun(t, 10, 500, nil, turns)
	}
}

// afterTurns are fresh ends with what a case says has become of them.
func afterTurns(turns int, change func(*impl.Ends)) impl.Ends {
	e := freshEnds(10, 500, "abc", "de")
	e.Now = turns
	change(&e)
	return e
}

func theTexts() []string { return []string{"abc", "de"} }

func TestTurnsOfAnEmptyNet(t *testing.T) {
	for kind := 2; kind <= 5; kind++ {
		for _, at := range []int{0, 1, 2, 1000, math.MaxInt} {
			for end := range 2 {
				wantRun(t, theTexts(), []impl.Turn{turn(kind, end, at)}, afterTurns(1, func(*impl.Ends) {}))
			}
		}
	}
	wantRun(t, theTexts(), []impl.Turn{pushOf(1)}, afterTurns(1, func(*impl.Ends) {}))
}

// theCall is what the first end pushes first, by this Id.
func theCall(id int) string { return framed8("\x00\x0a\x00\x00\x01", 1, 2, id)[0] }

func TestTurnPush(t *testing.T) {
	called := func(e *impl.Ends) {
		e.Streams[0].Times, e.Streams[0].Due = 1, 2
		e.Ids[0], e.Net = 1, []string{theCall(0)}
	}
	wantRun(t, theTexts(), []impl.Turn{pushOf(0)}, afterTurns(1, called))
	wantRun(t, theTexts(), []impl.Turn{turn(1, 0, 77)}, afterTurns(1, called))
	wantRun(t, theTexts(), []impl.Turn{pushOf(0), pushOf(0)}, afterTurns(2, called))
	again := func(e *impl.Ends) {
		e.Streams[0].Times, e.Streams[0].Due = 2, 6
		e.Ids[0], e.Net = 2, []string{theCall(0), theCall(1)}
	}
	wantRun(t, theTexts(), []impl.Turn{pushOf(0), pushOf(1), pushOf(0)}, afterTurns(3, again))
	wantRun(t, theTexts(), []impl.Turn{pushOf(0), pushOf(0), pushOf(0)}, afterTurns(3, again))
	// The time of a push is the number of turns ahead of it.
	wantRun(t, theTexts(), []impl.Turn{carryAt(0), carryAt(1), pushOf(0)}, afterTurns(3, func(e *impl.Ends) {
		called(e)
		e.Streams[0].Due = 4
	}))
}

// Each end counts its Ids by itself, one for a segment, however many frames it
// has.
func TestIdsAreOneMoreForEachSegment(t *testing.T) {
	texts := []string{"0123456789", "ab"}
	turns := []impl.Turn{pushOf(0), carryAt(0), pushOf(1), carryAt(0), pushOf(0)}
	e, ok := impl.RunEnds(10, 500, texts, turns)
	net := slices.Concat(
		framed8("\x00\x0b\x01\xf5\x0201234567", 1, 2, 1), framed8("\x00\x13\x01\xf5\x0289", 1, 2, 2), framed8("\x00\x15\x01\xf5\x06", 1, 2, 3))
	if !ok || !slices.Equal(e.Ids, []int{4, 1}) || !slices.Equal(e.Net, net) {
		t.Errorf("the Ids are %v, on the Net is %q; want %q", e.Ids, e.Net, net)
	}
	want, _ := plainRun(10, 500, texts, turns)
	wantRun(t, texts, turns, want)
}

func TestTurnLose(t *testing.T) {
	for at, left := range map[int][]int{0: {1, 2}, 1: {0, 2}, 2: {0, 1}, 3: {1, 2}, 4: {0, 2}, 3000000002: {0, 1}, math.MaxInt: {0, 2}} {
		turns := []impl.Turn{pushOf(0), pushOf(0), pushOf(0), pushOf(0), pushOf(0), pushOf(0), pushOf(0), turn(3, 1, at)}
		e, _ := impl.RunEnds(10, 500, theTexts(), turns)
		if want := []string{theCall(left[0]), theCall(left[1])}; !slices.Equal(e.Net, want) {
			t.Errorf("with the one at %d lost there is %q; want %q", at, e.Net, want)
		}
		want, _ := plainRun(10, 500, theTexts(), turns)
		wantRun(t, theTexts(), turns, want)
	}
}

func TestTurnTwice(t *testing.T) {
	for at, twice := range map[int]int{0: 0, 1: 1, 2: 2, 3: 0, 4: 1, 3000000002: 2, math.MaxInt: 1} {
		turns := []impl.Turn{pushOf(0), pushOf(0), pushOf(0), pushOf(0), pushOf(0), pushOf(0), pushOf(0), turn(4, 1, at)}
		e, _ := impl.RunEnds(10, 500, theTexts(), turns)
		if want := []string{theCall(0), theCall(1), theCall(2), theCall(twice)}; !slices.Equal(e.Net, want) {
			t.Errorf("with the one at %d twice there is %q; want %q", at, e.Net, want)
		}
		want, _ := plainRun(10, 500, theTexts(), turns)
		wantRun(t, theTexts(), turns, want)
	}
}

func TestTurnSpoil(t *testing.T) {
	whole := theCall(0)
	for at := range 3 * len(whole) {
		spoilt := turnedAt(whole, at%len(whole))
		turns := []impl.Turn{pushOf(0), turn(5, 1, at)}
		e, _ := impl.RunEnds(10, 500, theTexts(), turns)
		if !slices.Equal(e.Net, []string{spoilt}) || e.Now != 2 {
			t.Errorf("spoilt at %d there is %q; want %q", at, e.Net, spoilt)
		}
		// What is spoilt already stays, at this byte and at others.
		for _, other := range []int{at, at + 1, 0, math.MaxInt} {
			again, _ := impl.RunEnds(10, 500, theTexts(), append(slices.Clone(turns), turn(5, 0, other)))
			if !slices.Equal(again.Net, []string{spoilt}) || again.Now != 3 {
				t.Errorf("spoilt at %d and %d there is %q; want %q", at, other, again.Net, spoilt)
			}
		}
		wantRun(t, theTexts(), append(turns, carryAt(at)), afterTurns(3, func(e *impl.Ends) {
			e.Streams[0].Times, e.Streams[0].Due, e.Ids[0] = 1, 2, 1
		}))
	}
	e, _ := impl.RunEnds(10, 500, theTexts(), []impl.Turn{pushOf(0), turn(5, 0, math.MaxInt)})
	if !slices.Equal(e.Net, []string{turnedAt(whole, math.MaxInt%len(whole))}) {
		t.Errorf("spoilt at the greatest At there is %q", e.Net)
	}
}

// At is both the place and the byte.
func TestTurnSpoilOfSeveral(t *testing.T) {
	for at := range 60 {
		turns := []impl.Turn{pushOf(0), pushOf(0), pushOf(0), pushOf(0), pushOf(0), pushOf(0), pushOf(0), turn(5, 0, at)}
		e, _ := impl.RunEnds(10, 500, theTexts(), turns)
		want := []string{theCall(0), theCall(1), theCall(2)}
		want[at%3] = turnedAt(want[at%3], at%len(want[0]))
		if !slices.Equal(e.Net, want) {
			t.Errorf("spoilt at %d there is %q; want %q", at, e.Net, want)
		}
	}
}

func TestTurnCarry(t *testing.T) {
	heard := func(e *impl.Ends) {
		e.Streams[0].Times, e.Streams[0].Due, e.Ids[0] = 1, 2, 1
		e.Streams[1].State, e.Streams[1].Rcv = impl.StHeard, 11
	}
	for _, at := range []int{0, 1, 1000, math.MaxInt} {
		for end := range 2 {
			wantRun(t, theTexts(), []impl.Turn{pushOf(0), turn(2, end, at)}, afterTurns(2, heard))
		}
	}
	wantRun(t, theTexts(), []impl.Turn{pushOf(0), carryAt(0), carryAt(0), pushOf(1), carryAt(0)}, afterTurns(5, func(e *impl.Ends) {
		heard(e)
		e.Streams[1].Times, e.Streams[1].Due, e.Ids[1] = 1, 5, 1
		x := &e.Streams[0]
		x.State, x.Una, x.Rcv, x.Owe, x.Times, x.Due = impl.StOpen, 11, 501, true, 0, 0
	}))
	// Twice, and lost: one of them comes.
	wantRun(t, theTexts(), []impl.Turn{pushOf(0), turn(4, 0, 0), turn(3, 0, 0), carryAt(9)}, afterTurns(4, heard))
	wantRun(t, theTexts(), []impl.Turn{pushOf(0), turn(3, 0, 0), carryAt(9)}, afterTurns(3, func(e *impl.Ends) {
		e.Streams[0].Times, e.Streams[0].Due, e.Ids[0] = 1, 2, 1
	}))
}

// opened are the turns that bring two ends to where both are open.
func opened() []impl.Turn {
	return []impl.Turn{pushOf(0), carryAt(0), pushOf(1), carryAt(0)}
}

func TestTurnCarryOfTwoFrames(t *testing.T) {
	texts := []string{"01234567", ""}
	first := "\x00\x0b\x01\xf5\x02012"
	for _, order := range [][]int{{0, 0, 0}, {1, 0, 0}, {2, 1, 0}, {2, 0, 0}, {1, 1, 0}} {
		turns := append(opened(), pushOf(0))
		for _, at := range order {
			turns = append(turns, carryAt(at))
		}
		e, ok := impl.RunEnds(10, 500, texts, turns)
		x := e.Streams[1]
		if !ok || x.In != "01234567" || len(e.Bits[1]) != 0 || len(e.Net) != 0 {
			t.Errorf("carried in the order %v: %v", order, e)
		}
	}
	e, _ := impl.RunEnds(10, 500, texts, append(opened(), pushOf(0), carryAt(0)))
	if !sameBitsList(e.Bits[1], []impl.Bits{bitsOf(1, 1, 0, 15, piece{0, first})}) || len(e.Bits[0]) != 0 || e.Streams[1].In != "" {
		t.Errorf("with one of two carried there is %v", e)
	}
}

// Ten turns behind a part its bits are gone, at whatever frame is carried then,
// and the other part of it waits by itself.
func TestTurnCarryIsBehindTidyBits(t *testing.T) {
	texts := []string{"01234567", ""}
	// The first part comes at the time 7; behind the other one and a FlagFin a
	// frame is left that is spoilt, to spoil which once more is to let time go by.
	turns := append(opened(), pushOf(0), turn(4, 0, 0), turn(5, 0, 3), carryAt(0))
	for now := 8; now < 30; now++ {
		over := now >= 17
		e, _ := impl.RunEnds(10, 500, texts, append(slices.Clone(turns), carryAt(0)))
		if came := e.Streams[1].In == "01234567"; came == over || len(e.Bits[1]) == 0 == over {
			t.Errorf("the other part comes at %d: %v", now, e)
		}
		for place := 1; place <= 2; place++ {
			e, _ := impl.RunEnds(10, 500, texts, append(slices.Clone(turns), carryAt(place)))
			if gone := len(e.Bits[1]) == 0; gone != over || e.Streams[1].In != "" {
				t.Errorf("the frame %d comes at %d: %v", place, now, e)
			}
		}
		turns = append(turns, turn(5, 0, 2))
	}
}

// Both ends tidy at each frame, also at one that is for the other.
func TestTurnCarryTidiesBothEnds(t *testing.T) {
	texts := []string{"", "01234567"}
	turns := append(opened(), pushOf(0), carryAt(0), pushOf(1), carryAt(0))
	for range 12 {
		turns = append(turns, turn(4, 0, 0), turn(3, 0, 0))
	}
	waits, _ := impl.RunEnds(10, 500, texts, turns)
	if len(waits.Bits[0]) != 1 || len(waits.Net) != 2 {
		t.Fatalf("nothing waits in %v", waits)
	}
	// What is carried is a FlagFin of the end whose bits they are.
	turns = append(turns, pushOf(0), turn(3, 0, 0), turn(3, 0, 0), carryAt(0))
	e, _ := impl.RunEnds(10, 500, texts, turns)
	if len(e.Bits[0]) != 0 {
		t.Errorf("%v wait still", e.Bits)
	}
	want, _ := plainRun(10, 500, texts, turns)
	wantRun(t, texts, turns, want)
}

func drawnTurns(draw func(int) int, count int) []impl.Turn {
	turns, mood := []impl.Turn{}, draw(4)
	for range count {
		kind := []int{1 + draw(5), 1 + draw(2), []int{1, 2, 2, 3, 4, 5}[draw(6)], []int{1, 1, 2, 2, 2, 5}[draw(6)]}[mood]
		at := []int{0, draw(4), draw(60), draw(1 << 20), math.MaxInt - draw(5)}[draw(5)]
		turns = append(turns, turn(kind, draw(2), at))
	}
	return turns
}

func drawnTexts(draw func(int) int) []string {
	texts := []string{}
	for range draw(9) {
		texts = append(texts, drawnText(draw, []int{0, draw(26), 25, draw(9)}[draw(4)]))
	}
	return texts
}

func drawnIss(draw func(int) int) int {
	return []int{0, 65535, 65535 - draw(100), draw(65536)}[draw(4)]
}

// writtenTo is what the other end of each is to take.
func writtenTo(texts []string) [2]string {
	written := [2]string{}
	for at, text := range texts {
		written[1-at%2] += text
	}
	return written
}

func TestDrawnEndsAreAsThePlainOnes(t *testing.T) {
	draw, states := drawsFrom(2014), [5]int{}
	for range 1500 {
		a, b, texts, turns := drawnIss(draw), drawnIss(draw), drawnTexts(draw), drawnTurns(draw, draw(121))
		want, ok := plainRun(a, b, texts, turns)
		if !ok {
			t.Fatal("what is drawn is wrong")
		}
		wantRunOf(t, a, b, texts, turns, want)
		rounds := draw(9) - 1
		wantCalm(t, want, rounds, plainCalm(want, rounds))
		states[want.Streams[1].State]++
	}
	if states[1] < 50 || states[3] < 50 || states[4] < 300 {
		t.Errorf("the states at the end are %v", states)
	}
}

// Promise 14: whatever the turns are, a beginning comes; when it is calm, all.
func TestWhateverTheWireDoes(t *testing.T) {
	draw, some, all := drawsFrom(14014), 0, 0
	for range 2500 {
		texts := drawnTexts(draw)
		written := writtenTo(texts)
		turns := drawnTurns(draw, []int{120, 120, draw(121)}[draw(3)])
		a, b := drawnIss(draw), drawnIss(draw)
		for cut := 0; cut <= len(turns); cut += 30 {
			e, ok := impl.RunEnds(a, b, texts, turns[:cut])
			if !ok {
				t.Fatalf("RunEnds(%d, %d, %q, %v) is false", a, b, texts, turns[:cut])
			}
			wantBeginnings(t, e, written)
		}
		e, _ := impl.RunEnds(a, b, texts, turns)
		wantBeginnings(t, e, written)
		for end, x := range e.Streams {
			if x.In != "" && x.In != written[end] {
				some++
			}
		}
		if impl.Ended(e.Streams[0]) && impl.Ended(e.Streams[1]) {
			all++
		}
		e = impl.CalmEnds(e, 40)
		wantAllCame(t, e, written)
		if more := impl.CalmEnds(e, 5); !slices.Equal(more.Ids, e.Ids) {
			t.Fatalf("ends that have ended push on: %v", more)
		}
	}
	if some < 100 || all < 20 {
		t.Errorf("%d ends had just a beginning, %d pairs had ended", some, all)
	}
}

func wantBeginnings(t *testing.T, e impl.Ends, written [2]string) {
	t.Helper()
	for end, x := range e.Streams {
		if !strings.HasPrefix(written[end], x.In) || !impl.StreamOk(x) {
			t.Fatalf("of %q came %q, and the end is %v", written[end], x.In, x)
		}
	}
}

func wantAllCame(t *testing.T, e impl.Ends, written [2]string) {
	t.Helper()
	for end, x := range e.Streams {
		if x.In != written[end] || !impl.Ended(x) {
			t.Fatalf("of %q came %q, and the end is %v", written[end], x.In, x)
		}
	}
	if len(e.Net) != 0 {
		t.Fatalf("on the Net there is %q still", e.Net)
	}
}

// The same over a wire that does one thing to all that is on it.
func TestWiresThatDoOneThing(t *testing.T) {
	for kind := 1; kind <= 5; kind++ {
		for by := range 24 {
			turns := []impl.Turn{}
			for at := range 40 {
				turns = append(turns, pushOf(at%2), turn(kind, at%2, at*by), carryAt(at*by/2))
			}
			texts := []string{mixedBytes(25), "ab", mixedBytes(20)}
			e, ok := impl.RunEnds(65530, 65520, texts, turns)
			if !ok {
				t.Fatalf("the turns are refused: %v", turns)
			}
			wantBeginnings(t, e, writtenTo(texts))
			wantAllCame(t, impl.CalmEnds(e, 40), writtenTo(texts))
		}
	}
}

func TestCalmEndsOfHowManyRounds(t *testing.T) {
	full := slices.Repeat([]string{mixedBytes(25)}, 8)
	turns := []impl.Turn{pushOf(0), turn(4, 0, 0), turn(5, 0, 0), carryAt(1), pushOf(1), turn(4, 0, 1)}
	for _, e := range []impl.Ends{freshEnds(10, 500, full...), freshEnds(0, 65535)} {
		for rounds, now := range map[int]int{-1: 0, -70: 0, math.MinInt: 0, 0: 0, 1: 70, 2: 140, 3: 210, 99: 6930, 100: 7000, 101: 7000, 102: 7000, 1000: 7000, math.MaxInt: 7000} {
			want := plainCalm(e, rounds)
			if want.Now != now {
				t.Fatalf("Now is %d behind %d rounds", want.Now, rounds)
			}
			wantCalm(t, e, rounds, want)
		}
	}
	e, _ := impl.RunEnds(10, 500, full, turns)
	for rounds := range 30 {
		wantCalm(t, e, rounds, plainCalm(e, rounds))
		wantCalm(t, impl.CalmEnds(e, rounds), 3, plainCalm(e, rounds+3))
	}
}

func TestCalmEndsWrittenOut(t *testing.T) {
	called := func(e *impl.Ends) {
		e.Streams[0].Times, e.Streams[0].Due, e.Ids[0] = 1, 72, 1
		e.Streams[1].State, e.Streams[1].Rcv = impl.StHeard, 11
	}
	// What the first one pushes comes behind the second one's push.
	wantCalm(t, freshEnds(10, 500, "abc", "de"), 1, afterTurns(70, called))
	answered := func(e *impl.Ends) {
		called(e)
		e.Streams[0].Due, e.Streams[0].Times, e.Ids[0] = 0, 0, 2
		x := &e.Streams[0]
		x.State, x.Una, x.Rcv, x.Owe = impl.StOpen, 11, 501, true
		// It is called once more ahead of its answer's coming.
		e.Streams[1].Times, e.Streams[1].Due, e.Ids[1] = 0, 0, 1
	}
	wantCalm(t, freshEnds(10, 500, "abc", "de"), 2, afterTurns(140, answered))
}

// What was on the Net already is carried ahead of what is pushed, each in its
// place: by the order alone the same frames make something else.
func TestCalmEndsCarriesInOrder(t *testing.T) {
	e := freshEnds(10, 500)
	e.Streams[0].Due, e.Streams[1].Due = 1000, 1000
	for at := range e.Streams {
		x := &e.Streams[at]
		x.State, x.Fin, x.Una, x.Rcv = impl.StOpen, impl.FinNone, 11+490*at, 501-490*at
	}
	one, two := framed8(plainSeg(seg(11, 0, 0, "ab")), 1, 2, 7), framed8(plainSeg(seg(10, 0, 0, "xAB")), 1, 2, 8)
	for _, order := range []struct {
		net  []string
		want string
	}{
		{slices.Concat(one, two), "ab"}, {slices.Concat(two, one), "AB"}, {slices.Concat(two, two), "AB"}, {slices.Concat(one, []string{"no frame", ""}, two), "ab"},
	} {
		e.Net = order.net
		want := copyOfEnds(e)
		want.Net, want.Now = nil, 70
		want.Streams[1].In, want.Streams[1].Rcv, want.Streams[1].Owe = order.want, 13, true
		wantCalm(t, e, 1, want)
	}
}

func TestCalmEndsThatAreNotTwo(t *testing.T) {
	whole, _ := impl.RunEnds(10, 500, theTexts(), append(opened(), pushOf(0), pushOf(1)))
	for count := range 5 {
		if count == 2 {
			continue
		}
		streams := slices.Repeat(whole.Streams, 3)[:count]
		bits := slices.Repeat([][]impl.Bits{{bitsOf(1, 2, 3, 4, piece{0, "ab"})}}, count)
		for _, e := range []impl.Ends{
			{Streams: streams, Bits: whole.Bits, Ids: whole.Ids, Net: whole.Net, Now: 9},
			{Streams: whole.Streams, Bits: bits, Ids: whole.Ids, Net: whole.Net, Now: 9},
			{Streams: whole.Streams, Bits: whole.Bits, Ids: make([]int, count), Net: whole.Net, Now: 9},
			{Streams: streams, Bits: bits, Ids: make([]int, count), Net: whole.Net, Now: -9},
		} {
			for _, rounds := range []int{-1, 0, 1, 100, 101} {
				wantCalm(t, e, rounds, e)
			}
		}
	}
	wantCalm(t, impl.Ends{}, 100, impl.Ends{})
	wantCalm(t, impl.Ends{Net: []string{"a"}}, 100, impl.Ends{Net: []string{"a"}})
}

// Ids that are no more right wrap nothing; they are counted on.
func TestCalmEndsOfOddIds(t *testing.T) {
	for _, id := range []int{65534, 65535, 65536, -1, -2, 1 << 32} {
		for _, other := range []int{0, id} {
			e := freshEnds(10, 500, "abc", "de")
			e.Ids = []int{id, other}
			for _, rounds := range []int{1, 2, 3, 10, 100} {
				wantCalm(t, e, rounds, plainCalm(e, rounds))
			}
		}
	}
}

// No call panics, whatever ends it is given.
func TestCalmEndsOfWhateverEnds(t *testing.T) {
	draw, odd := drawsFrom(414), oddInts()
	pick := func() int { return odd[draw(len(odd))] }
	for range 3000 {
		e := impl.Ends{Ids: []int{draw(3), draw(3)}, Now: draw(30)}
		if draw(4) == 0 {
			e.Ids, e.Now = []int{pick(), pick()}, pick()
		}
		for range 2 {
			e.Streams = append(e.Streams, drawnStream(draw))
			e.Bits = append(e.Bits, drawnBits(draw))
		}
		for range draw(8) {
			e.Net = append(e.Net, drawnFrame(draw))
		}
		if draw(8) == 0 {
			e.Streams[draw(2)].Times = pick()
		}
		rounds := draw(5)
		wantCalm(t, e, rounds, plainCalm(e, rounds))
	}
	for _, now := range []int{math.MaxInt, math.MaxInt - 69, math.MinInt, -70, -1, 999999830, 999999831, 999999920, 999999921} {
		e := freshEnds(10, 500, "abc", "de")
		e.Now = now
		for _, rounds := range []int{1, 2, 3} {
			wantCalm(t, e, rounds, plainCalm(e, rounds))
		}
	}
}

// roomyEnds are the ends with something in the spare room behind each list;
// and all of that.
func roomyEnds(e impl.Ends) (impl.Ends, impl.Ends) {
	whole := copyOfEnds(e)
	for at, x := range whole.Streams {
		_, whole.Streams[at].Late = roomyStream(x)
	}
	for at, list := range whole.Bits {
		_, whole.Bits[at] = roomyBits(list)
	}
	whole.Streams = append(whole.Streams, openStream())
	whole.Bits = append(whole.Bits, []impl.Bits{bitsOf(9, 9, 9, 9)})
	whole.Ids, whole.Net = append(whole.Ids, 991, 992), append(whole.Net, "spare1", "spare2")
	cut := impl.Ends{Streams: slices.Clone(whole.Streams)[:len(e.Streams)], Bits: slices.Clone(whole.Bits)[:len(e.Bits)], Ids: whole.Ids[:len(e.Ids)], Net: whole.Net[:len(e.Net)], Now: e.Now}
	for at := range cut.Streams {
		cut.Streams[at].Late = cut.Streams[at].Late[:len(e.Streams[at].Late)]
	}
	for at := range cut.Bits {
		cut.Bits[at] = slices.Clone(cut.Bits[at])[:len(e.Bits[at])]
		for nth := range cut.Bits[at] {
			b := &cut.Bits[at][nth]
			b.Texts, b.Ats = b.Texts[:len(b.Texts)-2], b.Ats[:len(b.Ats)-2]
		}
	}
	return cut, whole
}

// textsOf are all texts of ends, one by one.
func textsOf(e impl.Ends) []string {
	texts := slices.Clone(e.Net)
	for _, x := range e.Streams {
		texts = append(texts, x.Wait, x.In)
		for _, l := range x.Late {
			texts = append(texts, l.Text)
		}
	}
	for _, list := range e.Bits {
		for _, b := range list {
			texts = append(texts, b.Texts...)
		}
	}
	return texts
}

// spoilEnds writes into one list of ends after the other, with its spare room,
// and hands over each time.
func spoilEnds(e impl.Ends, hand func()) {
	for at := range e.Streams {
		spare := e.Streams[at].Late[:cap(e.Streams[at].Late)]
		for nth := range spare {
			spare[nth] = late(-7, "spoilt")
		}
		hand()
	}
	for at := range e.Bits {
		for nth := range e.Bits[at] {
			spoilBits(&e.Bits[at][nth])
			hand()
		}
		spare := e.Bits[at][:cap(e.Bits[at])]
		for nth := range spare {
			spare[nth] = bitsOf(-9, -9, -9, -9)
		}
		hand()
	}
	for at := range cap(e.Ids) {
		e.Ids[:cap(e.Ids)][at] = -77
	}
	for at := range cap(e.Net) {
		e.Net[:cap(e.Net)][at] = "spoilt"
	}
	hand()
}

// wantApart: of each list that was written into the others show nothing.
func wantApart(t *testing.T, e impl.Ends) {
	t.Helper()
	texts := textsOf(e)
	for at, text := range texts {
		for _, other := range texts[:at] {
			if lieTogether(text, other) {
				t.Fatalf("two texts of one answer lie together: %q", text)
			}
		}
	}
	if len(e.Streams) != 2 || len(e.Bits) != 2 {
		return
	}
	right := copyOfEnds(e)
	half := impl.Ends{Streams: e.Streams[:1], Bits: e.Bits[:1]}
	spoilEnds(half, func() {
		if !sameStream(e.Streams[1], right.Streams[1]) || !sameBitsList(e.Bits[1], right.Bits[1]) || !slices.Equal(e.Ids, right.Ids) || !slices.Equal(e.Net, right.Net) {
			t.Fatalf("two lists of one answer share memory: %v", e)
		}
	})
}

func memoryEnds() []impl.Ends {
	draw, list := drawsFrom(614), []impl.Ends{{}, freshEnds(10, 500, "abc", "de"), {Net: []string{theCall(0)}}, {Ids: []int{1, 2, 3}, Bits: [][]impl.Bits{drawnBits(drawsFrom(3))}}}
	for range 60 {
		e, _ := plainRun(10, 500, drawnTexts(draw), drawnTurns(draw, draw(121)))
		list = append(list, e)
	}
	for range 60 {
		e := impl.Ends{Streams: []impl.Stream{drawnStream(draw), drawnStream(draw)}, Bits: [][]impl.Bits{drawnBits(draw), drawnBits(draw)}, Ids: []int{1, 2}, Net: []string{drawnFrame(draw), drawnFrame(draw), drawnFrame(draw)}, Now: 3}
		list = append(list, e)
	}
	return list
}

func TestEndsAreNewAndNotWrittenInto(t *testing.T) {
	for _, e := range memoryEnds() {
		for _, rounds := range []int{-1, 0, 1, 2, 20} {
			cut, whole := roomyEnds(e)
			was := copyOfEnds(whole)
			answer := impl.CalmEnds(cut, rounds)
			if !sameEnds(cut, e) || !sameEnds(whole, was) {
				t.Fatalf("ends were written into: %v; they were %v", cut, e)
			}
			for _, text := range textsOf(answer) {
				if slices.ContainsFunc(textsOf(cut), func(other string) bool { return lieTogether(text, other) }) {
					t.Fatalf("the text %.40q of an answer lies in another one", text)
				}
			}
			wantApart(t, answer)
			spoilEnds(answer, func() {
				if !sameEnds(cut, e) || !sameEnds(whole, was) {
					t.Fatalf("an answer shares memory with %v", e)
				}
			})
			for at := range answer.Streams {
				answer.Streams[at], answer.Bits = impl.Stream{Iss: -5}, nil
			}
			if !sameEnds(cut, e) || !sameEnds(whole, was) {
				t.Fatalf("an answer shares memory with %v", e)
			}
		}
	}
}

func TestRunEndsWritesIntoNothing(t *testing.T) {
	draw := drawsFrom(714)
	for range 200 {
		texts, turns := copyOfTexts(drawnTexts(draw)), drawnTurns(draw, draw(123))
		roomyTexts, roomyTurns := append(slices.Clone(texts), "spare1", "spare2"), append(slices.Clone(turns), turn(9, 9, 9))
		wasTexts, wasTurns := copyOfTexts(roomyTexts), slices.Clone(roomyTurns)
		e, _ := impl.RunEnds(10, 500, roomyTexts[:len(texts)], roomyTurns[:len(turns)])
		for _, text := range textsOf(e) {
			if slices.ContainsFunc(roomyTexts, func(other string) bool { return lieTogether(text, other) }) {
				t.Fatalf("the text %q of an answer lies in another one", text)
			}
		}
		wantApart(t, e)
		if !slices.Equal(roomyTexts, wasTexts) || !slices.Equal(roomyTurns, wasTurns) {
			t.Fatalf("a list was written into: %q, %v", roomyTexts, roomyTurns)
		}
	}
	written, _ := impl.RunEnds(10, 500, []string{"abc"}, nil)
	fresh, _ := impl.EndsNew(1, 2)
	wantApart(t, written)
	wantApart(t, fresh)
}

func TestUnwrapIsNewAndWritesIntoNothing(t *testing.T) {
	_, first, last := longSeg()
	frames := []string{first, last, "", "no frame", turnedAt(last, 4), framed8("x", 1, 2, 3)[0], framed8("\x00\x01\x00\x00\x00xyz", 1, 2, 3)[0], framed8("\x00\x01\x00\x00\x00wxyz", 2, 2, 1)[1]}
	for _, list := range bitLists() {
		for _, frame := range copyOfTexts(frames) {
			for _, now := range []int{-1, 0, 10} {
				cut, whole := roomyBits(list)
				was := copyOfBits(whole)
				left, s, _ := impl.Unwrap(cut, frame, 2, now)
				if !sameBitsList(cut, list) || !sameBitsList(whole, was) {
					t.Fatalf("a list was written into: %v; it was %v", whole, was)
				}
				if lieTogether(s.Body, frame) {
					t.Fatalf("the Body %q lies in its frame", s.Body)
				}
				wantNewBits(t, left, cut, frame, s.Body)
				if !sameBitsList(whole, was) {
					t.Fatalf("an answer shares memory with its list: %v; it was %v", whole, was)
				}
			}
		}
	}
}

func TestWrapIsNew(t *testing.T) {
	for _, s := range edgeSegs() {
		s.Body = strings.Clone(s.Body)
		frames, _ := impl.Wrap(s, 1, 2, 3)
		for at, frame := range frames {
			if lieTogether(frame, s.Body) || at > 0 && lieTogether(frame, frames[at-1]) {
				t.Fatalf("the frame %q lies in another text", frame)
			}
		}
	}
}

// What was answered ahead says nothing of what is answered.
func TestEndsKeepNothing(t *testing.T) {
	s, first, last := longSeg()
	one := bitsOf(1, 3, 0, 15, piece{0, "\x01\x02\x03\x04\x06abc"})
	turns := append(opened(), pushOf(0), carryAt(0))
	want, _ := plainRun(10, 500, theTexts(), turns)
	for range 3 {
		wantWrap(t, s, 1, 2, 3, first, last)
		wantNoWrap(t, s, 0, 2, 3)
		wantNoUnwrap(t, nil, first, one)
		wantUnwrap(t, []impl.Bits{one}, last, s)
		wantRun(t, theTexts(), turns, want)
		wantNoRun(t, 10, 65536, theTexts(), turns)
		wantCalm(t, want, 4, plainCalm(want, 4))
		wantCalm(t, impl.Ends{}, 4, impl.Ends{})
		wantTurnOk(t, pushOf(1), true)
		wantTurnOk(t, pushOf(2), false)
	}
}
