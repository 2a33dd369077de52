package tests

import (
	"math"
	"slices"
	"strings"
	"testing"

	"loop.example/g00232/impl"
)

func ringOf(head, tail int, slots ...impl.Slot) impl.Ring {
	return impl.Ring{Slots: slots, Head: head, Tail: tail}
}

func slotOf(own int, text string) impl.Slot { return impl.Slot{Own: own, Text: text} }

// free is a slot of the driver, posted one of the card.
func free() impl.Slot { return slotOf(0, "") }

func posted(text string) impl.Slot { return slotOf(1, text) }

func freeSlots(count int) []impl.Slot { return slices.Repeat([]impl.Slot{free()}, count) }

func sameRing(a, b impl.Ring) bool {
	return a.Head == b.Head && a.Tail == b.Tail && slices.Equal(a.Slots, b.Slots)
}

// holding is the ring of so many slots in which these texts stand from tail on.
func holding(count, tail int, texts ...string) impl.Ring {
	r := ringOf((tail+len(texts))%count, tail, freeSlots(count)...)
	for at, text := range texts {
		r.Slots[(tail+at)%count] = posted(text)
	}
	return r
}

// unlikeTexts are texts of a slot, no two of one list the same; the longest
// and the shortest that there may be are among the first.
func unlikeTexts(count int) []string {
	lengths := []int{1, 100, 2, 99, 50}
	list := []string{}
	for at := range count {
		list = append(list, string([]byte{byte(at)})+mixedBytes(lengths[at%len(lengths)]-1))
	}
	return list
}

// heldRings has a ring of each size, of each Tail, with each number of slots
// that the card may have: no other ring is right, but for its texts.
func heldRings() []impl.Ring {
	list := []impl.Ring{}
	for count := 1; count <= 8; count++ {
		for tail := range count {
			for held := 0; held <= count; held++ {
				list = append(list, holding(count, tail, unlikeTexts(held)...))
			}
		}
	}
	return list
}

func wrongPlaces(count int) []int {
	return []int{-1, -2, -count, count, count + 1, 2 * count, 8, 9, impl.MaxNumber, 1 << 32, 1 << 33, math.MinInt, math.MinInt + 1, math.MaxInt - 1, math.MaxInt}
}

func wrongOwns() []int { return []int{2, 3, -1, 257, 1 << 32, 1<<32 + 1, math.MinInt, math.MaxInt} }

// ringsOfWrongSize have no slots, or too many; each is right but for that.
func ringsOfWrongSize() []impl.Ring {
	list := []impl.Ring{{}, {Slots: []impl.Slot{}}, ringOf(0, 1), ringOf(-1, -1), ringOf(1, 1), ringOf(math.MaxInt, math.MinInt)}
	for _, count := range []int{9, 10, 16, 17, 100, 1000} {
		list = append(list, holding(count, 0), holding(count, 8), holding(count, 0, "a"), holding(count, 8, "a", "b"), holding(count, 3, unlikeTexts(count)...))
	}
	return list
}

func ringsOfWrongPlaces() []impl.Ring {
	list := []impl.Ring{}
	for _, r := range heldRings() {
		for _, wrong := range wrongPlaces(len(r.Slots)) {
			if wrong >= 0 && wrong < len(r.Slots) {
				continue
			}
			list = append(list, ringOf(wrong, r.Tail, r.Slots...), ringOf(r.Head, wrong, r.Slots...), ringOf(wrong, wrong, r.Slots...))
		}
	}
	return list
}

// withSlot is the ring but for one slot.
func withSlot(r impl.Ring, at int, slot impl.Slot) impl.Ring {
	slots := slices.Clone(r.Slots)
	slots[at] = slot
	return ringOf(r.Head, r.Tail, slots...)
}

// ringsOfOneWrongSlot are right but for one slot each. (A ring of one slot is
// right with that of either; in a greater one a slot alone changes no hands.)
func ringsOfOneWrongSlot() []impl.Ring {
	list := []impl.Ring{}
	for _, r := range heldRings() {
		for at, slot := range r.Slots {
			for _, own := range wrongOwns() {
				list = append(list, withSlot(r, at, slotOf(own, slot.Text)), withSlot(r, at, slotOf(own, "")), withSlot(r, at, slotOf(own, "x")))
			}
			for _, text := range []string{"x", " ", "\x00", mixedBytes(100), mixedBytes(101), mixedBytes(20001)} {
				list = append(list, withSlot(r, at, slotOf(0, text)))
			}
			for _, text := range []string{"", mixedBytes(101), mixedBytes(102), mixedBytes(200), mixedBytes(257), mixedBytes(20001)} {
				list = append(list, withSlot(r, at, posted(text)))
			}
			if len(r.Slots) > 1 && slot.Own == impl.OwnCard {
				list = append(list, withSlot(r, at, free()))
			}
			if len(r.Slots) > 1 && slot.Own == impl.OwnDriver {
				list = append(list, withSlot(r, at, posted("x")))
			}
		}
	}
	return list
}

// ringsOfWrongSpan have right slots and places, which do not go together.
func ringsOfWrongSpan() []impl.Ring {
	list := []impl.Ring{}
	for _, r := range heldRings() {
		count := len(r.Slots)
		for away := 1; away < count; away++ {
			list = append(list, ringOf((r.Head+away)%count, r.Tail, r.Slots...), ringOf(r.Head, (r.Tail+away)%count, r.Slots...))
		}
		if r.Head != r.Tail {
			list = append(list, ringOf(r.Tail, r.Head, r.Slots...))
		}
	}
	return list
}

func wrongRings() []impl.Ring {
	return slices.Concat(ringsOfWrongSize(), ringsOfWrongPlaces(), ringsOfOneWrongSlot(), ringsOfWrongSpan())
}

// plainRingOk holds a ring against each that is right, by its own texts.
func plainRingOk(r impl.Ring) bool {
	count := len(r.Slots)
	if count < 1 || count > 8 || r.Tail < 0 || r.Tail >= count {
		return false
	}
	texts := []string{}
	for held := 0; held <= count; held++ {
		if sameRing(r, holding(count, r.Tail, texts...)) {
			return true
		}
		next := r.Slots[(r.Tail+held)%count].Text
		if len(next) < 1 || len(next) > 100 {
			return false
		}
		texts = append(texts, next)
	}
	return false
}

// smallRings hands on each ring of so many slots that has these few Owns and
// texts, and each place from one ahead of the first to one behind the last.
func smallRings(count int, hand func(impl.Ring)) {
	kinds := []impl.Slot{free(), posted("a"), posted(""), slotOf(0, "b"), slotOf(2, "c"), slotOf(-1, "")}
	eachList([]int{0, 1, 2, 3, 4, 5}, count, func(list []int) {
		slots := []impl.Slot{}
		for _, kind := range list {
			slots = append(slots, kinds[kind])
		}
		for head := -1; head <= count; head++ {
			for tail := -1; tail <= count; tail++ {
				hand(ringOf(head, tail, slots...))
			}
		}
	})
}

func TestRingConstants(t *testing.T) {
	if impl.OwnDriver != 0 || impl.OwnCard != 1 || impl.MaxRing != 8 {
		t.Error("a number of rings is another one")
	}
}

func TestRingNew(t *testing.T) {
	for n := 1; n <= 8; n++ {
		r, ok := impl.RingNew(n)
		if !ok || !sameRing(r, ringOf(0, 0, freeSlots(n)...)) || !impl.RingOk(r) || impl.HeldBy(r) != 0 {
			t.Errorf("RingNew(%d) = %v, %v", n, r, ok)
		}
	}
	for _, n := range []int{0, -1, -2, -8, 9, 10, 16, 1 << 32, 1<<32 + 1, impl.MaxNumber, math.MinInt, math.MinInt + 1, math.MaxInt} {
		if r, ok := impl.RingNew(n); ok || !sameRing(r, impl.Ring{}) {
			t.Errorf("RingNew(%d) = %v, %v; want none", n, r, ok)
		}
	}
}

func wantRingOk(t *testing.T, r impl.Ring, want bool) {
	t.Helper()
	if got := impl.RingOk(r); got != want {
		t.Errorf("RingOk(%.300v) is %v", r, got)
	}
}

func TestRingOkOfFixedRings(t *testing.T) {
	a, b, c := posted("a"), posted("b"), posted("c")
	wantRingOk(t, ringOf(0, 0, free()), true)
	wantRingOk(t, ringOf(0, 0, a), true)
	wantRingOk(t, ringOf(1, 1, free(), free()), true)
	wantRingOk(t, ringOf(1, 1, a, b), true)
	wantRingOk(t, ringOf(1, 0, a, free()), true)
	wantRingOk(t, ringOf(0, 1, free(), b), true)
	wantRingOk(t, ringOf(0, 1, a, free()), false)
	wantRingOk(t, ringOf(1, 0, free(), b), false)
	wantRingOk(t, ringOf(0, 0, a, free()), false)
	wantRingOk(t, ringOf(0, 0, free(), b), false)
	wantRingOk(t, ringOf(1, 2, a, free(), c), true)
	wantRingOk(t, ringOf(1, 3, a, free(), free(), b), true)
	wantRingOk(t, ringOf(1, 2, a, b, c), false)
	wantRingOk(t, ringOf(1, 2, free(), free(), c), false)
	wantRingOk(t, ringOf(2, 0, a, b, c), false)
	wantRingOk(t, ringOf(3, 0, a, b, c), false)
	wantRingOk(t, ringOf(0, 3, a, b, c), false)
	wantRingOk(t, ringOf(-1, 0, free(), free(), free()), false)
	wantRingOk(t, ringOf(0, -1, free(), free(), free()), false)
}

func TestRingOkOfEachRightRing(t *testing.T) {
	for _, r := range heldRings() {
		wantRingOk(t, r, true)
	}
}

func TestRingOkOfWrongRings(t *testing.T) {
	for _, r := range wrongRings() {
		wantRingOk(t, r, false)
	}
}

func TestRingOkOfEachNumberOfSlots(t *testing.T) {
	for count := 1; count <= 40; count++ {
		for held := 0; held <= count; held++ {
			wantRingOk(t, holding(count, 0, unlikeTexts(held)...), count <= 8)
		}
	}
	wantRingOk(t, impl.Ring{}, false)
}

// An empty ring is right wherever Head and Tail are, when that is one place.
func TestRingOkOfEachPlace(t *testing.T) {
	for count := 1; count <= 8; count++ {
		places := []int{-2, -1, 0, 1, count - 2, count - 1, count, count + 1}
		eachList(places, 2, func(at []int) {
			right := at[0] == at[1] && at[0] >= 0 && at[0] < count
			wantRingOk(t, ringOf(at[0], at[1], freeSlots(count)...), right)
			wantRingOk(t, ringOf(at[0], at[1], holding(count, 0, unlikeTexts(count)...).Slots...), right)
		})
	}
}

func TestRingOkOfEachLength(t *testing.T) {
	for length := range 300 {
		text := mixedBytes(length)
		right := length >= 1 && length <= 100
		wantRingOk(t, ringOf(0, 0, posted(text)), right)
		wantRingOk(t, ringOf(1, 2, posted("a"), free(), posted(text)), right)
		wantRingOk(t, ringOf(1, 2, posted(text), free(), posted("a")), right)
		wantRingOk(t, ringOf(1, 1, posted("a"), posted("b"), posted(text)), right)
		wantRingOk(t, ringOf(0, 0, slotOf(0, text)), length == 0)
		wantRingOk(t, ringOf(1, 2, posted("a"), slotOf(0, text), posted("b")), length == 0)
	}
}

// Any bytes are a text.
func TestRingOkOfEachByte(t *testing.T) {
	for b := range 256 {
		text := string([]byte{byte(b)})
		wantRingOk(t, ringOf(0, 0, posted(text)), true)
		wantPost(t, ringOf(0, 0, free()), text, ringOf(0, 0, posted(text)))
		wantTake(t, ringOf(0, 0, posted(text)), text, ringOf(0, 0, free()))
	}
}

func TestRingOkOfEverySmallRing(t *testing.T) {
	right := 0
	for count := range 5 {
		smallRings(count, func(r impl.Ring) {
			want := plainRingOk(r)
			wantRingOk(t, r, want)
			if want {
				right++
			}
		})
	}
	if right != 2+6+12+20 {
		t.Errorf("%d small rings are right", right)
	}
}

func wantPost(t *testing.T, r impl.Ring, s string, want impl.Ring) {
	t.Helper()
	got, ok := impl.PostRing(r, s)
	if !ok || !sameRing(got, want) || !impl.RingOk(got) {
		t.Errorf("PostRing(%.300v, %.120q) = %.300v, %v; want %.300v", r, s, got, ok, want)
	}
}

func wantNoPost(t *testing.T, r impl.Ring, s string) {
	t.Helper()
	if got, ok := impl.PostRing(r, s); ok || !sameRing(got, r) {
		t.Errorf("PostRing(%.300v, %.120q) = %.300v, %v; want it as it is", r, s, got, ok)
	}
}

func wantTake(t *testing.T, r impl.Ring, text string, want impl.Ring) {
	t.Helper()
	got, s, ok := impl.TakeRing(r)
	if !ok || s != text || !sameRing(got, want) || !impl.RingOk(got) {
		t.Errorf("TakeRing(%.300v) = %.300v, %.120q, %v; want %.300v, %.120q", r, got, s, ok, want, text)
	}
}

func wantNoTake(t *testing.T, r impl.Ring) {
	t.Helper()
	if got, s, ok := impl.TakeRing(r); ok || s != "" || !sameRing(got, r) {
		t.Errorf("TakeRing(%.300v) = %.300v, %.120q, %v; want it as it is", r, got, s, ok)
	}
}

func TestPostRingOfFixedRings(t *testing.T) {
	a, b := posted("a"), posted("b")
	wantPost(t, ringOf(0, 0, free()), "a", ringOf(0, 0, a))
	wantPost(t, ringOf(0, 0, free(), free()), "a", ringOf(1, 0, a, free()))
	wantPost(t, ringOf(1, 0, a, free()), "b", ringOf(0, 0, a, b))
	wantPost(t, ringOf(1, 1, free(), free()), "b", ringOf(0, 1, free(), b))
	wantPost(t, ringOf(0, 1, free(), b), "a", ringOf(1, 1, a, b))
	wantPost(t, ringOf(2, 2, free(), free(), free()), "b", ringOf(0, 2, free(), free(), b))
	wantPost(t, ringOf(7, 7, freeSlots(8)...), "b", ringOf(0, 7, append(freeSlots(7), b)...))
	wantPost(t, ringOf(0, 0, freeSlots(8)...), "b", ringOf(1, 0, append([]impl.Slot{b}, freeSlots(7)...)...))
	wantNoPost(t, ringOf(0, 0, a), "x")
	wantNoPost(t, ringOf(0, 0, a, b), "x")
	wantNoPost(t, ringOf(1, 1, a, b), "x")
}

// One more than held stands behind them, unless the ring is full.
func TestPostRingOfEachRightRing(t *testing.T) {
	for _, r := range heldRings() {
		count, held := len(r.Slots), impl.HeldBy(r)
		for _, s := range []string{"new", "\x00", " ", mixedBytes(100), unlikeTexts(1)[0]} {
			if held == count {
				wantNoPost(t, r, s)
			} else {
				wantPost(t, r, s, holding(count, r.Tail, append(unlikeTexts(held), s)...))
			}
		}
	}
}

func TestPostRingOfEachLength(t *testing.T) {
	for length := range 300 {
		s := mixedBytes(length)
		wantNoPost(t, ringOf(0, 0, posted("a")), s)
		if length < 1 || length > 100 {
			wantNoPost(t, ringOf(0, 0, free(), free()), s)
			wantNoPost(t, ringOf(1, 0, posted("a"), free()), s)
		} else {
			wantPost(t, ringOf(0, 0, free(), free()), s, ringOf(1, 0, posted(s), free()))
			wantPost(t, ringOf(1, 0, posted("a"), free()), s, ringOf(0, 0, posted("a"), posted(s)))
		}
	}
	for _, length := range []int{356, 1000, 20000, 20001, 65537} {
		wantNoPost(t, ringOf(0, 0, free()), mixedBytes(length))
	}
}

func TestPostRingOfWrongRings(t *testing.T) {
	for _, r := range wrongRings() {
		wantNoPost(t, r, "x")
	}
	for _, r := range slices.Concat(ringsOfWrongSize(), heldRings()) {
		wantNoPost(t, r, "")
		wantNoPost(t, r, mixedBytes(101))
	}
}

func TestTakeRingOfFixedRings(t *testing.T) {
	a, b := posted("a"), posted("b")
	wantTake(t, ringOf(0, 0, a), "a", ringOf(0, 0, free()))
	wantTake(t, ringOf(0, 0, a, b), "a", ringOf(0, 1, free(), b))
	wantTake(t, ringOf(0, 1, free(), b), "b", ringOf(0, 0, free(), free()))
	wantTake(t, ringOf(1, 1, a, b), "b", ringOf(1, 0, a, free()))
	wantTake(t, ringOf(1, 0, a, free()), "a", ringOf(1, 1, free(), free()))
	wantTake(t, ringOf(1, 2, a, free(), b), "b", ringOf(1, 0, a, free(), free()))
	wantTake(t, ringOf(0, 7, append(freeSlots(7), b)...), "b", ringOf(0, 0, freeSlots(8)...))
	wantNoTake(t, ringOf(0, 0, free()))
	wantNoTake(t, ringOf(0, 0, free(), free()))
	wantNoTake(t, ringOf(1, 1, free(), free()))
}

// The first of those that are held is gone, unless there is none.
func TestTakeRingOfEachRightRing(t *testing.T) {
	for _, r := range heldRings() {
		count, texts := len(r.Slots), unlikeTexts(impl.HeldBy(r))
		if len(texts) == 0 {
			wantNoTake(t, r)
		} else {
			wantTake(t, r, texts[0], holding(count, (r.Tail+1)%count, texts[1:]...))
		}
	}
}

func TestTakeRingOfWrongRings(t *testing.T) {
	for _, r := range wrongRings() {
		wantNoTake(t, r)
	}
}

func TestPostAndTakeOfEverySmallRing(t *testing.T) {
	for count := range 5 {
		smallRings(count, func(r impl.Ring) {
			right := plainRingOk(r)
			if _, ok := impl.PostRing(r, "x"); ok != (right && r.Slots[r.Head] == free()) {
				t.Errorf("PostRing(%v) is %v", r, ok)
			}
			if _, _, ok := impl.TakeRing(r); ok != (right && r.Slots[r.Tail] != free()) {
				t.Errorf("TakeRing(%v) is %v", r, ok)
			}
			if !right {
				wantNoPost(t, r, "x")
				wantNoTake(t, r)
			}
		})
	}
}

func wantHeld(t *testing.T, r impl.Ring, want int) {
	t.Helper()
	if got := impl.HeldBy(r); got != want {
		t.Errorf("HeldBy(%.300v) = %d; want %d", r, got, want)
	}
}

func TestHeldByOfEachRightRing(t *testing.T) {
	for count := 1; count <= 8; count++ {
		for tail := range count {
			for held := 0; held <= count; held++ {
				wantHeld(t, holding(count, tail, unlikeTexts(held)...), held)
			}
		}
	}
}

// The chapter names no other answer for a ring that is not right.
func TestHeldByOfWrongRings(t *testing.T) {
	a := posted("a")
	wantHeld(t, impl.Ring{}, 0)
	wantHeld(t, ringOf(5, 6), 0)
	wantHeld(t, ringOf(-1, 9, a, free(), a), 2)
	wantHeld(t, ringOf(0, 0, free(), a, a), 2)
	wantHeld(t, ringOf(1, 0, free(), a), 1)
	wantHeld(t, ringOf(math.MaxInt, math.MinInt, a), 1)
	wantHeld(t, ringOf(0, 0, posted(""), posted(mixedBytes(101))), 2)
	wantHeld(t, ringOf(0, 0, slotOf(0, "x"), slotOf(0, mixedBytes(50))), 0)
	wantHeld(t, holding(9, 0), 0)
	wantHeld(t, holding(9, 0, unlikeTexts(9)...), 9)
	wantHeld(t, holding(1000, 3, unlikeTexts(700)...), 700)
	for _, own := range wrongOwns() {
		wantHeld(t, ringOf(0, 0, slotOf(own, "x"), slotOf(own, ""), a), 1)
	}
	for _, r := range wrongRings() {
		held := 0
		for _, slot := range r.Slots {
			if slot.Own == 1 {
				held++
			}
		}
		wantHeld(t, r, held)
	}
}

// A full ring takes no more, and has all that it had.
func TestRingsThatAreFull(t *testing.T) {
	for count := 1; count <= 8; count++ {
		for tail := range count {
			r := ringOf(tail, tail, freeSlots(count)...)
			texts := unlikeTexts(count)
			for at, text := range texts {
				wantPost(t, r, text, holding(count, tail, texts[:at+1]...))
				r, _ = impl.PostRing(r, text)
			}
			for range 3 {
				wantNoPost(t, r, "more")
				r, _ = impl.PostRing(r, "more")
			}
			if r.Head != tail || r.Tail != tail || impl.HeldBy(r) != count {
				t.Errorf("a full ring of %d is %v", count, r)
			}
			for at, text := range texts {
				wantTake(t, r, text, holding(count, (tail+at+1)%count, texts[at+1:]...))
				r, _, _ = impl.TakeRing(r)
			}
			wantNoTake(t, r)
		}
	}
}

// With each number of texts held, a ring is gone round several times: one is
// posted, one is taken.
func TestWhatIsPostedIsTakenOverManyRounds(t *testing.T) {
	for count := 1; count <= 8; count++ {
		for ahead := range count {
			r, _ := impl.RingNew(count)
			texts := unlikeTexts(100)
			for _, text := range texts[:ahead] {
				r, _ = impl.PostRing(r, text)
			}
			for at := ahead; at < len(texts); at++ {
				after, came := impl.PostRing(r, texts[at])
				then, text, taken := impl.TakeRing(after)
				if !came || !taken || text != texts[at-ahead] || !sameRing(then, holding(count, (at-ahead+1)%count, texts[at-ahead+1:at+1]...)) {
					t.Fatalf("at %d of a ring of %d: %v, %v, %.120q", at, count, came, taken, text)
				}
				r = then
			}
		}
	}
}

// Whatever is done in turns, a ring is a row of at most so many texts, and
// each slot is the driver's or the card's.
func TestWhatIsPostedIsTakenInDrawnTurns(t *testing.T) {
	for seed := range 400 {
		count := 1 + seed%8
		draw := func(n int) int {
			seed = (seed*1103515245 + 12345) % 2147483648
			return seed / 65536 % n
		}
		r, _ := impl.RingNew(count)
		row := []string{}
		tail := 0
		for range 200 {
			if draw(2) == 0 {
				text := mixedBytes(draw(103))
				after, ok := impl.PostRing(r, text)
				if ok != (len(row) < count && len(text) >= 1 && len(text) <= 100) {
					t.Fatalf("PostRing(%.300v) of %d bytes is %v", r, len(text), ok)
				}
				if ok {
					row = append(row, text)
				}
				r = after
			} else {
				after, text, ok := impl.TakeRing(r)
				if ok != (len(row) > 0) || ok && text != row[0] || !ok && text != "" {
					t.Fatalf("TakeRing(%.300v) = %.120q, %v", r, text, ok)
				}
				if ok {
					row = row[1:]
					tail = (tail + 1) % count
				}
				r = after
			}
			if !impl.RingOk(r) || impl.HeldBy(r) != len(row) || !sameRing(r, holding(count, tail, row...)) {
				t.Fatalf("the ring is %.300v; want %.300v", r, holding(count, tail, row...))
			}
		}
	}
}

// roomyRing has spare room behind its slots, which are all in the second.
func roomyRing(r impl.Ring) (impl.Ring, []impl.Slot) {
	whole := append(slices.Clone(r.Slots), posted("spare"), slotOf(7, "room"), free())
	return ringOf(r.Head, r.Tail, whole[:len(r.Slots)]...), whole
}

func TestRingsAreNotWrittenInto(t *testing.T) {
	for _, one := range append(heldRings(), wrongRings()...) {
		r, whole := roomyRing(one)
		was := slices.Clone(whole)
		impl.RingOk(r)
		impl.HeldBy(r)
		impl.TakeRing(r)
		for _, s := range []string{"x", "", mixedBytes(101)} {
			impl.PostRing(r, s)
		}
		if !slices.Equal(whole, was) {
			t.Fatalf("a ring was written into: %.300v; it was %.300v", whole, was)
		}
	}
}

// ownTexts has each text in memory of its own, so that what is shared is told.
func ownTexts(r impl.Ring) impl.Ring {
	slots := slices.Clone(r.Slots)
	for at := range slots {
		slots[at].Text = strings.Clone(slots[at].Text)
	}
	return ringOf(r.Head, r.Tail, slots...)
}

// wantNewRing spoils what was answered, with its spare room, and asks whether
// what it came from is told of it.
func wantNewRing(t *testing.T, answer, from impl.Ring, texts ...string) {
	t.Helper()
	was := slices.Clone(from.Slots)
	for _, old := range from.Slots {
		texts = append(texts, old.Text)
	}
	for _, slot := range answer.Slots {
		for _, text := range texts {
			if lieTogether(slot.Text, text) {
				t.Fatalf("a text that is answered lies in an argument: %.300v", from)
			}
		}
	}
	spare := answer.Slots[:cap(answer.Slots)]
	for at := range spare {
		spare[at] = slotOf(9, "spoilt")
	}
	if !slices.Equal(from.Slots, was) {
		t.Fatalf("an answer shares its slots with an argument: %.300v", was)
	}
}

func TestRingsThatAreAnsweredAreNew(t *testing.T) {
	for _, one := range slices.Concat(heldRings(), ringsOfWrongSize(), ringsOfWrongSpan(), ringsOfOneWrongSlot()[:900]) {
		if len(one.Slots) > 100 {
			continue
		}
		r := ownTexts(one)
		for _, s := range []string{mixedBytes(40), mixedBytes(100), mixedBytes(101)} {
			after, _ := impl.PostRing(r, s)
			wantNewRing(t, after, r, s)
		}
		after, text, _ := impl.TakeRing(r)
		wantNewRing(t, after, r, text)
		for _, slot := range r.Slots {
			if lieTogether(text, slot.Text) {
				t.Fatalf("the text that is taken lies in the ring: %.300v", r)
			}
		}
	}
}

func TestNewRingsShareNothing(t *testing.T) {
	first, _ := impl.RingNew(4)
	second, _ := impl.RingNew(4)
	wantNewRing(t, first, second)
	wantPost(t, second, "a", holding(4, 0, "a"))
}

// What was answered ahead says nothing of what is answered.
func TestRingsKeepNothing(t *testing.T) {
	full, empty := holding(2, 1, "a", "b"), holding(2, 1)
	for range 3 {
		wantNoPost(t, full, "x")
		wantTake(t, full, "a", holding(2, 0, "b"))
		wantNoTake(t, empty)
		wantPost(t, empty, "c", holding(2, 1, "c"))
		wantNoPost(t, impl.Ring{}, "x")
		wantNoTake(t, impl.Ring{})
		wantHeld(t, full, 2)
		wantHeld(t, empty, 0)
	}
}
