/-
  The walks of laws.eqEnds, markEnds, heldEnds over two new ends.
-/
import Derived.Test.YthkkhmmcgjcedaaEndsEq
import Derived.Test.YthkkhmmcgjcedaaEndsMark
import Derived.Test.YthkkhmmcgjcedaaEndsHeld
import Derived.Test.YthkkhmmcgjcedaaIntEq
import Derived.Test.YthkkhmmcgjcedaaIntMark
import Derived.Test.YthkkhmmcgjcedaaIntHeld
namespace Go.Proofs.Ythkkhmmcgjcedaa
open Go.RowKit

theorem ints_two {w : World} {r : Nat} {a b : Int} (h : BlockIs w r 3 [.int .i64 a, .int .i64 b]) : IntsAt w (some ⟨r, 0, none⟩) [a, b] := intsAt_of (r := []) h
/-- nothing but two blocks has turned -/
def Just2 (p r : Nat) (w w' : World) : Prop := (∀ j t cs, j ≠ p → j ≠ r → BlockIs w j t cs → BlockIs w' j t cs) ∧ ∀ m, m ≤ p → m ≤ r → m ≤ w.heap.size → Below m w w'
def EndsMarked (w : World) (p q r : Nat) : Prop := BlockIs w p 42 [.int .i64 1, .int .i64 2, .int .i64 3, .int .i64 4, .string (mtx 5), .int .i64 6, .int .i64 7, .bool false, .string (mtx 9), .slice none 0 0, .bool false, .int .i64 11, .int .i64 12, .int .i64 13, .int .i64 14, .int .i64 15, .int .i64 16, .string (mtx 17), .int .i64 18, .int .i64 19, .bool false, .string (mtx 21), .slice none 0 0, .bool false, .int .i64 23, .int .i64 24] ∧ (∃ a1 c1 a2 c2, BlockIs w q 45 [.slice a1 0 c1, .slice a2 0 c2]) ∧ BlockIs w r 3 [.int .i64 25, .int .i64 26]
theorem EndsMarked.on {w w' : World} {p q r : Nat} (h : EndsMarked w p q r) (hb : Below w.heap.size w w') : EndsMarked w' p q r := by
  obtain ⟨c, ⟨a1, c1, a2, c2, f⟩, j⟩ := h
  exact ⟨c.on hb c.lt, ⟨a1, c1, a2, c2, f.on hb f.lt⟩, j.on hb j.lt⟩
theorem EndsHold.kept2 {w w' : World} {lo hi lo' hi' : Nat} {x y : StrD} {p q r p' r' : Nat} (h : EndsHold w lo hi x y p q r) (hk : Just2 p' r' w w') (hp : lo' ≤ p' ∧ p' < hi') (hr : lo' ≤ r' ∧ r' < hi') (ho : hi ≤ lo' ∨ hi' ≤ lo) : EndsHold w' lo hi x y p q r := by
  obtain ⟨⟨a, b, c⟩, ⟨d, e, a1, c1, a2, c2, f⟩, g, i, j⟩ := h
  exact ⟨⟨a, b, hk.1 _ _ _ (by omega) (by omega) c⟩, ⟨d, e, a1, c1, a2, c2, hk.1 _ _ _ (by omega) (by omega) f⟩, g, i, hk.1 _ _ _ (by omega) (by omega) j⟩
set_option maxRecDepth 1000000 in
set_option maxHeartbeats 2000000 in
theorem eqEnds_two (lo hi lo' hi' : Nat) (x y : StrD) (hx : x.late = []) (hy : y.late = []) (p q r p' q' r' : Nat) (w : World) (h : EndsHold w lo hi x y p q r) (h' : EndsHold w lo' hi' x y p' q' r') : Calls Try.prog 10 #[.agg #[.slice (some ⟨p, 0, none⟩) 2 2, .slice (some ⟨q, 0, none⟩) 2 2, .slice (some ⟨r, 0, none⟩) 2 2, .slice none 0 0, .int .i64 0], .agg #[.slice (some ⟨p', 0, none⟩) 2 2, .slice (some ⟨q', 0, none⟩) 2 2, .slice (some ⟨r', 0, none⟩) 2 2, .slice none 0 0, .int .i64 0]] w fun e w' => e = .returned (.bool true) ∧ Below w.heap.size w w' := by
  have hx0 : BlockIs (w.alloc (.cells #[.slice (some ⟨p, 0, none⟩) 2 2, .slice (some ⟨q, 0, none⟩) 2 2, .slice (some ⟨r, 0, none⟩) 2 2, .slice none 0 0, .int .i64 0] 33)) w.heap.size 33 [.slice (some ⟨p, 0, none⟩) 2 2, .slice (some ⟨q, 0, none⟩) 2 2, .slice (some ⟨r, 0, none⟩) 2 2, .slice none 0 0, .int .i64 0] := heap_alloc_new w _
  have bb := below_more (Below.refl (w.alloc (.cells #[.slice (some ⟨p, 0, none⟩) 2 2, .slice (some ⟨q, 0, none⟩) 2 2, .slice (some ⟨r, 0, none⟩) 2 2, .slice none 0 0, .int .i64 0] 33)).heap.size (w.alloc (.cells #[.slice (some ⟨p, 0, none⟩) 2 2, .slice (some ⟨q, 0, none⟩) 2 2, .slice (some ⟨r, 0, none⟩) 2 2, .slice none 0 0, .int .i64 0] 33))) (.cells #[.slice (some ⟨p', 0, none⟩) 2 2, .slice (some ⟨q', 0, none⟩) 2 2, .slice (some ⟨r', 0, none⟩) 2 2, .slice none 0 0, .int .i64 0] 33)
  have X0 := hid (hx0.on bb hx0.lt)
  have hx1 : BlockIs ((w.alloc (.cells #[.slice (some ⟨p, 0, none⟩) 2 2, .slice (some ⟨q, 0, none⟩) 2 2, .slice (some ⟨r, 0, none⟩) 2 2, .slice none 0 0, .int .i64 0] 33)).alloc (.cells #[.slice (some ⟨p', 0, none⟩) 2 2, .slice (some ⟨q', 0, none⟩) 2 2, .slice (some ⟨r', 0, none⟩) 2 2, .slice none 0 0, .int .i64 0] 33)) (w.alloc (.cells #[.slice (some ⟨p, 0, none⟩) 2 2, .slice (some ⟨q, 0, none⟩) 2 2, .slice (some ⟨r, 0, none⟩) 2 2, .slice none 0 0, .int .i64 0] 33)).heap.size 33 [.slice (some ⟨p', 0, none⟩) 2 2, .slice (some ⟨q', 0, none⟩) 2 2, .slice (some ⟨r', 0, none⟩) 2 2, .slice none 0 0, .int .i64 0] := heap_alloc_new _ _
  rw [alloc_one] at hx1
  have X1 := hid hx1
  have B0 := hid (below_more (below_more (Below.refl w.heap.size w) (.cells #[.slice (some ⟨p, 0, none⟩) 2 2, .slice (some ⟨q, 0, none⟩) 2 2, .slice (some ⟨r, 0, none⟩) 2 2, .slice none 0 0, .int .i64 0] 33)) (.cells #[.slice (some ⟨p', 0, none⟩) 2 2, .slice (some ⟨q', 0, none⟩) 2 2, .slice (some ⟨r', 0, none⟩) 2 2, .slice none 0 0, .int .i64 0] 33))
  obtain ⟨W, hW⟩ : ∃ W, (w.alloc (.cells #[.slice (some ⟨p, 0, none⟩) 2 2, .slice (some ⟨q, 0, none⟩) 2 2, .slice (some ⟨r, 0, none⟩) 2 2, .slice none 0 0, .int .i64 0] 33)).alloc (.cells #[.slice (some ⟨p', 0, none⟩) 2 2, .slice (some ⟨q', 0, none⟩) 2 2, .slice (some ⟨r', 0, none⟩) 2 2, .slice none 0 0, .int .i64 0] 33) = W := ⟨_, rfl⟩
  rw [hW] at B0 X0 X1
  clear hx0 hx1 bb
  obtain ⟨⟨_, _, hp⟩, ⟨_, _, a1, c1, a2, c2, hq⟩, _, _, hr⟩ := h
  obtain ⟨⟨_, _, hp'⟩, ⟨_, _, b1, d1, b2, d2, hq'⟩, _, _, hr'⟩ := h'
  have HP := hid hp
  have HQ := hid hq
  have HR := hid hr
  have HPZ := hid hp'
  have HQZ := hid hq'
  have HRZ := hid hr'
  clear hp hq hr hp' hq' hr'
  have x0 := X0.out.cell (j := 0) rfl
  have x1 := X0.out.cell (j := 1) rfl
  have x2 := X0.out.cell (j := 2) rfl
  have x3 := X0.out.cell (j := 3) rfl
  have x4 := X0.out.cell (j := 4) rfl
  have y0 := X1.out.cell (j := 0) rfl
  have y1 := X1.out.cell (j := 1) rfl
  have y2 := X1.out.cell (j := 2) rfl
  have y3 := X1.out.cell (j := 3) rfl
  have y4 := X1.out.cell (j := 4) rfl
  go_enter Try.func10, Try.ntmps10
  go_wp2_with fail
  refine Calls.mono (eqStreamS_two p p' x y hx hy _ (HP.out.on B0.out HP.out.lt) (HPZ.out.on B0.out HPZ.out.lt)) ?_
  rintro e w1 ⟨rfl, b1⟩
  have B1 := hid (below_via B0.out b1)
  have X0_1 := hid (X0.out.on b1 X0.out.lt)
  have X1_1 := hid (X1.out.on b1 X1.out.lt)
  clear b1 x0 x1 x2 x3 x4 y0 y1 y2 y3 y4 hW
  have x0 := X0_1.out.cell (j := 0) rfl
  have x1 := X0_1.out.cell (j := 1) rfl
  have x2 := X0_1.out.cell (j := 2) rfl
  have x3 := X0_1.out.cell (j := 3) rfl
  have x4 := X0_1.out.cell (j := 4) rfl
  have y0 := X1_1.out.cell (j := 0) rfl
  have y1 := X1_1.out.cell (j := 1) rfl
  have y2 := X1_1.out.cell (j := 2) rfl
  have y3 := X1_1.out.cell (j := 3) rfl
  have y4 := X1_1.out.cell (j := 4) rfl
  go_wp2_with fail
  refine Calls.mono (eqBitsSS_two q q' a1 a2 b1 b2 c1 c2 d1 d2 _ (HQ.out.on B1.out HQ.out.lt) (HQZ.out.on B1.out HQZ.out.lt)) ?_
  rintro e w2 ⟨rfl, b2⟩
  have B2 := hid (below_via B1.out b2)
  have X0_2 := hid (X0_1.out.on b2 X0_1.out.lt)
  have X1_2 := hid (X1_1.out.on b2 X1_1.out.lt)
  clear b2 x0 x1 x2 x3 x4 y0 y1 y2 y3 y4
  have x0 := X0_2.out.cell (j := 0) rfl
  have x1 := X0_2.out.cell (j := 1) rfl
  have x2 := X0_2.out.cell (j := 2) rfl
  have x3 := X0_2.out.cell (j := 3) rfl
  have x4 := X0_2.out.cell (j := 4) rfl
  have y0 := X1_2.out.cell (j := 0) rfl
  have y1 := X1_2.out.cell (j := 1) rfl
  have y2 := X1_2.out.cell (j := 2) rfl
  have y3 := X1_2.out.cell (j := 3) rfl
  have y4 := X1_2.out.cell (j := 4) rfl
  go_wp2_with fail
  refine Calls.mono (eqIntS_same (some ⟨r, 0, none⟩) (some ⟨r', 0, none⟩) [0, 0] 2 2 (by simp) _ (ints_two (HR.out.on B2.out HR.out.lt)) (ints_two (HRZ.out.on B2.out HRZ.out.lt))) ?_
  rintro e w3 ⟨rfl, b3⟩
  have B3 := hid (below_via B2.out b3)
  have X0_3 := hid (X0_2.out.on b3 X0_2.out.lt)
  have X1_3 := hid (X1_2.out.on b3 X1_2.out.lt)
  clear b3 x0 x1 x2 x3 x4 y0 y1 y2 y3 y4
  have x0 := X0_3.out.cell (j := 0) rfl
  have x1 := X0_3.out.cell (j := 1) rfl
  have x2 := X0_3.out.cell (j := 2) rfl
  have x3 := X0_3.out.cell (j := 3) rfl
  have x4 := X0_3.out.cell (j := 4) rfl
  have y0 := X1_3.out.cell (j := 0) rfl
  have y1 := X1_3.out.cell (j := 1) rfl
  have y2 := X1_3.out.cell (j := 2) rfl
  have y3 := X1_3.out.cell (j := 3) rfl
  have y4 := X1_3.out.cell (j := 4) rfl
  go_wp2_with fail
  refine Calls.mono (eqStringS_nil none none 0 0 _) ?_
  rintro e u9 ⟨rfl, hw9⟩
  rw [hw9]
  clear hw9 u9
  go_wp2
  go_ret
  exact ⟨rfl, B3.out⟩
set_option maxRecDepth 1000000 in
set_option maxHeartbeats 2000000 in
theorem eqEnds_none (w : World) : Calls Try.prog 10 #[.agg #[.slice none 0 0, .slice none 0 0, .slice none 0 0, .slice none 0 0, .int .i64 0], .agg #[.slice none 0 0, .slice none 0 0, .slice none 0 0, .slice none 0 0, .int .i64 0]] w fun e w' => e = .returned (.bool true) ∧ Below w.heap.size w w' := by
  have hx0 : BlockIs (w.alloc (.cells #[.slice none 0 0, .slice none 0 0, .slice none 0 0, .slice none 0 0, .int .i64 0] 33)) w.heap.size 33 [.slice none 0 0, .slice none 0 0, .slice none 0 0, .slice none 0 0, .int .i64 0] := heap_alloc_new w _
  have bb := below_more (Below.refl (w.alloc (.cells #[.slice none 0 0, .slice none 0 0, .slice none 0 0, .slice none 0 0, .int .i64 0] 33)).heap.size (w.alloc (.cells #[.slice none 0 0, .slice none 0 0, .slice none 0 0, .slice none 0 0, .int .i64 0] 33))) (.cells #[.slice none 0 0, .slice none 0 0, .slice none 0 0, .slice none 0 0, .int .i64 0] 33)
  have X0 := hid (hx0.on bb hx0.lt)
  have hx1 : BlockIs ((w.alloc (.cells #[.slice none 0 0, .slice none 0 0, .slice none 0 0, .slice none 0 0, .int .i64 0] 33)).alloc (.cells #[.slice none 0 0, .slice none 0 0, .slice none 0 0, .slice none 0 0, .int .i64 0] 33)) (w.alloc (.cells #[.slice none 0 0, .slice none 0 0, .slice none 0 0, .slice none 0 0, .int .i64 0] 33)).heap.size 33 [.slice none 0 0, .slice none 0 0, .slice none 0 0, .slice none 0 0, .int .i64 0] := heap_alloc_new _ _
  rw [alloc_one] at hx1
  have X1 := hid hx1
  have B0 := hid (below_more (below_more (Below.refl w.heap.size w) (.cells #[.slice none 0 0, .slice none 0 0, .slice none 0 0, .slice none 0 0, .int .i64 0] 33)) (.cells #[.slice none 0 0, .slice none 0 0, .slice none 0 0, .slice none 0 0, .int .i64 0] 33))
  obtain ⟨W, hW⟩ : ∃ W, (w.alloc (.cells #[.slice none 0 0, .slice none 0 0, .slice none 0 0, .slice none 0 0, .int .i64 0] 33)).alloc (.cells #[.slice none 0 0, .slice none 0 0, .slice none 0 0, .slice none 0 0, .int .i64 0] 33) = W := ⟨_, rfl⟩
  rw [hW] at B0 X0 X1
  clear hx0 hx1 bb
  have x0 := X0.out.cell (j := 0) rfl
  have x1 := X0.out.cell (j := 1) rfl
  have x2 := X0.out.cell (j := 2) rfl
  have x3 := X0.out.cell (j := 3) rfl
  have x4 := X0.out.cell (j := 4) rfl
  have y0 := X1.out.cell (j := 0) rfl
  have y1 := X1.out.cell (j := 1) rfl
  have y2 := X1.out.cell (j := 2) rfl
  have y3 := X1.out.cell (j := 3) rfl
  have y4 := X1.out.cell (j := 4) rfl
  go_enter Try.func10, Try.ntmps10
  go_wp2_with fail
  refine Calls.mono (eqStreamS_nil none none 0 0 _) ?_
  rintro e u9 ⟨rfl, hw9⟩
  rw [hw9]
  clear hw9 u9
  go_wp2_with fail
  refine Calls.mono (eqBitsSS_nil none none 0 0 _) ?_
  rintro e u9 ⟨rfl, hw9⟩
  rw [hw9]
  clear hw9 u9
  go_wp2_with fail
  refine Calls.mono (eqIntS_same none none [] 0 0 (by simp) _ (fun h => absurd rfl h) (fun h => absurd rfl h)) ?_
  rintro e w3 ⟨rfl, b3⟩
  have B3 := hid (below_via B0.out b3)
  have X0_3 := hid (X0.out.on b3 X0.out.lt)
  have X1_3 := hid (X1.out.on b3 X1.out.lt)
  clear b3 x0 x1 x2 x3 x4 y0 y1 y2 y3 y4
  have x0 := X0_3.out.cell (j := 0) rfl
  have x1 := X0_3.out.cell (j := 1) rfl
  have x2 := X0_3.out.cell (j := 2) rfl
  have x3 := X0_3.out.cell (j := 3) rfl
  have x4 := X0_3.out.cell (j := 4) rfl
  have y0 := X1_3.out.cell (j := 0) rfl
  have y1 := X1_3.out.cell (j := 1) rfl
  have y2 := X1_3.out.cell (j := 2) rfl
  have y3 := X1_3.out.cell (j := 3) rfl
  have y4 := X1_3.out.cell (j := 4) rfl
  go_wp2_with fail
  refine Calls.mono (eqStringS_nil none none 0 0 _) ?_
  rintro e u9 ⟨rfl, hw9⟩
  rw [hw9]
  clear hw9 u9
  go_wp2
  go_ret
  exact ⟨rfl, B3.out⟩
set_option maxRecDepth 1000000 in
set_option maxHeartbeats 2000000 in
theorem markEnds_two (lo hi : Nat) (x y : StrD) (p q r : Nat) (w : World) (h : EndsHold w lo hi x y p q r) : Calls Try.prog 11 #[.agg #[.slice (some ⟨p, 0, none⟩) 2 2, .slice (some ⟨q, 0, none⟩) 2 2, .slice (some ⟨r, 0, none⟩) 2 2, .slice none 0 0, .int .i64 0], .int .i64 1] w fun e w' => e = .returned (.int .i64 27) ∧ EndsMarked w' p q r ∧ Just2 p r w w' := by
  have B0 := hid (below_more (Below.refl w.heap.size w) (.cells #[.slice (some ⟨p, 0, none⟩) 2 2, .slice (some ⟨q, 0, none⟩) 2 2, .slice (some ⟨r, 0, none⟩) 2 2, .slice none 0 0, .int .i64 0] 33))
  have X0 := hid (show BlockIs (w.alloc (.cells #[.slice (some ⟨p, 0, none⟩) 2 2, .slice (some ⟨q, 0, none⟩) 2 2, .slice (some ⟨r, 0, none⟩) 2 2, .slice none 0 0, .int .i64 0] 33)) w.heap.size 33 [.slice (some ⟨p, 0, none⟩) 2 2, .slice (some ⟨q, 0, none⟩) 2 2, .slice (some ⟨r, 0, none⟩) 2 2, .slice none 0 0, .int .i64 0] from heap_alloc_new w _)
  obtain ⟨W, hW⟩ : ∃ W, w.alloc (.cells #[.slice (some ⟨p, 0, none⟩) 2 2, .slice (some ⟨q, 0, none⟩) 2 2, .slice (some ⟨r, 0, none⟩) 2 2, .slice none 0 0, .int .i64 0] 33) = W := ⟨_, rfl⟩
  rw [hW] at B0 X0
  obtain ⟨⟨_, _, hp⟩, ⟨_, _, a1, c1, a2, c2, hq⟩, _, _, hr⟩ := h
  have hqp : q ≠ p := by rintro rfl; exact absurd (block_one hp hq).1 (by decide)
  have hrp : r ≠ p := by rintro rfl; exact absurd (block_one hp hr).1 (by decide)
  have hrq : q ≠ r := by rintro rfl; exact absurd (block_one hq hr).1 (by decide)
  have hpl := hp.lt
  have hrl := hr.lt
  have hql := hq.lt
  have HP := hid (hp.on B0.out hpl)
  have HQ := hid (hq.on B0.out hql)
  have HR := hid (hr.on B0.out hrl)
  clear hp hq hr
  have x0 := X0.out.cell (j := 0) rfl
  have x1 := X0.out.cell (j := 1) rfl
  have x2 := X0.out.cell (j := 2) rfl
  have x3 := X0.out.cell (j := 3) rfl
  have x4 := X0.out.cell (j := 4) rfl
  go_enter Try.func11, Try.ntmps11
  go_wp2_with fail
  refine Calls.mono (markStreamS_two p x y _ HP.out) ?_
  rintro e w1 ⟨rfl, hp1, k1⟩
  have HP1 := hid hp1
  have K1 := hid k1
  have X1 := hid (k1.1 _ _ _ (by omega) X0.out)
  have HQ1 := hid (k1.1 _ _ _ hqp HQ.out)
  have HR1 := hid (k1.1 _ _ _ hrp HR.out)
  clear hp1 k1 x0 x1 x2 x3 x4 hW
  have x0 := X1.out.cell (j := 0) rfl
  have x1 := X1.out.cell (j := 1) rfl
  have x2 := X1.out.cell (j := 2) rfl
  have x3 := X1.out.cell (j := 3) rfl
  have x4 := X1.out.cell (j := 4) rfl
  go_wp2_with fail
  refine Calls.mono (markBitsSS_two q a1 a2 c1 c2 25 (by omega) _ HQ1.out) ?_
  rintro e u9 ⟨rfl, hw9⟩
  rw [hw9]
  clear hw9 u9
  have CI := hid (markIntS_any r [0, 0] 2 25 (by omega) (by simp) w1 HR1.out)
  go_wp2_with fail
  refine Calls.mono CI.out ?_
  rintro e w2 ⟨rfl, hr2, g2⟩
  have HR2 : Hid (BlockIs w2 r 3 [.int .i64 25, .int .i64 26]) := hr2
  have G2 := hid g2
  have far2 : ∀ j t cs, j ≠ r → BlockIs w1 j t cs → BlockIs w2 j t cs := by
    intro j t cs hj hb
    have hlt := hb.lt
    unfold BlockIs at hb ⊢
    rw [g2.block j hlt (fun e => hj (by simpa using e))]
    exact hb
  have X2 := hid (far2 _ _ _ (by omega) X1.out)
  have FAR := hid far2
  clear hr2 g2 far2 x0 x1 x2 x3 x4 CI
  have x0 := X2.out.cell (j := 0) rfl
  have x1 := X2.out.cell (j := 1) rfl
  have x2 := X2.out.cell (j := 2) rfl
  have x3 := X2.out.cell (j := 3) rfl
  have x4 := X2.out.cell (j := 4) rfl
  go_wp2_with fail
  refine Calls.mono (markStringS_nil none 0 27 _) ?_
  rintro e u9 ⟨rfl, hw9⟩
  rw [hw9]
  clear hw9 u9
  go_wp2
  go_ret
  refine ⟨rfl, ⟨FAR.out _ _ _ (fun e => hrp e.symm) HP1.out, ⟨_, _, _, _, FAR.out _ _ _ hrq HQ1.out⟩, HR2.out⟩, ?_, ?_⟩
  · intro j t cs hj1 hj2 hb
    exact FAR.out _ _ _ hj2 (K1.out.1 _ _ _ hj1 (hb.on B0.out hb.lt))
  · intro m m1 m2 m3
    have c1 := (B0.out.mono m3).trans (K1.out.2 m m1 (Nat.le_trans m3 B0.out.size))
    exact c1.trans ⟨G2.out.os, G2.out.tape, G2.out.output, G2.out.size, fun k hk => G2.out.block k (Nat.lt_of_lt_of_le hk (Nat.le_trans m3 c1.size)) (by simp; omega)⟩
set_option maxRecDepth 1000000 in
set_option maxHeartbeats 2000000 in
theorem heldEnds_two (p q r : Nat) (w : World) (h : EndsMarked w p q r) : Calls Try.prog 12 #[.agg #[.slice (some ⟨p, 0, none⟩) 2 2, .slice (some ⟨q, 0, none⟩) 2 2, .slice (some ⟨r, 0, none⟩) 2 2, .slice none 0 0, .int .i64 0], .int .i64 1] w fun e w' => e = .returned (.int .i64 27) ∧ Below w.heap.size w w' := by
  have B0 := hid (below_more (Below.refl w.heap.size w) (.cells #[.slice (some ⟨p, 0, none⟩) 2 2, .slice (some ⟨q, 0, none⟩) 2 2, .slice (some ⟨r, 0, none⟩) 2 2, .slice none 0 0, .int .i64 0] 33))
  have X0 := hid (show BlockIs (w.alloc (.cells #[.slice (some ⟨p, 0, none⟩) 2 2, .slice (some ⟨q, 0, none⟩) 2 2, .slice (some ⟨r, 0, none⟩) 2 2, .slice none 0 0, .int .i64 0] 33)) w.heap.size 33 [.slice (some ⟨p, 0, none⟩) 2 2, .slice (some ⟨q, 0, none⟩) 2 2, .slice (some ⟨r, 0, none⟩) 2 2, .slice none 0 0, .int .i64 0] from heap_alloc_new w _)
  obtain ⟨W, hW⟩ : ∃ W, w.alloc (.cells #[.slice (some ⟨p, 0, none⟩) 2 2, .slice (some ⟨q, 0, none⟩) 2 2, .slice (some ⟨r, 0, none⟩) 2 2, .slice none 0 0, .int .i64 0] 33) = W := ⟨_, rfl⟩
  rw [hW] at B0 X0
  obtain ⟨hp, ⟨a1, c1, a2, c2, hq⟩, hr⟩ := h
  have HP := hid (hp.on B0.out hp.lt)
  have HQ := hid (hq.on B0.out hq.lt)
  have HR := hid (hr.on B0.out hr.lt)
  clear hp hq hr
  have x0 := X0.out.cell (j := 0) rfl
  have x1 := X0.out.cell (j := 1) rfl
  have x2 := X0.out.cell (j := 2) rfl
  have x3 := X0.out.cell (j := 3) rfl
  have x4 := X0.out.cell (j := 4) rfl
  go_enter Try.func12, Try.ntmps12
  go_wp2_with fail
  refine Calls.mono (heldStreamS_two p _ HP.out) ?_
  rintro e w1 ⟨rfl, b1⟩
  have B1 := hid (below_via B0.out b1)
  have X1 := hid (X0.out.on b1 X0.out.lt)
  have HQ1 := hid (HQ.out.on b1 HQ.out.lt)
  have HR1 := hid (HR.out.on b1 HR.out.lt)
  clear b1 x0 x1 x2 x3 x4 hW
  have x0 := X1.out.cell (j := 0) rfl
  have x1 := X1.out.cell (j := 1) rfl
  have x2 := X1.out.cell (j := 2) rfl
  have x3 := X1.out.cell (j := 3) rfl
  have x4 := X1.out.cell (j := 4) rfl
  go_wp2_with fail
  refine Calls.mono (heldBitsSS_two q a1 a2 c1 c2 25 (by omega) _ HQ1.out) ?_
  rintro e u9 ⟨rfl, hw9⟩
  rw [hw9]
  clear hw9 u9
  have CI := hid (heldIntS_any (some ⟨r, 0, none⟩) 2 2 25 (by omega) (by omega) w1 (ints_two HR1.out))
  go_wp2_with fail
  refine Calls.mono CI.out ?_
  rintro e u9 ⟨rfl, hw9⟩
  rw [hw9]
  clear hw9 u9 CI
  go_wp2_with fail
  refine Calls.mono (heldStringS_nil none 0 27 _) ?_
  rintro e u9 ⟨rfl, hw9⟩
  rw [hw9]
  clear hw9 u9
  go_wp2
  go_ret
  exact ⟨rfl, B1.out⟩
set_option maxRecDepth 1000000 in
set_option maxHeartbeats 2000000 in
theorem markEnds_none (w : World) : Calls Try.prog 11 #[.agg #[.slice none 0 0, .slice none 0 0, .slice none 0 0, .slice none 0 0, .int .i64 0], .int .i64 1] w fun e w' => e = .returned (.int .i64 1) ∧ Below w.heap.size w w' := by
  have B0 := hid (below_more (Below.refl w.heap.size w) (.cells #[.slice none 0 0, .slice none 0 0, .slice none 0 0, .slice none 0 0, .int .i64 0] 33))
  have X0 := hid (show BlockIs (w.alloc (.cells #[.slice none 0 0, .slice none 0 0, .slice none 0 0, .slice none 0 0, .int .i64 0] 33)) w.heap.size 33 [.slice none 0 0, .slice none 0 0, .slice none 0 0, .slice none 0 0, .int .i64 0] from heap_alloc_new w _)
  obtain ⟨W, hW⟩ : ∃ W, w.alloc (.cells #[.slice none 0 0, .slice none 0 0, .slice none 0 0, .slice none 0 0, .int .i64 0] 33) = W := ⟨_, rfl⟩
  rw [hW] at B0 X0
  have x0 := X0.out.cell (j := 0) rfl
  have x1 := X0.out.cell (j := 1) rfl
  have x2 := X0.out.cell (j := 2) rfl
  have x3 := X0.out.cell (j := 3) rfl
  have x4 := X0.out.cell (j := 4) rfl
  go_enter Try.func11, Try.ntmps11
  go_wp2_with fail
  refine Calls.mono (markStreamS_nil none 0 1 _) ?_
  rintro e u9 ⟨rfl, hw9⟩
  rw [hw9]
  clear hw9 u9
  go_wp2_with fail
  refine Calls.mono (markBitsSS_nil none 0 1 _) ?_
  rintro e u9 ⟨rfl, hw9⟩
  rw [hw9]
  clear hw9 u9
  go_wp2_with fail
  refine Calls.mono (markIntS_nil none 0 1 _) ?_
  rintro e u9 ⟨rfl, hw9⟩
  rw [hw9]
  clear hw9 u9
  go_wp2_with fail
  refine Calls.mono (markStringS_nil none 0 1 _) ?_
  rintro e u9 ⟨rfl, hw9⟩
  rw [hw9]
  clear hw9 u9
  go_wp2
  go_ret
  exact ⟨rfl, B0.out⟩
set_option maxRecDepth 1000000 in
set_option maxHeartbeats 2000000 in
theorem heldEnds_none (w : World) : Calls Try.prog 12 #[.agg #[.slice none 0 0, .slice none 0 0, .slice none 0 0, .slice none 0 0, .int .i64 0], .int .i64 1] w fun e w' => e = .returned (.int .i64 1) ∧ Below w.heap.size w w' := by
  have B0 := hid (below_more (Below.refl w.heap.size w) (.cells #[.slice none 0 0, .slice none 0 0, .slice none 0 0, .slice none 0 0, .int .i64 0] 33))
  have X0 := hid (show BlockIs (w.alloc (.cells #[.slice none 0 0, .slice none 0 0, .slice none 0 0, .slice none 0 0, .int .i64 0] 33)) w.heap.size 33 [.slice none 0 0, .slice none 0 0, .slice none 0 0, .slice none 0 0, .int .i64 0] from heap_alloc_new w _)
  obtain ⟨W, hW⟩ : ∃ W, w.alloc (.cells #[.slice none 0 0, .slice none 0 0, .slice none 0 0, .slice none 0 0, .int .i64 0] 33) = W := ⟨_, rfl⟩
  rw [hW] at B0 X0
  have x0 := X0.out.cell (j := 0) rfl
  have x1 := X0.out.cell (j := 1) rfl
  have x2 := X0.out.cell (j := 2) rfl
  have x3 := X0.out.cell (j := 3) rfl
  have x4 := X0.out.cell (j := 4) rfl
  go_enter Try.func12, Try.ntmps12
  go_wp2_with fail
  refine Calls.mono (heldStreamS_nil none 0 1 _) ?_
  rintro e u9 ⟨rfl, hw9⟩
  rw [hw9]
  clear hw9 u9
  go_wp2_with fail
  refine Calls.mono (heldBitsSS_nil none 0 1 _) ?_
  rintro e u9 ⟨rfl, hw9⟩
  rw [hw9]
  clear hw9 u9
  go_wp2_with fail
  refine Calls.mono (heldIntS_any none 0 0 1 (by omega) (by omega) _ (fun h => absurd rfl h)) ?_
  rintro e u9 ⟨rfl, hw9⟩
  rw [hw9]
  clear hw9 u9
  go_wp2_with fail
  refine Calls.mono (heldStringS_nil none 0 1 _) ?_
  rintro e u9 ⟨rfl, hw9⟩
  rw [hw9]
  clear hw9 u9
  go_wp2
  go_ret
  exact ⟨rfl, B0.out⟩
end Go.Proofs.Ythkkhmmcgjcedaa
