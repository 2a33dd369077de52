/-
  The walk of spec.DrawPostRing: a drawn ring, right or not, and a drawn text.
-/
import Derived.Test.YtbajffpkfjkolaaAnyRingDraw
import Derived.Test.YtbajffpkfjkolaaCurNew
import Derived.Test.YtbajffpkfjkolaaCurLong
import Derived.Test.YtbajffpkfjkolaaBig
namespace Go.Proofs.Ytbajffpkfjkolaa
open Go.RowKit

set_option maxRecDepth 1000000 in
set_option maxHeartbeats 2000000 in
theorem drawPost_any (ao : Option Addr) (len cap : Nat) (hlen : len ≤ 1048576) (hcap : len ≤ cap) (w : World) (hr : Bytes w ao len) :
    Calls Try.prog 12 #[.slice ao len cap] w fun e w' => ∃ (s t : Int) (l : List SlotD) (va : Option Addr) (vc : Nat) (x : ByteArray), e = .returned (.tuple #[.agg #[.slice va l.length vc, .int .i64 s, .int .i64 t], .string x]) ∧ (-1 ≤ s ∧ s ≤ 8) ∧ (-1 ≤ t ∧ t ≤ 8) ∧ l.length ≤ 8 ∧ (∀ f ∈ l, slotOne f ≤ 1048576) ∧ x.size ≤ 101 ∧ OwnAt w' 42 (slotCells l) l.length va w.heap.size w'.heap.size ∧ Below w.heap.size w w' := by
  have be := below_more (Below.refl w.heap.size w) (.cells #[.slice none 0 0, .int .i64 0, .int .i64 0] 26)
  have hx1 : BlockIs (w.alloc (.cells #[.slice none 0 0, .int .i64 0, .int .i64 0] 26)) w.heap.size 26 [.slice none 0 0, .int .i64 0, .int .i64 0] := heap_alloc_new w _
  have hr2 := bytes_on hr be
  obtain ⟨W0, hW0⟩ : ∃ W, w.alloc (.cells #[.slice none 0 0, .int .i64 0, .int .i64 0] 26) = W := ⟨_, rfl⟩
  rw [hW0] at be hx1 hr2
  have BE := hid be
  have X0 := hid hx1
  have HR := hid hr2
  have hX0 := hx1.lt
  clear be hx1 hr2 hr
  go_enter Try.func12, Try.ntmps12
  go_wp2_with fail
  refine (l01New_any ao len cap hlen hcap W0 HR.out).mono ?_
  rintro e w1 ⟨rfl, k1, b1⟩
  have K1 := hid k1
  have B1 := hid b1
  have hb1 := b1.size
  clear k1 b1
  go_wp2_with fail
  refine (l01Below_any W0.heap.size 4 (by omega) (by omega) _ K1.out).mono ?_
  rintro e w2 ⟨xz, rfl, xz0, xz1, k2, q2⟩
  obtain ⟨y, rfl⟩ := Int.eq_ofNat_of_zero_le xz0
  have hq2 := q2.size
  have K2 := hid k2
  have G2 := hid q2
  clear k2 q2
  go_wp2_with fail
  refine (l01Once_any W0.heap.size 8 (by omega) (by omega) _ K2.out).mono ?_
  rintro e w3 ⟨bb, rfl, k3, q3⟩
  have hq3 := q3.size
  have K3 := hid k3
  have G3 := hid (G2.out.trans q3)
  clear k3 q3
  cases bb with
  | false =>
    obtain ⟨w4, hw4⟩ : ∃ W, w3 = W := ⟨_, rfl⟩
    have G4 : Hid (w1.grownBy w4 (some W0.heap.size)) := by rw [← hw4]; exact G3.out
    have CA := hid (l09Any_any W0.heap.size w3 K3.out)
    have CL := hid (fun w => l01Long_any (y + 1) (by omega) 65 (by omega) (by omega) w)
    rw [show ((y + 1 : Nat) : Int) = 1 + (y : Int) by omega] at CL
    rw [hw4] at CA hq3 ⊢
    clear hw4 K3 G3 K2 G2
    go_wp2_with fail
    refine CA.out.mono ?_
    rintro e w5 ⟨s, t, l, va, vc, rfl, hs, ht, hl, hsm, ho, k5, q5⟩
    have hq5 := q5.size
    have B5 := hid (below_cur (w := W0) B1.out (G4.out.trans q5))
    have X5 := hid (X0.out.on B5.out X0.out.lt)
    have HO5 := hid (ho.down (show w.heap.size + 1 ≤ w4.heap.size + 1 by omega) (Nat.le_refl _))
    have HSM := hid hsm
    clear k5 q5 ho hsm CA
    go_wp2_with fail
    refine (CL.out _).mono ?_
    rintro e w6 ⟨x, rfl, hx, b6⟩
    have x6 := X5.out.on b6 X5.out.lt
    have c0 := x6.cell (j := 0) rfl
    have c1 := x6.cell (j := 1) rfl
    have c2 := x6.cell (j := 2) rfl
    have f0 := x6.thaw 0
    have f1 := x6.thaw 1
    have f2 := x6.thaw 2
    have BL := hid ((((below_via BE.out (below_via B5.out b6)).setCell (p := ⟨w.heap.size, 0, none⟩) (Nat.le_refl _) (.slice va l.length vc)).setCell (p := ⟨w.heap.size, 1, none⟩) (Nat.le_refl _) (.int .i64 s)).setCell (p := ⟨w.heap.size, 2, none⟩) (Nat.le_refl _) (.int .i64 t))
    have OL := hid ((((((HO5.out.on b6).down (Nat.le_refl _) b6.size).far (b := w.heap.size) (j := 0) (by omega) (.slice va l.length vc)).far (b := w.heap.size) (j := 1) (by omega) (.int .i64 s)).far (b := w.heap.size) (j := 2) (by omega) (.int .i64 t)).down (show w.heap.size ≤ w.heap.size + 1 by omega) (Nat.le_refl _))
    clear b6 x6
    go_wp2
    refine bodyPost_ret (v := .tuple #[.agg #[.slice va l.length vc, .int .i64 s, .int .i64 t], .string x]) (by simp [results, Try.results12, go_sem, c0, c1, c2]) rfl ⟨s, t, l, va, vc, x, rfl, hs, ht, hl, HSM.out, by omega, OL.out, BL.out⟩
  | true =>
    have CPI := hid (pickI_any W0.heap.size [0, 100, 101] (by decide) (by decide) 3 w3 w3.heap.size rfl K3.out)
    go_wp2_with fail
    refine CPI.out.mono ?_
    rintro e w4 ⟨z, rfl, hz, k4, q4⟩
    have hzb : 0 ≤ z ∧ z ≤ 101 := by simp at hz; omega
    obtain ⟨N, rfl⟩ := Int.eq_ofNat_of_zero_le hzb.1
    have CL := hid (fun w => l01Long_any N (by omega) 65 (by omega) (by omega) w)
    have hq4 := q4.size
    have G4 := hid (G3.out.trans q4)
    have CA := hid (l09Any_any W0.heap.size w4 k4)
    clear k4 q4 CPI hz K3 G3 K2 G2
    go_wp2_with fail
    refine CA.out.mono ?_
    rintro e w5 ⟨s, t, l, va, vc, rfl, hs, ht, hl, hsm, ho, k5, q5⟩
    have hq5 := q5.size
    have B5 := hid (below_cur (w := W0) B1.out (G4.out.trans q5))
    have X5 := hid (X0.out.on B5.out X0.out.lt)
    have HO5 := hid (ho.down (show w.heap.size + 1 ≤ w4.heap.size + 1 by omega) (Nat.le_refl _))
    have HSM := hid hsm
    clear k5 q5 ho hsm CA
    go_wp2_with fail
    refine (CL.out _).mono ?_
    rintro e w6 ⟨x, rfl, hx, b6⟩
    have x6 := X5.out.on b6 X5.out.lt
    have c0 := x6.cell (j := 0) rfl
    have c1 := x6.cell (j := 1) rfl
    have c2 := x6.cell (j := 2) rfl
    have f0 := x6.thaw 0
    have f1 := x6.thaw 1
    have f2 := x6.thaw 2
    have BL := hid ((((below_via BE.out (below_via B5.out b6)).setCell (p := ⟨w.heap.size, 0, none⟩) (Nat.le_refl _) (.slice va l.length vc)).setCell (p := ⟨w.heap.size, 1, none⟩) (Nat.le_refl _) (.int .i64 s)).setCell (p := ⟨w.heap.size, 2, none⟩) (Nat.le_refl _) (.int .i64 t))
    have OL := hid ((((((HO5.out.on b6).down (Nat.le_refl _) b6.size).far (b := w.heap.size) (j := 0) (by omega) (.slice va l.length vc)).far (b := w.heap.size) (j := 1) (by omega) (.int .i64 s)).far (b := w.heap.size) (j := 2) (by omega) (.int .i64 t)).down (show w.heap.size ≤ w.heap.size + 1 by omega) (Nat.le_refl _))
    clear b6 x6
    go_wp2
    refine bodyPost_ret (v := .tuple #[.agg #[.slice va l.length vc, .int .i64 s, .int .i64 t], .string x]) (by simp [results, Try.results12, go_sem, c0, c1, c2]) rfl ⟨s, t, l, va, vc, x, rfl, hs, ht, hl, HSM.out, by omega, OL.out, BL.out⟩
end Go.Proofs.Ytbajffpkfjkolaa
