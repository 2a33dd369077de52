/-
  The walks of spec.DrawCellText and spec.DrawReadCell: some frame, some text.
-/
import Derived.Test.YtneociicjidcnaaDoorCellDraw
import Derived.Test.YtneociicjidcnaaDoorSpoiltDraw
import Derived.Test.YtneociicjidcnaaDoorCurNew
import Derived.Test.YtneociicjidcnaaDoorCurOnce
import Derived.Test.YtneociicjidcnaaDoorCellTextS
import Derived.Test.YtneociicjidcnaaDoorUnsealS
import Derived.Test.YtneociicjidcnaaDoorBig
namespace Go.Proofs.YtneociicjidcnaaDoor
open Go.RowKit

theorem cellText_small {d : CellD} : (cellText d).1.size ≤ 100 := by
  cases h : cellOk d with
  | true =>
    rw [cellText_yes h]
    have := (cellOk_bd h).2.2.2
    show (sealOf (cellRaw d)).size ≤ 100
    rw [sealOf_size, cellRaw_size]
    omega
  | false => rw [cellText_no h]; decide
theorem below_cur2 {w w1 w2 : World} (b : Below w.heap.size w w1) (q : Below w1.heap.size w1 w2) : Below w.heap.size w w2 := below_via b q

set_option maxRecDepth 1000000 in
set_option maxHeartbeats 1000000 in
theorem drawCellText_any (ao : Option Addr) (len cap : Nat) (hlen : len ≤ 1048576) (hcap : len ≤ cap) (w : World) (hr : Bytes w ao len) :
    Calls Tryd.prog 7 #[.slice ao len cap] w fun e w' => ∃ d : CellD, e = .returned (.agg #[.int .i64 d.dst, .int .i64 d.src, .int .i64 d.kd, .string d.body]) ∧ d.body.size ≤ 61 ∧ Below w.heap.size w w' := by
  have HR := hid hr
  have HB := hid (below_more (Below.refl w.heap.size w) (.cells #[.int .i64 0, .int .i64 0, .int .i64 0, .string ⟨#[]⟩] 25))
  have hx : BlockIs (w.alloc (.cells #[.int .i64 0, .int .i64 0, .int .i64 0, .string ⟨#[]⟩] 25)) w.heap.size 25 [.int .i64 0, .int .i64 0, .int .i64 0, .string ⟨#[]⟩] := heap_alloc_new w _
  obtain ⟨W, hW⟩ : ∃ W, w.alloc (.cells #[.int .i64 0, .int .i64 0, .int .i64 0, .string ⟨#[]⟩] 25) = W := ⟨_, rfl⟩
  rw [hW] at HB hx
  have X0 := hid hx
  clear hr hx
  go_enter Tryd.func7, Tryd.ntmps7
  go_wp2_with fail
  refine (l01New_any ao len cap hlen hcap _ (bytes_on HR.out HB.out)).mono ?_
  rintro e w1 ⟨rfl, k1, b1⟩
  have K1 := hid k1
  have B1 := hid b1
  have X1 := hid (X0.out.on b1 X0.out.lt)
  have hWl : w.heap.size < W.heap.size := X0.out.lt
  clear k1 b1
  go_wp2_with fail
  refine (l10Cell_any W.heap.size _ K1.out).mono ?_
  rintro e w2 ⟨d, rfl, hd, k2, q2⟩
  have B2 := hid (below_via HB.out (below_cur B1.out q2))
  have X2 : BlockIs w2 w.heap.size 25 [.int .i64 0, .int .i64 0, .int .i64 0, .string ⟨#[]⟩] := by
    have h := X1.out
    unfold BlockIs at h ⊢
    rw [q2.block w.heap.size X1.out.lt (by simp; omega)]
    exact h
  have p0 := X2.cell (j := 0) rfl
  have p1 := X2.cell (j := 1) rfl
  have p2 := X2.cell (j := 2) rfl
  have p3 := X2.cell (j := 3) rfl
  have e0 := X2.thaw 0
  have e1 := X2.thaw 1
  have e2 := X2.thaw 2
  have e3 := X2.thaw 3
  have BLY := hid ((((B2.out.setCell (p := ⟨w.heap.size, 0, none⟩) (Nat.le_refl _) (.int .i64 d.dst)).setCell (p := ⟨w.heap.size, 1, none⟩) (Nat.le_refl _) (.int .i64 d.src)).setCell (p := ⟨w.heap.size, 2, none⟩) (Nat.le_refl _) (.int .i64 d.kd)).setCell (p := ⟨w.heap.size, 3, none⟩) (Nat.le_refl _) (.string d.body))
  clear k2 q2 X2
  go_wp2
  refine bodyPost_ret (v := .agg #[.int .i64 d.dst, .int .i64 d.src, .int .i64 d.kd, .string d.body]) (by simp [results, Tryd.results7, go_sem, p0, p1, p2, p3]) rfl ?_
  exact ⟨d, rfl, hd, BLY.out⟩

set_option maxRecDepth 1000000 in
set_option maxHeartbeats 1000000 in
theorem drawReadCell_any (ao : Option Addr) (len cap : Nat) (hlen : len ≤ 1048576) (hcap : len ≤ cap) (w : World) (hr : Bytes w ao len) :
    Calls Tryd.prog 12 #[.slice ao len cap] w fun e w' => ∃ s : ByteArray, e = .returned (.string s) ∧ s.size ≤ 1000 ∧ Below w.heap.size w w' := by
  have HR := hid hr
  clear hr
  go_enter Tryd.func12, Tryd.ntmps12
  go_wp2_with fail
  refine (l01New_any ao len cap hlen hcap _ HR.out).mono ?_
  rintro e w1 ⟨rfl, k1, b1⟩
  have K1 := hid k1
  have B1 := hid b1
  clear k1 b1
  go_wp2_with fail
  refine (l10Cell_any w.heap.size _ K1.out).mono ?_
  rintro e w2 ⟨d, rfl, hd, k2, q2⟩
  have K2 := hid k2
  have B2 := hid (below_cur B1.out q2)
  clear k2 q2 K1 B1
  have hsm := cellText_small (d := d)
  go_wp2_with fail
  refine (specCellText_any d _).mono ?_
  rintro e w3 ⟨rfl, b3⟩
  have K3 := hid (K2.out.below b3)
  have B3 := hid (below_via B2.out b3)
  clear b3 K2 B2
  obtain ⟨T, ok, hT⟩ : ∃ T ok, cellText d = (T, ok) := ⟨_, _, rfl⟩
  rw [hT] at hsm ⊢
  dsimp only at hsm ⊢
  clear hT
  go_wp2_with fail
  refine (l01Once_any w.heap.size 3 (by omega) (by omega) _ K3.out).mono ?_
  rintro e w4 ⟨b, rfl, k4, q4⟩
  have K4 := hid k4
  have B4 := hid (below_cur B3.out q4)
  clear k4 q4 K3 B3
  cases b with
  | false =>
    go_wp2_with fail
    refine (l02Spoilt_any w.heap.size T (by omega) _ K4.out).mono ?_
    rintro e w5 ⟨U, rfl, hU, k5, q5⟩
    have B5 := hid (below_cur B4.out q5)
    clear k5 q5
    go_wp2
    go_ret
    exact ⟨U, rfl, by omega, B5.out⟩
  | true =>
    go_wp2_with fail
    refine (specUnsealed_any T (by omega) _).mono ?_
    rintro e w5 ⟨hor, b5⟩
    have K5 := hid (K4.out.below b5)
    have B5 := hid (below_via B4.out b5)
    clear b5 K4 B4
    rcases hor with ⟨_, rfl⟩ | ⟨_, rfl⟩
    · have hv : (T.extract 0 (T.size - 4)).size ≤ 100 := by rw [ByteArray.size_extract]; omega
      obtain ⟨V, hV⟩ : ∃ V, T.extract 0 (T.size - 4) = V := ⟨_, rfl⟩
      rw [hV] at hv ⊢
      clear hV
      go_wp2_with fail
      refine (l02Spoilt_any w.heap.size V (by omega) _ K5.out).mono ?_
      rintro e w6 ⟨U, rfl, hU, k6, q6⟩
      have B6 := hid (below_cur B5.out q6)
      clear k6 q6
      go_wp2_with fail
      refine (specSealed_yes U (by omega) _).mono ?_
      rintro e w7 ⟨rfl, b7⟩
      have B7 := hid (below_via B6.out b7)
      clear b7
      have hss := sealOf_size U
      unfold sealOf at hss
      obtain ⟨Q, hQ⟩ : ∃ Q, U ++ (⟨(four (sumOf U.data.toList)).toArray⟩ : ByteArray) = Q := ⟨_, rfl⟩
      rw [hQ] at hss ⊢
      have HS : Hid (Q.size ≤ 1000) := (show Q.size ≤ 1000 by omega)
      clear hQ hss
      go_wp2
      go_ret
      exact ⟨Q, rfl, HS.out, B7.out⟩
    · go_wp2
      go_ret
      exact ⟨T, rfl, by omega, B5.out⟩
end Go.Proofs.YtneociicjidcnaaDoor
