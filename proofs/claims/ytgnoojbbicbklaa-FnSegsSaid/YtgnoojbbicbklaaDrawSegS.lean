/-
  The walks of spec.DrawSegText and spec.DrawReadSeg: some segment, some text.
-/
import Derived.Test.YtgnoojbbicbklaaAnySegDraw
import Derived.Test.YtgnoojbbicbklaaSpoiltDraw
import Derived.Test.YtgnoojbbicbklaaCurNew
import Derived.Test.YtgnoojbbicbklaaCurOnce
import Derived.Test.YtgnoojbbicbklaaSegTextS
import Derived.Test.YtgnoojbbicbklaaBig
namespace Go.Proofs.Ytgnoojbbicbklaa
open Go.RowKit

set_option maxRecDepth 1000000 in
set_option maxHeartbeats 1000000 in
theorem drawSegText_any (ao : Option Addr) (len cap : Nat) (hlen : len ≤ 1048576) (hcap : len ≤ cap) (w : World) (hr : Bytes w ao len) :
    Calls Try.prog 15 #[.slice ao len cap] w fun e w' => ∃ d : SegD, e = .returned (.agg #[.int .i64 d.num, .int .i64 d.ack, .int .i64 d.flags, .string d.body]) ∧ d.body.size ≤ 9 ∧ Below w.heap.size w w' := by
  have HR := hid hr
  have HB := hid (below_more (Below.refl w.heap.size w) (.cells #[.int .i64 0, .int .i64 0, .int .i64 0, .string ⟨#[]⟩] 30))
  have hx : BlockIs (w.alloc (.cells #[.int .i64 0, .int .i64 0, .int .i64 0, .string ⟨#[]⟩] 30)) w.heap.size 30 [.int .i64 0, .int .i64 0, .int .i64 0, .string ⟨#[]⟩] := heap_alloc_new w _
  obtain ⟨W, hW⟩ : ∃ W, w.alloc (.cells #[.int .i64 0, .int .i64 0, .int .i64 0, .string ⟨#[]⟩] 30) = W := ⟨_, rfl⟩
  rw [hW] at HB hx
  have X0 := hid hx
  clear hr hx
  go_enter Try.func15, Try.ntmps15
  go_wp2_with fail
  refine (l01New_any ao len cap hlen hcap _ (bytes_on HR.out HB.out)).mono ?_
  rintro e w1 ⟨rfl, k1, b1⟩
  have K1 := hid k1
  have B1 := hid b1
  have X1 := hid (X0.out.on b1 X0.out.lt)
  have hWl : w.heap.size < W.heap.size := X0.out.lt
  clear k1 b1
  go_wp2_with fail
  refine (l12Any_any W.heap.size _ K1.out).mono ?_
  rintro e w2 ⟨d, rfl, hd, k2, q2⟩
  have B2 := hid (below_via HB.out (below_cur B1.out q2))
  have X2 : BlockIs w2 w.heap.size 30 [.int .i64 0, .int .i64 0, .int .i64 0, .string ⟨#[]⟩] := by
    have h := X1.out
    unfold BlockIs at h ⊢
    rw [q2.block w.heap.size X1.out.lt (by simp; omega)]
    exact h
  have p0 := X2.cell (j := 0) rfl
  have p1 := X2.cell (j := 1) rfl
  have p2 := X2.cell (j := 2) rfl
  have p3 := X2.cell (j := 3) rfl
  have e0 := X2.thaw 0
  have e1 := X2.thaw 1
  have e2 := X2.thaw 2
  have e3 := X2.thaw 3
  have BLY := hid ((((B2.out.setCell (p := ⟨w.heap.size, 0, none⟩) (Nat.le_refl _) (.int .i64 d.num)).setCell (p := ⟨w.heap.size, 1, none⟩) (Nat.le_refl _) (.int .i64 d.ack)).setCell (p := ⟨w.heap.size, 2, none⟩) (Nat.le_refl _) (.int .i64 d.flags)).setCell (p := ⟨w.heap.size, 3, none⟩) (Nat.le_refl _) (.string d.body))
  clear k2 q2 X2
  go_wp2
  refine bodyPost_ret (v := .agg #[.int .i64 d.num, .int .i64 d.ack, .int .i64 d.flags, .string d.body]) (by simp [results, Try.results15, go_sem, p0, p1, p2, p3]) rfl ?_
  exact ⟨d, rfl, hd, BLY.out⟩

set_option maxRecDepth 1000000 in
set_option maxHeartbeats 1000000 in
theorem drawReadSeg_any (ao : Option Addr) (len cap : Nat) (hlen : len ≤ 1048576) (hcap : len ≤ cap) (w : World) (hr : Bytes w ao len) :
    Calls Try.prog 18 #[.slice ao len cap] w fun e w' => ∃ s : ByteArray, e = .returned (.string s) ∧ s.size ≤ 1000 ∧ Below w.heap.size w w' := by
  have HR := hid hr
  clear hr
  go_enter Try.func18, Try.ntmps18
  go_wp2_with fail
  refine (l01New_any ao len cap hlen hcap _ HR.out).mono ?_
  rintro e w1 ⟨rfl, k1, b1⟩
  have K1 := hid k1
  have B1 := hid b1
  clear k1 b1
  go_wp2_with fail
  refine (l12Any_any w.heap.size _ K1.out).mono ?_
  rintro e w2 ⟨d, rfl, hd, k2, q2⟩
  have K2 := hid k2
  have B2 := hid (below_cur B1.out q2)
  clear k2 q2 K1 B1
  have hsm := segText_small d
  go_wp2_with fail
  refine (specSegText_any d (by omega) _).mono ?_
  rintro e w3 ⟨rfl, b3⟩
  have K3 := hid (K2.out.below b3)
  have B3 := hid (below_via B2.out b3)
  clear b3 K2 B2
  obtain ⟨T, ok, hT⟩ : ∃ T ok, segText d = (T, ok) := ⟨_, _, rfl⟩
  rw [hT] at hsm ⊢
  dsimp only at hsm ⊢
  clear hT
  go_wp2_with fail
  refine (l01Once_any w.heap.size 3 (by omega) (by omega) _ K3.out).mono ?_
  rintro e w4 ⟨b, rfl, k4, q4⟩
  have K4 := hid k4
  have B4 := hid (below_cur B3.out q4)
  clear k4 q4 K3 B3
  cases b with
  | true =>
    go_wp2_with fail
    refine (l02Spoilt_any w.heap.size T (by omega) _ K4.out).mono ?_
    rintro e w5 ⟨U, rfl, hU, k5, q5⟩
    have B5 := hid (below_cur B4.out q5)
    clear k5 q5
    go_wp2
    go_ret
    exact ⟨U, rfl, by omega, B5.out⟩
  | false =>
    go_wp2
    go_ret
    exact ⟨T, rfl, by omega, B4.out⟩
end Go.Proofs.Ytgnoojbbicbklaa
