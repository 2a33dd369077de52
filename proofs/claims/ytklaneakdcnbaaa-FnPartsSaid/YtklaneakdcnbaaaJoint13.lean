/-
  The walk of spec.DrawRightDgram: some right datagram, whole.
-/
import Derived.Test.YtklaneakdcnbaaaJoint12
import Derived.Test.YtklaneakdcnbaaaJoint3
import Derived.Test.YtklaneakdcnbaaaJoint6
namespace Go.Proofs.Ytklaneakdcnbaaa
open Go.RowKit

set_option maxRecDepth 1000000 in
set_option maxHeartbeats 1000000 in
theorem drawRightDgram_any (ao : Option Addr) (len cap : Nat) (hlen : len ≤ 1048576) (hcap : len ≤ cap) (w : World) (hr : Bytes w ao len) :
    Calls Try.prog 7 #[.slice ao len cap] w fun e w' => ∃ d : DgramD, e = .returned (.agg #[.int .i64 d.src, .int .i64 d.dst, .int .i64 d.ident, .int .i64 d.place, .bool d.more, .string d.body]) ∧ WholeD d ∧ Below w.heap.size w w' := by
  have HR := hid hr
  have HB := hid (below_more (Below.refl w.heap.size w) (.cells #[.int .i64 0, .int .i64 0, .int .i64 0, .int .i64 0, .bool false, .string ⟨#[]⟩] 25))
  have hx : BlockIs (w.alloc (.cells #[.int .i64 0, .int .i64 0, .int .i64 0, .int .i64 0, .bool false, .string ⟨#[]⟩] 25)) w.heap.size 25 [.int .i64 0, .int .i64 0, .int .i64 0, .int .i64 0, .bool false, .string ⟨#[]⟩] := heap_alloc_new w _
  obtain ⟨W, hW⟩ : ∃ W, w.alloc (.cells #[.int .i64 0, .int .i64 0, .int .i64 0, .int .i64 0, .bool false, .string ⟨#[]⟩] 25) = W := ⟨_, rfl⟩
  rw [hW] at HB hx
  have X0 := hid hx
  clear hr hx
  go_enter Try.func7, Try.ntmps7
  go_wp2_with fail
  refine (l01New_any ao len cap hlen hcap _ (bytes_on HR.out HB.out)).mono ?_
  rintro e w1 ⟨rfl, k1, b1⟩
  have K1 := hid k1
  have B1 := hid b1
  have X1 := hid (X0.out.on b1 X0.out.lt)
  have hWl : w.heap.size < W.heap.size := X0.out.lt
  clear k1 b1
  go_wp2_with fail
  refine (l11Dgram_any W.heap.size _ K1.out).mono ?_
  rintro e w2 ⟨d, rfl, hd, k2, q2⟩
  have HD := hid hd
  clear hd
  have B2 := hid (below_via HB.out (below_cur B1.out q2))
  have X2 : BlockIs w2 w.heap.size 25 [.int .i64 0, .int .i64 0, .int .i64 0, .int .i64 0, .bool false, .string ⟨#[]⟩] := by
    have h := X1.out
    unfold BlockIs at h ⊢
    rw [q2.block w.heap.size X1.out.lt (by simp; omega)]
    exact h
  have p0 := X2.cell (j := 0) rfl
  have e0 := X2.thaw 0
  have p1 := X2.cell (j := 1) rfl
  have e1 := X2.thaw 1
  have p2 := X2.cell (j := 2) rfl
  have e2 := X2.thaw 2
  have p3 := X2.cell (j := 3) rfl
  have e3 := X2.thaw 3
  have p4 := X2.cell (j := 4) rfl
  have e4 := X2.thaw 4
  have p5 := X2.cell (j := 5) rfl
  have e5 := X2.thaw 5
  have BLY := hid (((((((B2.out).setCell (p := ⟨w.heap.size, 0, none⟩) (Nat.le_refl _) (.int .i64 d.src)).setCell (p := ⟨w.heap.size, 1, none⟩) (Nat.le_refl _) (.int .i64 d.dst)).setCell (p := ⟨w.heap.size, 2, none⟩) (Nat.le_refl _) (.int .i64 d.ident)).setCell (p := ⟨w.heap.size, 3, none⟩) (Nat.le_refl _) (.int .i64 d.place)).setCell (p := ⟨w.heap.size, 4, none⟩) (Nat.le_refl _) (.bool d.more)).setCell (p := ⟨w.heap.size, 5, none⟩) (Nat.le_refl _) (.string d.body))
  clear k2 q2 X2
  go_wp2
  refine bodyPost_ret (v := .agg #[.int .i64 d.src, .int .i64 d.dst, .int .i64 d.ident, .int .i64 d.place, .bool d.more, .string d.body]) (by simp [results, Try.results7, go_sem, p0, p1, p2, p3, p4, p5]) rfl ?_
  exact ⟨d, rfl, HD.out, BLY.out⟩
end Go.Proofs.Ytklaneakdcnbaaa
