/-
  The walk of spec.DgramText: what it answers.
-/
import Derived.Test.YthkkhmmcgjcedaaDoorJoint13
import Derived.Test.YthkkhmmcgjcedaaDoorJoint14
import Derived.Test.YthkkhmmcgjcedaaDoorJoint11
import Derived.BigQuiet
import Derived.Lib.QuietBelow
import Derived.Deep.QuietTactic
namespace Go.Proofs.YthkkhmmcgjcedaaDoor
open Go.RowKit

set_option maxRecDepth 1000000 in
set_option maxHeartbeats 2000000 in
theorem specDgramText_any (d : DgramD) (hs : d.body.size ≤ 9223372036854775000) (w : World) :
    Calls Tryd.prog 13 #[.agg #[.int .i64 d.src, .int .i64 d.dst, .int .i64 d.ident, .int .i64 d.place, .bool d.more, .string d.body]] w fun e w' => e = .returned (.tuple #[.string (dgramText d).1, .bool (dgramText d).2]) ∧ Below w.heap.size w w' := by
  have hx0 : BlockIs (w.alloc (.cells #[.int .i64 d.src, .int .i64 d.dst, .int .i64 d.ident, .int .i64 d.place, .bool d.more, .string d.body] 36)) w.heap.size 36 [.int .i64 d.src, .int .i64 d.dst, .int .i64 d.ident, .int .i64 d.place, .bool d.more, .string d.body] := heap_alloc_new w _
  have B0 := hid (below_more (Below.refl w.heap.size w) (.cells #[.int .i64 d.src, .int .i64 d.dst, .int .i64 d.ident, .int .i64 d.place, .bool d.more, .string d.body] 36))
  obtain ⟨W0, hW0⟩ : ∃ W, w.alloc (.cells #[.int .i64 d.src, .int .i64 d.dst, .int .i64 d.ident, .int .i64 d.place, .bool d.more, .string d.body] 36) = W := ⟨_, rfl⟩
  rw [hW0] at hx0 B0
  have X0 := hid hx0
  have c0 := hx0.cell (j := 0) rfl
  have c1 := hx0.cell (j := 1) rfl
  have c2 := hx0.cell (j := 2) rfl
  have c3 := hx0.cell (j := 3) rfl
  have c4 := hx0.cell (j := 4) rfl
  have c5 := hx0.cell (j := 5) rfl
  clear hx0
  go_enter Tryd.func13, Tryd.ntmps13
  go_wp2_with fail
  refine (specDgramOk_any d hs _).mono ?_
  rintro e w1 ⟨rfl, b1⟩
  have X1 := hid (X0.out.on b1 X0.out.lt)
  have B1 := hid (below_via B0.out b1)
  clear b1 X0 B0 c0 c1 c2 c3 c4 c5 hW0
  cases hE : dgramOk d with
  | false =>
    have HR := hid (dgramText_no hE)
    clear hE
    go_wp2
    go_ret2
    exact ⟨by rw [HR.out]; rfl, B1.out⟩
  | true =>
    have HR := hid (dgramText_yes hE)
    obtain ⟨⟨a1, a2⟩, ⟨b1, b2⟩, ⟨i1, i2⟩, ⟨p1, p2⟩, _, ⟨_, z2⟩, _⟩ := dgramOk_bd hE
    clear hE
    obtain ⟨A, Bq, Cq, Pq, m, s⟩ := d
    dsimp only at a1 a2 b1 b2 i1 i2 p1 p2 z2 X1 hs
    obtain ⟨a, rfl⟩ : ∃ n : Nat, A = n := ⟨A.toNat, by omega⟩
    obtain ⟨b, rfl⟩ : ∃ n : Nat, Bq = n := ⟨Bq.toNat, by omega⟩
    obtain ⟨c, rfl⟩ : ∃ n : Nat, Cq = n := ⟨Cq.toNat, by omega⟩
    obtain ⟨p, rfl⟩ : ∃ n : Nat, Pq = n := ⟨Pq.toNat, by omega⟩
    have d0 := X1.out.cell (j := 0) rfl
    have d1 := X1.out.cell (j := 1) rfl
    have d2 := X1.out.cell (j := 2) rfl
    have d3 := X1.out.cell (j := 3) rfl
    have d4 := X1.out.cell (j := 4) rfl
    have d5 := X1.out.cell (j := 5) rfl
    have CH := hid (l11Head_nat a b c p m s (by omega) (by omega) (by omega) (by omega) w1)
    have hS := sumOnes_le (dHead ⟨(a : Int), b, c, p, m, s⟩)
    have HTX : Hid (dText ⟨(a : Int), b, c, p, m, s⟩ = ⟨(dHead ⟨(a : Int), b, c, p, m, s⟩).toArray⟩ ++ ⟨(twoB (sumOnes (dHead ⟨(a : Int), b, c, p, m, s⟩))).toArray⟩ ++ s) := rfl
    obtain ⟨L, hL⟩ : ∃ L, dHead ⟨(a : Int), b, c, p, m, s⟩ = L := ⟨_, rfl⟩
    have hL6 : L.length = 6 := by rw [← hL]; exact dHead_length _
    rw [hL] at CH hS HTX
    clear hL
    obtain ⟨SU, hSU⟩ : ∃ S, sumOnes L = S := ⟨_, rfl⟩
    obtain ⟨H, hH⟩ : ∃ H : ByteArray, ⟨L.toArray⟩ = H := ⟨_, rfl⟩
    have hHs : H.size = 6 := by rw [← hH]; exact hL6
    have hHl : H.data.toList = L := by rw [← hH]
    rw [hH] at CH HTX
    rw [hSU] at hS HTX
    go_wp2_with fail
    refine Calls.mono CH.out ?_
    rintro e w2 ⟨rfl, bb⟩
    have X2 := hid (X1.out.on bb X1.out.lt)
    have B2 := hid (below_via B1.out bb)
    clear bb X1 B1 d0 d1 d2 d3 d4 d5 CH
    obtain ⟨T2, hT2⟩ : ∃ T : ByteArray, ⟨(twoB SU).toArray⟩ = T := ⟨_, rfl⟩
    have hT2s : T2.size = 2 := by rw [← hT2]; rfl
    rw [hT2] at HTX
    have K1 := fun d os => Calls.regrown_of (w := w2) (d := d) (os := os) (Calls.mono (specSumOnes_any H (by omega) (Go.Sort.grow (redrawn w2 d) os)) (fun e W' h => show e = .returned (.int .i64 (SU : Int)) ∧ Below _ _ W' from ⟨by rw [h.1, hHl, hSU], by rw [h.2]; exact Below.refl _ _⟩))
    have K2 := fun d os => Calls.regrown_of (w := w2) (d := d) (os := os) (l11Two_any SU hS _)
    rw [hT2] at K2
    have D1 := hid K1
    have D2 := hid K2
    obtain ⟨Q1, e1⟩ : ∃ Q, H ++ T2 = Q := ⟨_, rfl⟩
    have hQ1 : Q1.size = 8 := by rw [← e1, ByteArray.size_append]; omega
    obtain ⟨Q2, e2⟩ : ∃ Q, Q1 ++ s = Q := ⟨_, rfl⟩
    have hs1 : ∀ w, (Op.stringOp .add H T2).run Tryd.prog w = .ok (.string Q1) w := fun w => by rw [run_string_add_sum w _ _ (by omega), e1]
    have hs2 : ∀ w, (Op.stringOp .add Q1 s).run Tryd.prog w = .ok (.string Q2) w := fun w => by rw [run_string_add_sum w _ _ (by omega), e2]
    rw [e1, e2] at HTX
    have z5 := X2.out.cell (j := 5) rfl
    have Z5 := cell_regrown z5
    clear K1 K2 hSU hH hHl hT2 e1 e2 z5 hL6
    go_wp2
    refine wp_region_quiet_below (by kernel_rfl) (by kernel_rfl) ?_
    repeat (first | go_big_quiet_step (first | (go_at_call 25; exact D1.out _ _) | (go_at_call 21; exact D2.out _ _) | fail) | quiet_step (first | (go_at_call 25; exact D1.out _ _) | (go_at_call 21; exact D2.out _ _) | fail))
    refine wpQuiet_nil ?_
    intro _ hw'
    obtain ⟨⟨dq, osq⟩, hw''⟩ := hw'
    subst hw''
    have BL := hid (below_via B2.out (below_regrown w2 dq osq))
    generalize Go.Sort.grow (redrawn w2 dq) osq = w3 at BL ⊢
    clear D1 D2 Z5
    go_wp2
    go_ret2
    exact ⟨by rw [HR.out, HTX.out]; rfl, BL.out⟩
end Go.Proofs.YthkkhmmcgjcedaaDoor
