/-
  The walks of spec.l07Hard, l07Frames: frames of a term and a vote, of a log's entries.
-/
import Derived.Test.YtihgkocfgjihhaaGreatDoorJoint1
import Derived.Test.YtihgkocfgjihhaaGreatDoorJoint34
import Derived.Test.YtihgkocfgjihhaaGreatDoorJoint41
import Derived.Test.YtihgkocfgjihhaaGreatDoorJoint43
import Derived.Test.YtihgkocfgjihhaaGreatDoorRows
import Derived.Laws.Concat
import Derived.Lib.QuietBelow
namespace Go.Proofs.YtihgkocfgjihhaaGreatDoor
open Go.RowKit Go.Sort

theorem nat_of {a : Int} (h : 0 ≤ a) : ∃ m : Nat, a = m := ⟨a.toNat, by omega⟩

set_option maxRecDepth 1000000 in
set_option maxHeartbeats 1000000 in
theorem l07Hard_any (a b : Int) (ha : 0 ≤ a ∧ a ≤ 1000000) (hb : 0 ≤ b ∧ b ≤ 1000000) (w : World) : Calls Tryz.prog 57 #[.int .i64 a, .int .i64 b] w fun e w' => e = .returned (.string (frm (rec2 72 a b))) ∧ Below w.heap.size w w' := by
  obtain ⟨m, rfl⟩ := nat_of ha.1
  obtain ⟨k, rfl⟩ := nat_of hb.1
  have hz := rec2_size 72 ha.2 hb.2
  have h1 := vb5 m ha.2
  have h2 := vb5 k hb.2
  have cV1' := l01Var_any m (by omega)
  have cV2' := l01Var_any k (by omega)
  have hr : rec2 72 m k = ⟨#[72]⟩ ++ ⟨(vb m).toArray⟩ ++ ⟨(vb k).toArray⟩ := rfl
  rw [Int.toNat_natCast] at h1 h2
  obtain ⟨V1, e1⟩ : ∃ V : ByteArray, ⟨(vb m).toArray⟩ = V := ⟨_, rfl⟩
  obtain ⟨V2, e2⟩ : ∃ V : ByteArray, ⟨(vb k).toArray⟩ = V := ⟨_, rfl⟩
  rw [e1] at cV1' hr h1
  rw [e2] at cV2' hr h2
  obtain ⟨A1, q1⟩ : ∃ A : ByteArray, ⟨#[72]⟩ ++ V1 = A := ⟨_, rfl⟩
  have z1 : A1.size = 1 + V1.size := by rw [← q1, ByteArray.size_append]; rfl
  rw [q1] at hr
  obtain ⟨A2, q2⟩ : ∃ A, rec2 72 m k = A := ⟨_, rfl⟩
  rw [q2] at hr hz
  have hs1 : ∀ w, (Op.stringOp .add ⟨#[72]⟩ V1).run Tryz.prog w = .ok (.string A1) w := fun w => by rw [run_string_add_sum w _ _ (by rw [show (⟨#[72]⟩ : ByteArray).size = 1 from rfl]; omega), q1]
  have hs2 : ∀ w, (Op.stringOp .add A1 V2).run Tryz.prog w = .ok (.string A2) w := fun w => by rw [run_string_add_sum w _ _ (by omega), hr]
  have cV1 := hid cV1'
  have cV2 := hid cV2'
  have cF := hid (specFrame_yes A2 hz.1 (by omega))
  have HQ := hid q2
  clear cV1' cV2' e1 e2 q1 q2 hr ha hb h1 h2 z1
  go_enter Tryz.func57, Tryz.ntmps57
  go_wp2_with fail
  refine (cV1.out _).mono ?_
  rintro e w1 ⟨rfl, b1⟩
  have B1 := hid b1
  clear b1 cV1
  go_wp2_with fail
  refine (cV2.out _).mono ?_
  rintro e w2 ⟨rfl, b2⟩
  have B2 := hid (below_via B1.out b2)
  clear b2 cV2 B1
  go_wp2_with fail
  refine (cF.out _).mono ?_
  rintro e w3 ⟨rfl, b3⟩
  have B3 := hid (below_via B2.out b3)
  clear b3 cF B2
  obtain ⟨F, hF⟩ : ∃ F, frm A2 = F := ⟨_, rfl⟩
  rw [hF]
  go_wp2
  go_ret
  exact ⟨by rw [HQ.out, hF]; rfl, B3.out⟩
end Go.Proofs.YtihgkocfgjihhaaGreatDoor
