/-
  The walk of spec.EntryText: what it answers.
-/
import Derived.Test.YtohmfmajgehadaaGreatDoorJoint21
import Derived.Test.YtohmfmajgehadaaGreatDoorJoint9
import Derived.Test.YtohmfmajgehadaaGreatDoorJoint1
import Derived.Deep.RegionHeld
import Derived.Deep.DrawnRows
namespace Go.Proofs.YtohmfmajgehadaaGreatDoor
open Go.RowKit

attribute [local go_sem ↓] Go.wp_at_zero Go.wp_at_succ

/-- a text of one byte, out of a row of one byte -/
theorem byte_text {W : World} {g q : Nat} (hq : q ≤ 255) (h : BlockIs W g 5 [.int .u8 (q : Int)]) : (convert 22 9 (.slice (some ⟨g, 0, none⟩) 1 1)).run Tryz.prog W = .ok (.string ⟨#[UInt8.ofNat q]⟩) W :=
  run_convert_bytes_back _ 22 9 5 ⟨g, 0, none⟩ 1 [UInt8.ofNat q] Tryz.underlying22 Tryz.underlying5 Tryz.underlying9 fun j hj => by
    obtain rfl : j = 0 := by simp at hj; omega
    have e : ((UInt8.ofNat q).toNat : Int) = (q : Int) := by rw [UInt8.toNat_ofNat']; omega
    have := h.cell (j := 0) rfl
    rw [← e] at this
    exact this
theorem byte_new (W : World) (q : Nat) (t : TypeId) : BlockIs (W.alloc (.cells #[.int .u8 (q : Int)] t)) W.heap.size t [.int .u8 (q : Int)] := heap_alloc_new W _
theorem byte_on0 {W W' : World} {q : Nat} {t : TypeId} (h : Below (W.alloc (.cells #[.int .u8 (q : Int)] t)).heap.size (W.alloc (.cells #[.int .u8 (q : Int)] t)) W') : BlockIs W' W.heap.size t [.int .u8 (q : Int)] := (byte_new W q t).on h (byte_new W q t).lt
theorem byte_newd (W : World) (q : Nat) (t : TypeId) : BlockIs (W.alloc (.cells #[.int .u8 (q : Int)] t)).drew W.heap.size t [.int .u8 (q : Int)] := byte_new W q t
theorem byte_ond {W W' : World} {q : Nat} {t : TypeId} (h : Below (W.alloc (.cells #[.int .u8 (q : Int)] t)).drew.heap.size (W.alloc (.cells #[.int .u8 (q : Int)] t)).drew W') : BlockIs W' W.heap.size t [.int .u8 (q : Int)] := (byte_newd W q t).on h (byte_newd W q t).lt
theorem byte_on1 {W W' : World} {g q : Nat} {t : TypeId} (hb : BlockIs W g t [.int .u8 (q : Int)]) (h : Below W.heap.size W W') : BlockIs W' g t [.int .u8 (q : Int)] := hb.on h hb.lt

set_option maxRecDepth 1000000 in
set_option maxHeartbeats 4000000 in
theorem specEntryText_any (i : Int) (d : EntD) (hd : d.data.size ≤ 1048576) (w : World) :
    Calls Tryz.prog 98 #[.int .i64 i, .agg #[.int .i64 d.term, .int .i64 d.kind, .string d.data]] w fun e w' => e = .returned (.tuple #[.string (entryText i d).1, .bool (entryText i d).2]) ∧ Below w.heap.size w w' := by
  have HB := hid (below_more (Below.refl w.heap.size w) (.cells #[.int .i64 d.term, .int .i64 d.kind, .string d.data] 57))
  have hx : BlockIs (w.alloc (.cells #[.int .i64 d.term, .int .i64 d.kind, .string d.data] 57)) w.heap.size 57 [.int .i64 d.term, .int .i64 d.kind, .string d.data] := heap_alloc_new w _
  obtain ⟨W, hW⟩ : ∃ W, w.alloc (.cells #[.int .i64 d.term, .int .i64 d.kind, .string d.data] 57) = W := ⟨_, rfl⟩
  rw [hW] at HB hx
  have HX := hid hx
  have c0 := hx.cell (j := 0) rfl
  have c1 := hx.cell (j := 1) rfl
  have c2 := hx.cell (j := 2) rfl
  have cN' := fun w => l01In_any i 1 1000000 w
  have cE' := specEntryOk_any d hd W
  clear hx
  cases hE : entryOk d with
  | false =>
    have hr := hid (entryText_no (i := i) (d := d) (Or.inl hE))
    rw [hE] at cE'
    have cE := hid cE'
    clear cE' hE cN'
    go_enter Tryz.func98, Tryz.ntmps98
    go_wp2_with (go_at_call 40; refine Calls.mono cE.out ?_; rintro e w2 ⟨rfl, b2⟩)
    go_ret2
    exact ⟨by rw [hr.out]; rfl, below_via HB.out b2⟩
  | true =>
    rw [hE] at cE'
    have cE := hid cE'
    clear cE'
    cases hI : within i 1 1000000 with
    | false =>
      have hr := hid (entryText_no (i := i) (d := d) (Or.inr hI))
      rw [hI] at cN'
      have cN := hid cN'
      clear cN' hI hE
      go_enter Tryz.func98, Tryz.ntmps98
      go_wp2_with (first | (go_at_call 39; refine (cN.out _).mono ?_; rintro e w1 ⟨rfl, hw⟩; rw [hw]; clear hw w1) | (go_at_call 40; refine Calls.mono cE.out ?_; rintro e w2 ⟨rfl, b2⟩))
      go_ret2
      exact ⟨by rw [hr.out]; rfl, below_via HB.out b2⟩
    | true =>
      have hr := entryText_yes hE hI
      have hbd := entryOk_bd hE
      have hib := within_iff.1 hI
      rw [hI] at cN'
      have cN := hid cN'
      clear cN' hE hI
      obtain ⟨tm, kd, dt⟩ := d
      dsimp only at hbd hW HB HX c0 c1 c2 cE hr hd ⊢
      obtain ⟨n, rfl⟩ : ∃ n : Nat, i = n := ⟨i.toNat, by omega⟩
      obtain ⟨t, rfl⟩ : ∃ t : Nat, tm = t := ⟨tm.toNat, by omega⟩
      obtain ⟨q, rfl⟩ : ∃ q : Nat, kd = q := ⟨kd.toNat, by omega⟩
      rw [entText_of] at hr
      have hwq : IntKind.u8.wrap (q : Int) = (q : Int) := by rw [IntKind.wrap_u8]; omega
      have cV' := fun w => l01Var_any n (by omega) w
      have cF' := fun w => l01Var_any t (by omega) w
      have hVs := vb_size n (show n ≤ 1000000 by omega)
      have hFs := vb_size t (show t ≤ 1000000 by omega)
      have hcv' : ∀ (W : World) (g : Nat), BlockIs W g 5 [.int .u8 (q : Int)] → (convert 22 9 (.slice (some ⟨g, 0, none⟩) 1 1)).run Tryz.prog W = .ok (.string ⟨#[UInt8.ofNat q]⟩) W := fun W g h => byte_text (by omega) h
      have hKs : (⟨#[UInt8.ofNat q]⟩ : ByteArray).size = 1 := rfl
      obtain ⟨V, hV⟩ : ∃ V : ByteArray, ⟨(vb n).toArray⟩ = V := ⟨_, rfl⟩
      obtain ⟨F, hF⟩ : ∃ F : ByteArray, ⟨(vb t).toArray⟩ = F := ⟨_, rfl⟩
      obtain ⟨K, hK⟩ : ∃ K : ByteArray, ⟨#[UInt8.ofNat q]⟩ = K := ⟨_, rfl⟩
      rw [hV, hF, hK] at hr
      rw [hV] at cV' hVs
      rw [hF] at cF' hFs
      rw [hK] at hcv' hKs
      have cV := hid cV'
      have cF := hid cF'
      have HCV := hid hcv'
      have hcn : ∀ W : World, (convert 22 9 (.slice (some ⟨W.heap.size, 0, none⟩) 1 1)).run Tryz.prog (W.alloc (.cells #[.int .u8 (q : Int)] 5)) = .ok (.string K) (W.alloc (.cells #[.int .u8 (q : Int)] 5)) := fun W => hcv' _ _ (byte_new W q 5)
      have hcd : ∀ W : World, (convert 22 9 (.slice (some ⟨W.heap.size, 0, none⟩) 1 1)).run Tryz.prog (W.alloc (.cells #[.int .u8 (q : Int)] 5)).drew = .ok (.string K) (W.alloc (.cells #[.int .u8 (q : Int)] 5)).drew := fun W => hcv' _ _ (byte_newd W q 5)
      have e1 : ∃ A1 : ByteArray, (⟨#[69]⟩ : ByteArray) ++ V = A1 ∧ A1.size ≤ 2000002 := ⟨_, rfl, by rw [size_E]; omega⟩
      obtain ⟨A1, q1, z1⟩ := e1
      have e2 : ∃ A2 : ByteArray, A1 ++ F = A2 ∧ A2.size ≤ 4000004 := ⟨_, rfl, by rw [ByteArray.size_append]; omega⟩
      obtain ⟨A2, q2, z2⟩ := e2
      have e3 : ∃ A3 : ByteArray, A2 ++ K = A3 ∧ A3.size ≤ 4000005 := ⟨_, rfl, by rw [ByteArray.size_append]; omega⟩
      obtain ⟨A3, q3, z3⟩ := e3
      obtain ⟨A4, q4⟩ : ∃ A4 : ByteArray, A3 ++ dt = A4 := ⟨_, rfl⟩
      have hs1 : ∀ w, (Op.stringOp .add ⟨#[69]⟩ V).run Tryz.prog w = .ok (.string A1) w := fun w => by rw [run_string_add_sum w _ _ (by rw [show (⟨#[69]⟩ : ByteArray).size = 1 from rfl]; omega), q1]
      have hs2 : ∀ w, (Op.stringOp .add A1 F).run Tryz.prog w = .ok (.string A2) w := fun w => by rw [run_string_add_sum w _ _ (by omega), q2]
      have hs3 : ∀ w, (Op.stringOp .add A2 K).run Tryz.prog w = .ok (.string A3) w := fun w => by rw [run_string_add_sum w _ _ (by omega), q3]
      have hs4 : ∀ w, (Op.stringOp .add A3 dt).run Tryz.prog w = .ok (.string A4) w := fun w => by rw [run_string_add_sum w _ _ (by omega), q4]
      rw [q1, q2, q3, q4] at hr
      have HR := hid hr
      clear q1 q2 q3 q4 z1 z2 z3 hVs hFs hKs
      clear cV' cF' hcv' hV hF hK hr
      go_enter Tryz.func98, Tryz.ntmps98
      go_wp2_with fail
      refine Calls.mono cE.out ?_
      rintro e w2 ⟨rfl, b⟩
      have X2 := hid (HX.out.on b HX.out.lt)
      have B2 := hid (below_via HB.out b)
      have d0 := X2.out.cell (j := 0) rfl
      have d1 := X2.out.cell (j := 1) rfl
      have d2 := X2.out.cell (j := 2) rfl
      clear b cE c0 c1 c2 HX HB hW
      go_wp2_with fail
      refine (cN.out _).mono ?_
      rintro e w1 ⟨rfl, hw⟩
      rw [hw]
      clear hw w1 cN
      have CC : Hid (∀ (m : Nat) (S : ByteArray) (W : World), (∀ W, Calls Tryz.prog 58 #[.int .i64 m] W fun e W' => e = .returned (.string S) ∧ Below W.heap.size W W') → Hid (Below w2.heap.size w2 W) → Calls Tryz.prog 58 #[.int .i64 m] W fun e W' => e = .returned (.string S) ∧ (W'.cell? ⟨w.heap.size, 0, none⟩ = some (.int .i64 (t : Int)) ∧ W'.cell? ⟨w.heap.size, 1, none⟩ = some (.int .i64 (q : Int)) ∧ W'.cell? ⟨w.heap.size, 2, none⟩ = some (.string dt)) ∧ Hid (Below W.heap.size W W') ∧ Hid (Below w2.heap.size w2 W')) := by
        intro m S W hm hW
        refine (hm W).mono ?_
        rintro e W' ⟨rfl, hb⟩
        have hb2 := below_via hW.out hb
        have hX := X2.out.on hb2 X2.out.lt
        exact ⟨rfl, ⟨hX.cell (j := 0) rfl, hX.cell (j := 1) rfl, hX.cell (j := 2) rfl⟩, hb, hb2⟩
      have HGd := hid (show Below w2.heap.size w2 (w2.alloc (.cells #[.int .u8 (q : Int)] 5)).drew from below_drewN (below_more (Below.refl _ _) _) 1)
      have HG0 := hid (show Below w2.heap.size w2 w2.drew from below_drewN (Below.refl _ _) 1)
      go_wp2
      go_region_held (fun w' => w'.cell? ⟨w.heap.size, 0, none⟩ = some (.int .i64 (t : Int)) ∧ w'.cell? ⟨w.heap.size, 1, none⟩ = some (.int .i64 (q : Int)) ∧ w'.cell? ⟨w.heap.size, 2, none⟩ = some (.string dt)) (go_keep)
        (first
          | (go_at_call 58; with_reducible refine Calls.mono (CC.out n V _ cV.out (by first | with_reducible exact HGv | with_reducible exact HG0 | with_reducible exact hid (below_more HGv.out _) | with_reducible exact hid (below_more HG0.out _) | with_reducible exact HGd)) ?_; rintro e wv ⟨rfl, ⟨x0, x1, x2⟩, HBv, HGv⟩; first | (with_reducible have HK1 := hid (byte_on1 HK1.out HBv.out); have hk1 := HCV.out _ _ HK1.out) | (with_reducible have HK1 := hid (byte_on0 HBv.out); have hk1 := HCV.out _ _ HK1.out) | (with_reducible have HK1 := hid (byte_ond HBv.out); have hk1 := HCV.out _ _ HK1.out) | skip)
          | (go_at_call 58; with_reducible refine Calls.mono (CC.out t F _ cF.out (by first | with_reducible exact HGv | with_reducible exact HG0 | with_reducible exact hid (below_more HGv.out _) | with_reducible exact hid (below_more HG0.out _) | with_reducible exact HGd)) ?_; rintro e wv ⟨rfl, ⟨x0, x1, x2⟩, HBv, HGv⟩; first | (with_reducible have HK1 := hid (byte_on1 HK1.out HBv.out); have hk1 := HCV.out _ _ HK1.out) | (with_reducible have HK1 := hid (byte_on0 HBv.out); have hk1 := HCV.out _ _ HK1.out) | (with_reducible have HK1 := hid (byte_ond HBv.out); have hk1 := HCV.out _ _ HK1.out) | skip))
      all_goals
        go_wp2
        go_ret2
        refine ⟨by rw [HR.out]; rfl, ?_⟩
        first | exact below_via B2.out HGv.out | exact below_via B2.out (below_more HGv.out _)
end Go.Proofs.YtohmfmajgehadaaGreatDoor
