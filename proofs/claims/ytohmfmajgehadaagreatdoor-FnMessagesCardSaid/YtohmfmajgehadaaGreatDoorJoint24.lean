/-
  The walks of spec.l17Flag and spec.Encode: what they answer.
-/
import Derived.Test.YtohmfmajgehadaaGreatDoorJoint22
import Derived.Test.YtohmfmajgehadaaGreatDoorJoint23
import Derived.Test.YtohmfmajgehadaaGreatDoorJoint8
import Derived.Test.YtohmfmajgehadaaGreatDoorJoint20
import Derived.Test.YtohmfmajgehadaaGreatDoorJoint1
import Derived.Test.YtohmfmajgehadaaGreatDoorJoint10
import Derived.Deep.RegionWith
import Derived.Deep.LoopGhost
namespace Go.Proofs.YtohmfmajgehadaaGreatDoor
open Go.RowKit

theorem l17Flag_any (x : Bool) (w : World) : Calls Tryz.prog 97 #[.bool x] w fun e w' => e = .returned (.string ⟨(flagL x).toArray⟩) ∧ Below w.heap.size w w' := by
  cases x with
  | false =>
    go_enter Tryz.func97, Tryz.ntmps97
    go_wp2
    go_ret
    exact ⟨rfl, Below.refl _ _⟩
  | true =>
    go_enter Tryz.func97, Tryz.ntmps97
    go_wp2
    go_ret
    exact ⟨rfl, Below.refl _ _⟩
theorem three_bytes {W : World} {g a b c : Nat} (ha : a ≤ 255) (hb : b ≤ 255) (hc : c ≤ 255) (h : BlockIs W g 5 [.int .u8 (a : Int), .int .u8 (b : Int), .int .u8 (c : Int)]) : (convert 22 9 (.slice (some ⟨g, 0, none⟩) 3 3)).run Tryz.prog W = .ok (.string ⟨#[UInt8.ofNat a, UInt8.ofNat b, UInt8.ofNat c]⟩) W :=
  run_convert_bytes_back _ 22 9 5 ⟨g, 0, none⟩ 3 [UInt8.ofNat a, UInt8.ofNat b, UInt8.ofNat c] Tryz.underlying22 Tryz.underlying5 Tryz.underlying9 fun j hj => by
    have e0 : ((UInt8.ofNat a).toNat : Int) = (a : Int) := by rw [UInt8.toNat_ofNat']; omega
    have e1 : ((UInt8.ofNat b).toNat : Int) = (b : Int) := by rw [UInt8.toNat_ofNat']; omega
    have e2 : ((UInt8.ofNat c).toNat : Int) = (c : Int) := by rw [UInt8.toNat_ofNat']; omega
    have t0 := h.cell (j := 0) rfl
    have t1 := h.cell (j := 1) rfl
    have t2 := h.cell (j := 2) rfl
    rw [← e0] at t0
    rw [← e1] at t1
    rw [← e2] at t2
    match j, hj with
    | 0, _ => exact t0
    | 1, _ => exact t1
    | 2, _ => exact t2
theorem list_text (A : List UInt8) (s : ByteArray) : (⟨A.toArray⟩ : ByteArray) ++ shortT s = ⟨(A ++ shortL s).toArray⟩ := by
  apply ByteArray.ext
  apply Array.toList_inj.1
  simp [shortT, shortL, ByteArray.data_append]
theorem list_size (A : List UInt8) : (⟨A.toArray⟩ : ByteArray).size = A.length := by
  show A.toArray.size = _
  simp
theorem shortT_lenL (s : ByteArray) : (shortT s).size = (shortL s).length := by
  unfold shortT shortL
  rw [ByteArray.size_append, list_size, List.length_append]
  congr 1
theorem vb_text (n : Nat) (h : n ≤ 1000000000) : (⟨(vb n).toArray⟩ : ByteArray).size ≤ 5 := by
  have := vb_len h
  rw [list_size]
  exact this
theorem confText_conf {zs : List Int} (h : confOk zs = true ∨ zs = []) : (confText zs).1 = confB zs := by
  rcases h with h | h
  · rw [confText_yes h]; rfl
  · subst h
    rw [confText_no (by decide)]
    rfl

set_option maxRecDepth 1000000 in
set_option maxHeartbeats 4000000 in
theorem specEncode_any (d : MsgD) (ao : Option Addr) (ac : Nat) (bo : Option Addr) (bc : Nat) (hs : d.Small) (w : World) (ha : EntsAt w ao d.ents) (hb : IntsAt w bo d.conf) :
    Calls Tryz.prog 48 #[.agg #[.int .i64 d.kind, .int .i64 d.src, .int .i64 d.dst, .int .i64 d.term, .int .i64 d.index, .int .i64 d.logTerm, .int .i64 d.commit, .bool d.ok, .slice ao d.ents.length ac, .slice bo d.conf.length bc, .string d.data, .bool d.last]] w fun e w' => e = .returned (encAns d) ∧ Below w.heap.size w w' := by
  have HA := hid ha
  have HI := hid hb
  have cO' := fun ao ac bo bc w ha hb => specMessageOk_any d ao ac bo bc hs w ha hb
  cases hok : messageOk d with
  | false =>
    have HB := hid (below_more (Below.refl w.heap.size w) (.cells #[.int .i64 d.kind, .int .i64 d.src, .int .i64 d.dst, .int .i64 d.term, .int .i64 d.index, .int .i64 d.logTerm, .int .i64 d.commit, .bool d.ok, .slice ao d.ents.length ac, .slice bo d.conf.length bc, .string d.data, .bool d.last] 39))
    have HX : Hid (BlockIs (w.alloc (.cells #[.int .i64 d.kind, .int .i64 d.src, .int .i64 d.dst, .int .i64 d.term, .int .i64 d.index, .int .i64 d.logTerm, .int .i64 d.commit, .bool d.ok, .slice ao d.ents.length ac, .slice bo d.conf.length bc, .string d.data, .bool d.last] 39)) w.heap.size 39 [.int .i64 d.kind, .int .i64 d.src, .int .i64 d.dst, .int .i64 d.term, .int .i64 d.index, .int .i64 d.logTerm, .int .i64 d.commit, .bool d.ok, .slice ao d.ents.length ac, .slice bo d.conf.length bc, .string d.data, .bool d.last]) := heap_alloc_new w _
    obtain ⟨W, hW⟩ : ∃ W, w.alloc (.cells #[.int .i64 d.kind, .int .i64 d.src, .int .i64 d.dst, .int .i64 d.term, .int .i64 d.index, .int .i64 d.logTerm, .int .i64 d.commit, .bool d.ok, .slice ao d.ents.length ac, .slice bo d.conf.length bc, .string d.data, .bool d.last] 39) = W := ⟨_, rfl⟩
    rw [hW] at HB HX
    have c0 := HX.out.cell (j := 0) rfl
    have c1 := HX.out.cell (j := 1) rfl
    have c2 := HX.out.cell (j := 2) rfl
    have c3 := HX.out.cell (j := 3) rfl
    have c4 := HX.out.cell (j := 4) rfl
    have c5 := HX.out.cell (j := 5) rfl
    have c6 := HX.out.cell (j := 6) rfl
    have c7 := HX.out.cell (j := 7) rfl
    have c8 := HX.out.cell (j := 8) rfl
    have c9 := HX.out.cell (j := 9) rfl
    have c10 := HX.out.cell (j := 10) rfl
    have c11 := HX.out.cell (j := 11) rfl
    rw [hok] at cO'
    have cO := hid cO'
    have HN : Hid (encAns d = .tuple #[.string ByteArray.empty, .bool false]) := (show _ = _ by rw [encAns, hok]; exact if_neg (by simp))
    clear cO' hok ha hb
    go_enter Tryz.func48, Tryz.ntmps48
    go_wp2_with fail
    refine (cO.out _ _ _ _ _ (HA.out.on HB.out) (HI.out.on HB.out)).mono ?_
    rintro e w2 ⟨rfl, b2⟩
    have B2 := hid (below_via HB.out b2)
    clear b2 cO
    go_wp2
    go_ret2
    exact ⟨by rw [HN.out]; rfl, B2.out⟩
  | true =>

    have hr := messageOk_facts hok
    have HN : Hid (encAns d = .tuple #[.string (msgText d), .bool true]) := (show _ = _ by rw [encAns, hok]; exact if_pos rfl)
    rw [hok] at cO'
    clear hok
    obtain ⟨hk, hsr, hd, ht, hi, hg, hc, he, hea, hcc, hdt⟩ := id hr
    have hcf := hr.confs
    have hsum := sentL_sum d.ents hea
    clear hr hs
    obtain ⟨k0, k1, k2, k3, k4, k5, k6, up, es, zs, dt, la⟩ := d
    dsimp only at hk hsr hd ht hi hg hc he hea hcc hdt hcf hsum ha hb HA HI cO' ⊢
    obtain ⟨n0, rfl⟩ : ∃ n : Nat, k0 = n := ⟨k0.toNat, by omega⟩
    obtain ⟨n1, rfl⟩ : ∃ n : Nat, k1 = n := ⟨k1.toNat, by omega⟩
    obtain ⟨n2, rfl⟩ : ∃ n : Nat, k2 = n := ⟨k2.toNat, by omega⟩
    obtain ⟨n3, rfl⟩ : ∃ n : Nat, k3 = n := ⟨k3.toNat, by omega⟩
    obtain ⟨n4, rfl⟩ : ∃ n : Nat, k4 = n := ⟨k4.toNat, by omega⟩
    obtain ⟨n5, rfl⟩ : ∃ n : Nat, k5 = n := ⟨k5.toNat, by omega⟩
    obtain ⟨n6, rfl⟩ : ∃ n : Nat, k6 = n := ⟨k6.toNat, by omega⟩
    have cO := hid cO'
    clear cO' ha hb
    have HEA := hid hea
    have HCF := hid hcf
    have HSUM := hid hsum
    have HCC := hid (confText_conf hcc)
    have HES := hid (fun (k : Nat) (h : k < es.length) => (entry_facts (hea _ (List.getElem_mem h))).2.2)
    clear hea hcf hsum hcc
    have HB := hid (below_more (Below.refl w.heap.size w) (.cells #[.int .i64 (n0 : Int), .int .i64 (n1 : Int), .int .i64 (n2 : Int), .int .i64 (n3 : Int), .int .i64 (n4 : Int), .int .i64 (n5 : Int), .int .i64 (n6 : Int), .bool up, .slice ao es.length ac, .slice bo zs.length bc, .string dt, .bool la] 39))
    have HX : Hid (BlockIs (w.alloc (.cells #[.int .i64 (n0 : Int), .int .i64 (n1 : Int), .int .i64 (n2 : Int), .int .i64 (n3 : Int), .int .i64 (n4 : Int), .int .i64 (n5 : Int), .int .i64 (n6 : Int), .bool up, .slice ao es.length ac, .slice bo zs.length bc, .string dt, .bool la] 39)) w.heap.size 39 [.int .i64 (n0 : Int), .int .i64 (n1 : Int), .int .i64 (n2 : Int), .int .i64 (n3 : Int), .int .i64 (n4 : Int), .int .i64 (n5 : Int), .int .i64 (n6 : Int), .bool up, .slice ao es.length ac, .slice bo zs.length bc, .string dt, .bool la]) := heap_alloc_new w _
    obtain ⟨W, hW⟩ : ∃ W, w.alloc (.cells #[.int .i64 (n0 : Int), .int .i64 (n1 : Int), .int .i64 (n2 : Int), .int .i64 (n3 : Int), .int .i64 (n4 : Int), .int .i64 (n5 : Int), .int .i64 (n6 : Int), .bool up, .slice ao es.length ac, .slice bo zs.length bc, .string dt, .bool la] 39) = W := ⟨_, rfl⟩
    rw [hW] at HB HX
    have c0 := HX.out.cell (j := 0) rfl
    have c1 := HX.out.cell (j := 1) rfl
    have c2 := HX.out.cell (j := 2) rfl
    have c3 := HX.out.cell (j := 3) rfl
    have c4 := HX.out.cell (j := 4) rfl
    have c5 := HX.out.cell (j := 5) rfl
    have c6 := HX.out.cell (j := 6) rfl
    have c7 := HX.out.cell (j := 7) rfl
    have c8 := HX.out.cell (j := 8) rfl
    have c9 := HX.out.cell (j := 9) rfl
    have c10 := HX.out.cell (j := 10) rfl
    have c11 := HX.out.cell (j := 11) rfl
    go_enter Tryz.func48, Tryz.ntmps48
    go_wp2_with fail
    refine (cO.out _ _ _ _ _ (HA.out.on HB.out) (HI.out.on HB.out)).mono ?_
    rintro e w2 ⟨rfl, b2⟩
    have X2 := hid (HX.out.on b2 HX.out.lt)
    have B2 := hid (below_via HB.out b2)
    clear b2 HX HB hW cO c0 c1 c2 c3 c4 c5 c6 c7 c8 c9 c10 c11
    have D3 := hid (l01Var_any n3 (by omega))
    have z3 := vb_text n3 (by omega)
    have D4 := hid (l01Var_any n4 (by omega))
    have z4 := vb_text n4 (by omega)
    have D5 := hid (l01Var_any n5 (by omega))
    have z5 := vb_text n5 (by omega)
    have D6 := hid (l01Var_any n6 (by omega))
    have z6 := vb_text n6 (by omega)
    have D9 := hid (l01Var_any es.length (by omega))
    have z9 := vb_text es.length (by omega)
    have D7 := hid (l17Flag_any up)
    have z7 : (⟨(flagL up).toArray⟩ : ByteArray).size = 1 := by rw [list_size, flagL_len]
    have D8 := hid (l17Flag_any la)
    have z8 : (⟨(flagL la).toArray⟩ : ByteArray).size = 1 := by rw [list_size, flagL_len]
    have hcv := hid (fun (W : World) (g : Nat) (h : BlockIs W g 5 [.int .u8 (n0 : Int), .int .u8 (n1 : Int), .int .u8 (n2 : Int)]) => three_bytes (a := n0) (b := n1) (c := n2) (by omega) (by omega) (by omega) h)
    have zk : (⟨#[UInt8.ofNat n0, UInt8.ofNat n1, UInt8.ofNat n2]⟩ : ByteArray).size = 3 := rfl
    obtain ⟨K, hK⟩ : ∃ K : ByteArray, ⟨#[UInt8.ofNat n0, UInt8.ofNat n1, UInt8.ofNat n2]⟩ = K := ⟨_, rfl⟩
    rw [hK] at hcv zk
    obtain ⟨V3, hV3⟩ : ∃ V : ByteArray, ⟨(vb n3).toArray⟩ = V := ⟨_, rfl⟩
    rw [hV3] at D3 z3
    obtain ⟨V4, hV4⟩ : ∃ V : ByteArray, ⟨(vb n4).toArray⟩ = V := ⟨_, rfl⟩
    rw [hV4] at D4 z4
    obtain ⟨V5, hV5⟩ : ∃ V : ByteArray, ⟨(vb n5).toArray⟩ = V := ⟨_, rfl⟩
    rw [hV5] at D5 z5
    obtain ⟨V6, hV6⟩ : ∃ V : ByteArray, ⟨(vb n6).toArray⟩ = V := ⟨_, rfl⟩
    rw [hV6] at D6 z6
    obtain ⟨V7, hV7⟩ : ∃ V : ByteArray, ⟨(flagL up).toArray⟩ = V := ⟨_, rfl⟩
    rw [hV7] at D7 z7
    obtain ⟨V8, hV8⟩ : ∃ V : ByteArray, ⟨(flagL la).toArray⟩ = V := ⟨_, rfl⟩
    rw [hV8] at D8 z8
    obtain ⟨V9, hV9⟩ : ∃ V : ByteArray, ⟨(vb es.length).toArray⟩ = V := ⟨_, rfl⟩
    rw [hV9] at D9 z9
    obtain ⟨A3, q3, y3⟩ : ∃ A : ByteArray, K ++ V3 = A ∧ A.size ≤ 8 := ⟨_, rfl, by rw [ByteArray.size_append]; omega⟩
    have hs3 : ∀ w, (Op.stringOp .add K V3).run Tryz.prog w = .ok (.string A3) w := fun w => by rw [run_string_add_sum w _ _ (by omega), q3]
    obtain ⟨A4, q4, y4⟩ : ∃ A : ByteArray, A3 ++ V4 = A ∧ A.size ≤ 13 := ⟨_, rfl, by rw [ByteArray.size_append]; omega⟩
    have hs4 : ∀ w, (Op.stringOp .add A3 V4).run Tryz.prog w = .ok (.string A4) w := fun w => by rw [run_string_add_sum w _ _ (by omega), q4]
    obtain ⟨A5, q5, y5⟩ : ∃ A : ByteArray, A4 ++ V5 = A ∧ A.size ≤ 18 := ⟨_, rfl, by rw [ByteArray.size_append]; omega⟩
    have hs5 : ∀ w, (Op.stringOp .add A4 V5).run Tryz.prog w = .ok (.string A5) w := fun w => by rw [run_string_add_sum w _ _ (by omega), q5]
    obtain ⟨A6, q6, y6⟩ : ∃ A : ByteArray, A5 ++ V6 = A ∧ A.size ≤ 23 := ⟨_, rfl, by rw [ByteArray.size_append]; omega⟩
    have hs6 : ∀ w, (Op.stringOp .add A5 V6).run Tryz.prog w = .ok (.string A6) w := fun w => by rw [run_string_add_sum w _ _ (by omega), q6]
    obtain ⟨A7, q7, y7⟩ : ∃ A : ByteArray, A6 ++ V7 = A ∧ A.size ≤ 28 := ⟨_, rfl, by rw [ByteArray.size_append]; omega⟩
    have hs7 : ∀ w, (Op.stringOp .add A6 V7).run Tryz.prog w = .ok (.string A7) w := fun w => by rw [run_string_add_sum w _ _ (by omega), q7]
    obtain ⟨A8, q8, y8⟩ : ∃ A : ByteArray, A7 ++ V8 = A ∧ A.size ≤ 33 := ⟨_, rfl, by rw [ByteArray.size_append]; omega⟩
    have hs8 : ∀ w, (Op.stringOp .add A7 V8).run Tryz.prog w = .ok (.string A8) w := fun w => by rw [run_string_add_sum w _ _ (by omega), q8]
    obtain ⟨A9, q9, y9⟩ : ∃ A : ByteArray, A8 ++ V9 = A ∧ A.size ≤ 38 := ⟨_, rfl, by rw [ByteArray.size_append]; omega⟩
    have hs9 : ∀ w, (Op.stringOp .add A8 V9).run Tryz.prog w = .ok (.string A9) w := fun w => by rw [run_string_add_sum w _ _ (by omega), q9]
    have HT : Hid (A9 = ⟨(headL ⟨(n0 : Int), (n1 : Int), (n2 : Int), (n3 : Int), (n4 : Int), (n5 : Int), (n6 : Int), up, es, zs, dt, la⟩).toArray⟩) := (show _ = _ by
      rw [← q9, ← q8, ← q7, ← q6, ← q5, ← q4, ← q3, ← hK, ← hV3, ← hV4, ← hV5, ← hV6, ← hV7, ← hV8, ← hV9]
      apply ByteArray.ext
      apply Array.toList_inj.1
      simp [headL, ByteArray.data_append])
    have hwr0 : IntKind.u8.wrap (n0 : Int) = (n0 : Int) := by rw [IntKind.wrap_u8]; omega
    have hwr1 : IntKind.u8.wrap (n1 : Int) = (n1 : Int) := by rw [IntKind.wrap_u8]; omega
    have hwr2 : IntKind.u8.wrap (n2 : Int) = (n2 : Int) := by rw [IntKind.wrap_u8]; omega
    have hL0 : Hid ((headL ⟨(n0 : Int), (n1 : Int), (n2 : Int), (n3 : Int), (n4 : Int), (n5 : Int), (n6 : Int), up, es, zs, dt, la⟩).length ≤ 38) := by
      show _ ≤ _
      rw [← list_size, ← HT.out]
      omega
    clear hK hV3 q3 z3 hV4 q4 z4 hV5 q5 z5 hV6 q6 z6 hV7 q7 z7 hV8 q8 z8 hV9 q9 z9 zk y3 y4 y5 y6 y7 y8
    go_wp2
    refine wp_region_each (N := 87) (by kernel_rfl) (by kernel_rfl) rfl (by kernel_rfl) (fun W => Below w2.heap.size w2 W) (fun j v _ W => match j with | 0 => v = .pointer (some ⟨w.heap.size, 0, none⟩) | 1 => v = .int .i64 (n0 : Int) | 2 => v = .int .u8 (n0 : Int) | 3 => v = .pointer (some ⟨w.heap.size, 1, none⟩) | 4 => v = .int .i64 (n1 : Int) | 5 => v = .int .u8 (n1 : Int) | 6 => v = .pointer (some ⟨w.heap.size, 2, none⟩) | 7 => v = .int .i64 (n2 : Int) | 8 => v = .int .u8 (n2 : Int) | 9 => ∃ g, v = .slice (some ⟨g, 0, none⟩) 3 3 ∧ BlockIs W g 5 [.int .u8 (n0 : Int), .int .u8 (n1 : Int), .int .u8 (n2 : Int)] | 10 => v = .string K | 11 => v = .pointer (some ⟨w.heap.size, 3, none⟩) | 12 => v = .int .i64 (n3 : Int) | 13 => v = .string V3 | 14 => v = .string A3 | 15 => v = .pointer (some ⟨w.heap.size, 4, none⟩) | 16 => v = .int .i64 (n4 : Int) | 17 => v = .string V4 | 18 => v = .string A4 | 19 => v = .pointer (some ⟨w.heap.size, 5, none⟩) | 20 => v = .int .i64 (n5 : Int) | 21 => v = .string V5 | 22 => v = .string A5 | 23 => v = .pointer (some ⟨w.heap.size, 6, none⟩) | 24 => v = .int .i64 (n6 : Int) | 25 => v = .string V6 | 26 => v = .string A6 | 27 => v = .pointer (some ⟨w.heap.size, 7, none⟩) | 28 => v = .bool up | 29 => v = .string V7 | 30 => v = .string A7 | 31 => v = .pointer (some ⟨w.heap.size, 11, none⟩) | 32 => v = .bool la | 33 => v = .string V8 | 34 => v = .string A8 | 35 => v = .pointer (some ⟨w.heap.size, 8, none⟩) | 36 => v = .slice ao es.length ac | 37 => v = .int .i64 (es.length : Int) | 38 => v = .string V9 | 39 => v = .string A9 | 40 => v = .string A9 | _ => True) (fun i => i) (fun _ _ => false) (fun _ x y => Below x.heap.size x y) (fun _ => 0) (by kernel_rfl) (fun _ _ => rfl) ?_ (below_drewN (Below.refl _ _) 1) ?_ ?_
    · intro i j v u x y hij hdd hwt hxy hg
      match j, hg with
      | 0, hg => exact hg
      | 1, hg => exact hg
      | 2, hg => exact hg
      | 3, hg => exact hg
      | 4, hg => exact hg
      | 5, hg => exact hg
      | 6, hg => exact hg
      | 7, hg => exact hg
      | 8, hg => exact hg
      | 9, hg =>
        obtain ⟨g, e1, h⟩ := hg
        exact ⟨g, e1, h.on hxy h.lt⟩
      | 10, hg => exact hg
      | 11, hg => exact hg
      | 12, hg => exact hg
      | 13, hg => exact hg
      | 14, hg => exact hg
      | 15, hg => exact hg
      | 16, hg => exact hg
      | 17, hg => exact hg
      | 18, hg => exact hg
      | 19, hg => exact hg
      | 20, hg => exact hg
      | 21, hg => exact hg
      | 22, hg => exact hg
      | 23, hg => exact hg
      | 24, hg => exact hg
      | 25, hg => exact hg
      | 26, hg => exact hg
      | 27, hg => exact hg
      | 28, hg => exact hg
      | 29, hg => exact hg
      | 30, hg => exact hg
      | 31, hg => exact hg
      | 32, hg => exact hg
      | 33, hg => exact hg
      | 34, hg => exact hg
      | 35, hg => exact hg
      | 36, hg => exact hg
      | 37, hg => exact hg
      | 38, hg => exact hg
      | 39, hg => exact hg
      | 40, hg => exact hg
      | n + 41, _ => exact trivial
    · refine ⟨?_, ?_, ?_, ?_, ?_, ?_, ?_, ?_, ?_, ?_, ?_, ?_, ?_, ?_, ?_, ?_, ?_, ?_, ?_, ?_, ?_, ?_, ?_, ?_, ?_, ?_, ?_, ?_, ?_, ?_, ?_, ?_, ?_, ?_, ?_, ?_, ?_, ?_, ?_, ?_, ?_, trivial⟩
      · intro A W hC hg hb
        have h1 : A.eval (.tmp 1) = .pointer (some ⟨w.heap.size, 0, none⟩) := hb 1 (base_of (by kernel_rfl))
        exact does_value (v := .pointer (some ⟨w.heap.size, 0, none⟩)) (w' := W) (by simp only [execOp, h1]; simp [go_sem]) ⟨rfl, hC, Below.refl _ _⟩
      · intro A W hC hg hb
        have h13 : A.eval (.tmp 13) = .pointer (some ⟨w.heap.size, 0, none⟩) := hg 0 13 (by decide) rfl (by simp [Op.operands]) (by kernel_rfl) rfl
        have hc := (X2.out.on hC X2.out.lt).cell (j := 0) rfl
        exact does_value (v := .int .i64 (n0 : Int)) (w' := W) (by simp only [execOp, h13]; simp [go_sem, hc]) ⟨rfl, hC, Below.refl _ _⟩
      · intro A W hC hg hb
        have h14 : A.eval (.tmp 14) = .int .i64 (n0 : Int) := hg 1 14 (by decide) rfl (by simp [Op.operands]) (by kernel_rfl) rfl
        exact does_value (v := .int .u8 (n0 : Int)) (w' := W) (by simp only [execOp, h14]; simp [go_sem, hwr0]) ⟨rfl, hC, Below.refl _ _⟩
      · intro A W hC hg hb
        have h1 : A.eval (.tmp 1) = .pointer (some ⟨w.heap.size, 0, none⟩) := hb 1 (base_of (by kernel_rfl))
        exact does_value (v := .pointer (some ⟨w.heap.size, 1, none⟩)) (w' := W) (by simp only [execOp, h1]; simp [go_sem]) ⟨rfl, hC, Below.refl _ _⟩
      · intro A W hC hg hb
        have h16 : A.eval (.tmp 16) = .pointer (some ⟨w.heap.size, 1, none⟩) := hg 3 16 (by decide) rfl (by simp [Op.operands]) (by kernel_rfl) rfl
        have hc := (X2.out.on hC X2.out.lt).cell (j := 1) rfl
        exact does_value (v := .int .i64 (n1 : Int)) (w' := W) (by simp only [execOp, h16]; simp [go_sem, hc]) ⟨rfl, hC, Below.refl _ _⟩
      · intro A W hC hg hb
        have h17 : A.eval (.tmp 17) = .int .i64 (n1 : Int) := hg 4 17 (by decide) rfl (by simp [Op.operands]) (by kernel_rfl) rfl
        exact does_value (v := .int .u8 (n1 : Int)) (w' := W) (by simp only [execOp, h17]; simp [go_sem, hwr1]) ⟨rfl, hC, Below.refl _ _⟩
      · intro A W hC hg hb
        have h1 : A.eval (.tmp 1) = .pointer (some ⟨w.heap.size, 0, none⟩) := hb 1 (base_of (by kernel_rfl))
        exact does_value (v := .pointer (some ⟨w.heap.size, 2, none⟩)) (w' := W) (by simp only [execOp, h1]; simp [go_sem]) ⟨rfl, hC, Below.refl _ _⟩
      · intro A W hC hg hb
        have h19 : A.eval (.tmp 19) = .pointer (some ⟨w.heap.size, 2, none⟩) := hg 6 19 (by decide) rfl (by simp [Op.operands]) (by kernel_rfl) rfl
        have hc := (X2.out.on hC X2.out.lt).cell (j := 2) rfl
        exact does_value (v := .int .i64 (n2 : Int)) (w' := W) (by simp only [execOp, h19]; simp [go_sem, hc]) ⟨rfl, hC, Below.refl _ _⟩
      · intro A W hC hg hb
        have h20 : A.eval (.tmp 20) = .int .i64 (n2 : Int) := hg 7 20 (by decide) rfl (by simp [Op.operands]) (by kernel_rfl) rfl
        exact does_value (v := .int .u8 (n2 : Int)) (w' := W) (by simp only [execOp, h20]; simp [go_sem, hwr2]) ⟨rfl, hC, Below.refl _ _⟩
      · intro A W hC hg hb
        have h15 : A.eval (.tmp 15) = .int .u8 (n0 : Int) := hg 2 15 (by decide) rfl (by simp [Op.operands]) (by kernel_rfl) rfl
        have h18 : A.eval (.tmp 18) = .int .u8 (n1 : Int) := hg 5 18 (by decide) rfl (by simp [Op.operands]) (by kernel_rfl) rfl
        have h21 : A.eval (.tmp 21) = .int .u8 (n2 : Int) := hg 8 21 (by decide) rfl (by simp [Op.operands]) (by kernel_rfl) rfl
        simp [go_sem] at h15 h18 h21
        exact does_value (v := .slice (some ⟨W.heap.size, 0, none⟩) 3 3) (w' := W.alloc (.cells #[.int .u8 (n0 : Int), .int .u8 (n1 : Int), .int .u8 (n2 : Int)] 5)) (by simp [execOp, go_sem, h15, h18, h21]) ⟨⟨_, rfl, heap_alloc_new W _⟩, below_more hC _, below_more (Below.refl _ _) _⟩
      · intro A W hC hg hb
        have g9 := hg 9 22 (by decide) rfl (by simp [Op.operands]) (by kernel_rfl) rfl
        obtain ⟨g, h22, hB⟩ := g9
        have hcw := hcv.out W g hB
        exact does_value (v := .string K) (w' := W) (by simp only [execOp, h22]; simp [go_sem, hcw]) ⟨rfl, hC, Below.refl _ _⟩
      · intro A W hC hg hb
        have h1 : A.eval (.tmp 1) = .pointer (some ⟨w.heap.size, 0, none⟩) := hb 1 (base_of (by kernel_rfl))
        exact does_value (v := .pointer (some ⟨w.heap.size, 3, none⟩)) (w' := W) (by simp only [execOp, h1]; simp [go_sem]) ⟨rfl, hC, Below.refl _ _⟩
      · intro A W hC hg hb
        have h24 : A.eval (.tmp 24) = .pointer (some ⟨w.heap.size, 3, none⟩) := hg 11 24 (by decide) rfl (by simp [Op.operands]) (by kernel_rfl) rfl
        have hc := (X2.out.on hC X2.out.lt).cell (j := 3) rfl
        exact does_value (v := .int .i64 (n3 : Int)) (w' := W) (by simp only [execOp, h24]; simp [go_sem, hc]) ⟨rfl, hC, Below.refl _ _⟩
      · intro A W hC hg hb
        have h25 : A.eval (.tmp 25) = .int .i64 (n3 : Int) := hg 12 25 (by decide) rfl (by simp [Op.operands, Call.operands]) (by kernel_rfl) rfl
        simp [go_sem] at h25
        refine does_enter (f := 58) (args := #[.int .i64 (n3 : Int)]) (w' := W) (by simp [go_sem, h25]) ?_
        refine (D3.out W).mono ?_
        rintro e w3 ⟨rfl, b3⟩
        exact ⟨_, rfl, rfl, below_via hC b3, b3⟩
      · intro A W hC hg hb
        have h23 : A.eval (.tmp 23) = .string K := hg 10 23 (by decide) rfl (by simp [Op.operands]) (by kernel_rfl) rfl
        have h26 : A.eval (.tmp 26) = .string V3 := hg 13 26 (by decide) rfl (by simp [Op.operands]) (by kernel_rfl) rfl
        exact does_value (v := .string A3) (w' := W) (by simp only [execOp, h23, h26]; simp [go_sem, hs3]) ⟨rfl, hC, Below.refl _ _⟩
      · intro A W hC hg hb
        have h1 : A.eval (.tmp 1) = .pointer (some ⟨w.heap.size, 0, none⟩) := hb 1 (base_of (by kernel_rfl))
        exact does_value (v := .pointer (some ⟨w.heap.size, 4, none⟩)) (w' := W) (by simp only [execOp, h1]; simp [go_sem]) ⟨rfl, hC, Below.refl _ _⟩
      · intro A W hC hg hb
        have h28 : A.eval (.tmp 28) = .pointer (some ⟨w.heap.size, 4, none⟩) := hg 15 28 (by decide) rfl (by simp [Op.operands]) (by kernel_rfl) rfl
        have hc := (X2.out.on hC X2.out.lt).cell (j := 4) rfl
        exact does_value (v := .int .i64 (n4 : Int)) (w' := W) (by simp only [execOp, h28]; simp [go_sem, hc]) ⟨rfl, hC, Below.refl _ _⟩
      · intro A W hC hg hb
        have h29 : A.eval (.tmp 29) = .int .i64 (n4 : Int) := hg 16 29 (by decide) rfl (by simp [Op.operands, Call.operands]) (by kernel_rfl) rfl
        simp [go_sem] at h29
        refine does_enter (f := 58) (args := #[.int .i64 (n4 : Int)]) (w' := W) (by simp [go_sem, h29]) ?_
        refine (D4.out W).mono ?_
        rintro e w3 ⟨rfl, b3⟩
        exact ⟨_, rfl, rfl, below_via hC b3, b3⟩
      · intro A W hC hg hb
        have h27 : A.eval (.tmp 27) = .string A3 := hg 14 27 (by decide) rfl (by simp [Op.operands]) (by kernel_rfl) rfl
        have h30 : A.eval (.tmp 30) = .string V4 := hg 17 30 (by decide) rfl (by simp [Op.operands]) (by kernel_rfl) rfl
        exact does_value (v := .string A4) (w' := W) (by simp only [execOp, h27, h30]; simp [go_sem, hs4]) ⟨rfl, hC, Below.refl _ _⟩
      · intro A W hC hg hb
        have h1 : A.eval (.tmp 1) = .pointer (some ⟨w.heap.size, 0, none⟩) := hb 1 (base_of (by kernel_rfl))
        exact does_value (v := .pointer (some ⟨w.heap.size, 5, none⟩)) (w' := W) (by simp only [execOp, h1]; simp [go_sem]) ⟨rfl, hC, Below.refl _ _⟩
      · intro A W hC hg hb
        have h32 : A.eval (.tmp 32) = .pointer (some ⟨w.heap.size, 5, none⟩) := hg 19 32 (by decide) rfl (by simp [Op.operands]) (by kernel_rfl) rfl
        have hc := (X2.out.on hC X2.out.lt).cell (j := 5) rfl
        exact does_value (v := .int .i64 (n5 : Int)) (w' := W) (by simp only [execOp, h32]; simp [go_sem, hc]) ⟨rfl, hC, Below.refl _ _⟩
      · intro A W hC hg hb
        have h33 : A.eval (.tmp 33) = .int .i64 (n5 : Int) := hg 20 33 (by decide) rfl (by simp [Op.operands, Call.operands]) (by kernel_rfl) rfl
        simp [go_sem] at h33
        refine does_enter (f := 58) (args := #[.int .i64 (n5 : Int)]) (w' := W) (by simp [go_sem, h33]) ?_
        refine (D5.out W).mono ?_
        rintro e w3 ⟨rfl, b3⟩
        exact ⟨_, rfl, rfl, below_via hC b3, b3⟩
      · intro A W hC hg hb
        have h31 : A.eval (.tmp 31) = .string A4 := hg 18 31 (by decide) rfl (by simp [Op.operands]) (by kernel_rfl) rfl
        have h34 : A.eval (.tmp 34) = .string V5 := hg 21 34 (by decide) rfl (by simp [Op.operands]) (by kernel_rfl) rfl
        exact does_value (v := .string A5) (w' := W) (by simp only [execOp, h31, h34]; simp [go_sem, hs5]) ⟨rfl, hC, Below.refl _ _⟩
      · intro A W hC hg hb
        have h1 : A.eval (.tmp 1) = .pointer (some ⟨w.heap.size, 0, none⟩) := hb 1 (base_of (by kernel_rfl))
        exact does_value (v := .pointer (some ⟨w.heap.size, 6, none⟩)) (w' := W) (by simp only [execOp, h1]; simp [go_sem]) ⟨rfl, hC, Below.refl _ _⟩
      · intro A W hC hg hb
        have h36 : A.eval (.tmp 36) = .pointer (some ⟨w.heap.size, 6, none⟩) := hg 23 36 (by decide) rfl (by simp [Op.operands]) (by kernel_rfl) rfl
        have hc := (X2.out.on hC X2.out.lt).cell (j := 6) rfl
        exact does_value (v := .int .i64 (n6 : Int)) (w' := W) (by simp only [execOp, h36]; simp [go_sem, hc]) ⟨rfl, hC, Below.refl _ _⟩
      · intro A W hC hg hb
        have h37 : A.eval (.tmp 37) = .int .i64 (n6 : Int) := hg 24 37 (by decide) rfl (by simp [Op.operands, Call.operands]) (by kernel_rfl) rfl
        simp [go_sem] at h37
        refine does_enter (f := 58) (args := #[.int .i64 (n6 : Int)]) (w' := W) (by simp [go_sem, h37]) ?_
        refine (D6.out W).mono ?_
        rintro e w3 ⟨rfl, b3⟩
        exact ⟨_, rfl, rfl, below_via hC b3, b3⟩
      · intro A W hC hg hb
        have h35 : A.eval (.tmp 35) = .string A5 := hg 22 35 (by decide) rfl (by simp [Op.operands]) (by kernel_rfl) rfl
        have h38 : A.eval (.tmp 38) = .string V6 := hg 25 38 (by decide) rfl (by simp [Op.operands]) (by kernel_rfl) rfl
        exact does_value (v := .string A6) (w' := W) (by simp only [execOp, h35, h38]; simp [go_sem, hs6]) ⟨rfl, hC, Below.refl _ _⟩
      · intro A W hC hg hb
        have h1 : A.eval (.tmp 1) = .pointer (some ⟨w.heap.size, 0, none⟩) := hb 1 (base_of (by kernel_rfl))
        exact does_value (v := .pointer (some ⟨w.heap.size, 7, none⟩)) (w' := W) (by simp only [execOp, h1]; simp [go_sem]) ⟨rfl, hC, Below.refl _ _⟩
      · intro A W hC hg hb
        have h40 : A.eval (.tmp 40) = .pointer (some ⟨w.heap.size, 7, none⟩) := hg 27 40 (by decide) rfl (by simp [Op.operands]) (by kernel_rfl) rfl
        have hc := (X2.out.on hC X2.out.lt).cell (j := 7) rfl
        exact does_value (v := .bool up) (w' := W) (by simp only [execOp, h40]; simp [go_sem, hc]) ⟨rfl, hC, Below.refl _ _⟩
      · intro A W hC hg hb
        have h41 : A.eval (.tmp 41) = .bool up := hg 28 41 (by decide) rfl (by simp [Op.operands, Call.operands]) (by kernel_rfl) rfl
        simp [go_sem] at h41
        refine does_enter (f := 97) (args := #[.bool up]) (w' := W) (by simp [go_sem, h41]) ?_
        refine (D7.out W).mono ?_
        rintro e w3 ⟨rfl, b3⟩
        exact ⟨_, rfl, rfl, below_via hC b3, b3⟩
      · intro A W hC hg hb
        have h39 : A.eval (.tmp 39) = .string A6 := hg 26 39 (by decide) rfl (by simp [Op.operands]) (by kernel_rfl) rfl
        have h42 : A.eval (.tmp 42) = .string V7 := hg 29 42 (by decide) rfl (by simp [Op.operands]) (by kernel_rfl) rfl
        exact does_value (v := .string A7) (w' := W) (by simp only [execOp, h39, h42]; simp [go_sem, hs7]) ⟨rfl, hC, Below.refl _ _⟩
      · intro A W hC hg hb
        have h1 : A.eval (.tmp 1) = .pointer (some ⟨w.heap.size, 0, none⟩) := hb 1 (base_of (by kernel_rfl))
        exact does_value (v := .pointer (some ⟨w.heap.size, 11, none⟩)) (w' := W) (by simp only [execOp, h1]; simp [go_sem]) ⟨rfl, hC, Below.refl _ _⟩
      · intro A W hC hg hb
        have h44 : A.eval (.tmp 44) = .pointer (some ⟨w.heap.size, 11, none⟩) := hg 31 44 (by decide) rfl (by simp [Op.operands]) (by kernel_rfl) rfl
        have hc := (X2.out.on hC X2.out.lt).cell (j := 11) rfl
        exact does_value (v := .bool la) (w' := W) (by simp only [execOp, h44]; simp [go_sem, hc]) ⟨rfl, hC, Below.refl _ _⟩
      · intro A W hC hg hb
        have h45 : A.eval (.tmp 45) = .bool la := hg 32 45 (by decide) rfl (by simp [Op.operands, Call.operands]) (by kernel_rfl) rfl
        simp [go_sem] at h45
        refine does_enter (f := 97) (args := #[.bool la]) (w' := W) (by simp [go_sem, h45]) ?_
        refine (D8.out W).mono ?_
        rintro e w3 ⟨rfl, b3⟩
        exact ⟨_, rfl, rfl, below_via hC b3, b3⟩
      · intro A W hC hg hb
        have h43 : A.eval (.tmp 43) = .string A7 := hg 30 43 (by decide) rfl (by simp [Op.operands]) (by kernel_rfl) rfl
        have h46 : A.eval (.tmp 46) = .string V8 := hg 33 46 (by decide) rfl (by simp [Op.operands]) (by kernel_rfl) rfl
        exact does_value (v := .string A8) (w' := W) (by simp only [execOp, h43, h46]; simp [go_sem, hs8]) ⟨rfl, hC, Below.refl _ _⟩
      · intro A W hC hg hb
        have h1 : A.eval (.tmp 1) = .pointer (some ⟨w.heap.size, 0, none⟩) := hb 1 (base_of (by kernel_rfl))
        exact does_value (v := .pointer (some ⟨w.heap.size, 8, none⟩)) (w' := W) (by simp only [execOp, h1]; simp [go_sem]) ⟨rfl, hC, Below.refl _ _⟩
      · intro A W hC hg hb
        have h48 : A.eval (.tmp 48) = .pointer (some ⟨w.heap.size, 8, none⟩) := hg 35 48 (by decide) rfl (by simp [Op.operands]) (by kernel_rfl) rfl
        have hc := (X2.out.on hC X2.out.lt).cell (j := 8) rfl
        exact does_value (v := .slice ao es.length ac) (w' := W) (by simp only [execOp, h48]; simp [go_sem, hc]) ⟨rfl, hC, Below.refl _ _⟩
      · intro A W hC hg hb
        have h49 : A.eval (.tmp 49) = .slice ao es.length ac := hg 36 49 (by decide) rfl (by simp [Op.operands, Call.operands]) (by kernel_rfl) rfl
        exact does_value (v := .int .i64 (es.length : Int)) (w' := W) (by simp only [execOp, resolve, invoke, builtin, Sem.run_bind, Sem.run_pure, Result.andThen_ok, List.map_toArray, List.map_cons, List.map_nil, h49]; simp [go_sem]) ⟨rfl, hC, Below.refl _ _⟩
      · intro A W hC hg hb
        have h50 : A.eval (.tmp 50) = .int .i64 (es.length : Int) := hg 37 50 (by decide) rfl (by simp [Op.operands, Call.operands]) (by kernel_rfl) rfl
        simp [go_sem] at h50
        refine does_enter (f := 58) (args := #[.int .i64 (es.length : Int)]) (w' := W) (by simp [go_sem, h50]) ?_
        refine (D9.out W).mono ?_
        rintro e w3 ⟨rfl, b3⟩
        exact ⟨_, rfl, rfl, below_via hC b3, b3⟩
      · intro A W hC hg hb
        have h47 : A.eval (.tmp 47) = .string A8 := hg 34 47 (by decide) rfl (by simp [Op.operands]) (by kernel_rfl) rfl
        have h51 : A.eval (.tmp 51) = .string V9 := hg 38 51 (by decide) rfl (by simp [Op.operands]) (by kernel_rfl) rfl
        exact does_value (v := .string A9) (w' := W) (by simp only [execOp, h47, h51]; simp [go_sem, hs9]) ⟨rfl, hC, Below.refl _ _⟩
      · intro A W hC hg hb
        have h52 : A.eval (.tmp 52) = .string A9 := hg 39 52 (by decide) rfl (by simp [Op.operands]) (by kernel_rfl) rfl
        exact does_value (v := .string A9) (w' := W) (by simp only [execOp, h52]; simp [go_sem]) ⟨rfl, hC, Below.refl _ _⟩
    · intro vs W' hC hg
      have hok := hg 40 (by decide) (fun k => rfl)
      change vs 40 = _ at hok
      clear hg
      have BL := hid (below_via B2.out hC)
      have XL := hid (X2.out.on hC X2.out.lt)
      change Exit.then _ _ _ (laidBy _ vs _ 41 _) W'
      simp only [laidBy, if_true, dstAt, List.getElem?_toArray, List.getElem?_cons_succ, List.getElem?_cons_zero, Option.bind_some]
      simp only [Act.put, List.setIfInBounds_toArray, List.set_cons_succ, List.set_cons_zero]
      rw [hok, HT.out]
      clear hok hC hs3 hs4 hs5 hs6 hs7 hs8 hs9 hwr0 hwr1 hwr2 D3 D4 D5 D6 D7 D8 D9 X2 B2 y9 hcv HT
      have HT2 : Hid (msgText ⟨(n0 : Int), (n1 : Int), (n2 : Int), (n3 : Int), (n4 : Int), (n5 : Int), (n6 : Int), up, es, zs, dt, la⟩ = ⟨((headL ⟨(n0 : Int), (n1 : Int), (n2 : Int), (n3 : Int), (n4 : Int), (n5 : Int), (n6 : Int), up, es, zs, dt, la⟩) ++ es.flatMap sentL ++ shortL (confB zs) ++ shortL dt).toArray⟩) := rfl
      obtain ⟨L0, hL⟩ : ∃ L, headL ⟨(n0 : Int), (n1 : Int), (n2 : Int), (n3 : Int), (n4 : Int), (n5 : Int), (n6 : Int), up, es, zs, dt, la⟩ = L := ⟨_, rfl⟩
      rw [hL] at HT2 hL0 ⊢
      clear hL
      have c8 := XL.out.cell (j := 8) rfl
      go_wp2
      go_loopg [4, 5, 6, 7] es.length (fun g y i _ _ wr => ∃ (k : Nat), k + g = es.length ∧ i = .int .i64 k ∧ y = .string ⟨(L0 ++ (es.take k).flatMap sentL).toArray⟩ ∧ Hid (Below w.heap.size w wr) ∧ Hid (BlockIs wr w.heap.size 39 [.int .i64 (n0 : Int), .int .i64 (n1 : Int), .int .i64 (n2 : Int), .int .i64 (n3 : Int), .int .i64 (n4 : Int), .int .i64 (n5 : Int), .int .i64 (n6 : Int), .bool up, .slice ao es.length ac, .slice bo zs.length bc, .string dt, .bool la]))
      case atStart => exact ⟨0, by omega, rfl, by rw [List.take_zero, List.flatMap_nil, List.append_nil], BL, XL⟩
      case round =>
        obtain ⟨k, hkg, rfl, rfl, BR, XR⟩ := hrel
        clear BL XL c8
        have c8 := XR.out.cell (j := 8) rfl
        cases gk with
        | zero =>
          have hlt : ¬ (k : Int) < (es.length : Int) := by omega
          have hLL : (L0 ++ es.flatMap sentL).length ≤ 700 := by have := hL0.out; have := HSUM.out; rw [List.length_append]; omega
          rw [List.take_of_length_le (by omega : es.length ≤ k)]
          obtain ⟨L1, hL1⟩ : ∃ L, L0 ++ es.flatMap sentL = L := ⟨_, rfl⟩
          rw [hL1] at HT2 hLL ⊢
          clear hL1
          have c9 := XR.out.cell (j := 9) rfl
          go_wp2_with fail
          refine (specConfText_any bo zs bc (by have := HCF.out.1; omega) _ (HI.out.on BR.out)).mono ?_
          rintro e x1 ⟨rfl, b2⟩
          rw [HCC.out]
          have hcs : (confB zs).size ≤ 4 := by rw [confB_size]; exact HCF.out.1
          have hsl := shortL_len (s := confB zs) (by omega)
          obtain ⟨cz, hcz⟩ : ∃ s, confB zs = s := ⟨_, rfl⟩
          rw [hcz] at hcs hsl HT2 ⊢
          have BR2 := hid (below_via BR.out b2)
          have XR2 := hid (XR.out.on b2 XR.out.lt)
          have c10 := XR2.out.cell (j := 10) rfl
          have hdl := shortL_len (s := dt) (by omega)
          have S1 := hid (fun w => l05Short_any cz (by omega) w)
          have S2 := hid (fun w => l05Short_any dt (by omega) w)
          have t1 := list_text L1 cz
          have t2 := list_text (L1 ++ shortL cz) dt
          have zs1 : (⟨L1.toArray⟩ : ByteArray).size + (shortT cz).size ≤ 1000000 := by rw [list_size, shortT_lenL]; omega
          have zs2 : (⟨(L1 ++ shortL cz).toArray⟩ : ByteArray).size + (shortT dt).size ≤ 1000000 := by rw [list_size, shortT_lenL, List.length_append]; omega
          obtain ⟨T1, hT1⟩ : ∃ T : ByteArray, ⟨L1.toArray⟩ = T := ⟨_, rfl⟩
          obtain ⟨T2, hT2⟩ : ∃ T : ByteArray, ⟨(L1 ++ shortL cz).toArray⟩ = T := ⟨_, rfl⟩
          obtain ⟨T3, hT3⟩ : ∃ T : ByteArray, ⟨(L1 ++ shortL cz ++ shortL dt).toArray⟩ = T := ⟨_, rfl⟩
          obtain ⟨U1, hU1⟩ : ∃ T : ByteArray, shortT cz = T := ⟨_, rfl⟩
          obtain ⟨U2, hU2⟩ : ∃ T : ByteArray, shortT dt = T := ⟨_, rfl⟩
          rw [hT1, hT2, hU1] at t1
          rw [hT2, hT3, hU2] at t2
          rw [hT1, hU1] at zs1
          rw [hT2, hU2] at zs2
          rw [hT3] at HT2
          rw [hU1] at S1
          rw [hU2] at S2
          rw [hT1]
          have hs1 : ∀ w, (Op.stringOp .add T1 U1).run Tryz.prog w = .ok (.string T2) w := fun w => by rw [run_string_add_sum w _ _ (by omega), t1]
          have hs2 : ∀ w, (Op.stringOp .add T2 U2).run Tryz.prog w = .ok (.string T3) w := fun w => by rw [run_string_add_sum w _ _ (by omega), t2]
          clear b2 c8 c9 hcz hT1 hT2 hT3 hU1 hU2 t1 t2 zs1 zs2 hsl hdl hcs BR XR
          go_wp2
          refine wp_region_each (N := 87) (by kernel_rfl) (by kernel_rfl) rfl (by kernel_rfl) (fun W => Below x1.heap.size x1 W) (fun j v _ _ => match j with | 0 => v = .string T1 | 1 => v = .string cz | 2 => v = .string U1 | 3 => v = .string T2 | 4 => v = .pointer (some ⟨w.heap.size, 10, none⟩) | 5 => v = .string dt | 6 => v = .string U2 | 7 => v = .string T3 | 8 => v = .string T3 | 9 => v = .bool true | _ => True) (fun i => i) (fun _ _ => false) (fun _ x y => Below x.heap.size x y) (fun _ => 0) (by kernel_rfl) (fun _ _ => rfl) ?_ (below_drewN (Below.refl _ _) 1) ?_ ?_
          · intro i j v u x y hij hdd hwt hxy hg
            match j, hg with
            | 0, hg => exact hg
            | 1, hg => exact hg
            | 2, hg => exact hg
            | 3, hg => exact hg
            | 4, hg => exact hg
            | 5, hg => exact hg
            | 6, hg => exact hg
            | 7, hg => exact hg
            | 8, hg => exact hg
            | 9, hg => exact hg
            | n + 10, _ => exact trivial
          · refine ⟨?_, ?_, ?_, ?_, ?_, ?_, ?_, ?_, ?_, ?_, trivial⟩
            · intro A W hC hg hb
              have h4 : A.eval (.tmp 4) = .string T1 := hb 4 (base_of (by kernel_rfl))
              exact does_value (v := .string T1) (w' := W) (by simp only [execOp, h4]; simp [go_sem]) ⟨rfl, hC, Below.refl _ _⟩
            · intro A W hC hg hb
              have h8 : A.eval (.tmp 8) = .string cz := hb 8 (base_of (by kernel_rfl))
              exact does_value (v := .string cz) (w' := W) (by simp only [execOp, h8]; simp [go_sem]) ⟨rfl, hC, Below.refl _ _⟩
            · intro A W hC hg hb
              have h80 : A.eval (.tmp 80) = .string cz := hg 1 80 (by decide) rfl (by simp [Op.operands, Call.operands]) (by kernel_rfl) rfl
              simp [go_sem] at h80
              refine does_enter (f := 99) (args := #[.string cz]) (w' := W) (by simp [go_sem, h80]) ?_
              refine (S1.out W).mono ?_
              rintro e w3 ⟨rfl, b3⟩
              exact ⟨_, rfl, rfl, below_via hC b3, b3⟩
            · intro A W hC hg hb
              have h79 : A.eval (.tmp 79) = .string T1 := hg 0 79 (by decide) rfl (by simp [Op.operands]) (by kernel_rfl) rfl
              have h81 : A.eval (.tmp 81) = .string U1 := hg 2 81 (by decide) rfl (by simp [Op.operands]) (by kernel_rfl) rfl
              exact does_value (v := .string T2) (w' := W) (by simp only [execOp, h79, h81]; simp [go_sem, hs1]) ⟨rfl, hC, Below.refl _ _⟩
            · intro A W hC hg hb
              have h1 : A.eval (.tmp 1) = .pointer (some ⟨w.heap.size, 0, none⟩) := hb 1 (base_of (by kernel_rfl))
              exact does_value (v := .pointer (some ⟨w.heap.size, 10, none⟩)) (w' := W) (by simp only [execOp, h1]; simp [go_sem]) ⟨rfl, hC, Below.refl _ _⟩
            · intro A W hC hg hb
              have h83 : A.eval (.tmp 83) = .pointer (some ⟨w.heap.size, 10, none⟩) := hg 4 83 (by decide) rfl (by simp [Op.operands]) (by kernel_rfl) rfl
              have hc := (XR2.out.on hC XR2.out.lt).cell (j := 10) rfl
              exact does_value (v := .string dt) (w' := W) (by simp only [execOp, h83]; simp [go_sem, hc]) ⟨rfl, hC, Below.refl _ _⟩
            · intro A W hC hg hb
              have h84 : A.eval (.tmp 84) = .string dt := hg 5 84 (by decide) rfl (by simp [Op.operands, Call.operands]) (by kernel_rfl) rfl
              simp [go_sem] at h84
              refine does_enter (f := 99) (args := #[.string dt]) (w' := W) (by simp [go_sem, h84]) ?_
              refine (S2.out W).mono ?_
              rintro e w3 ⟨rfl, b3⟩
              exact ⟨_, rfl, rfl, below_via hC b3, b3⟩
            · intro A W hC hg hb
              have h82 : A.eval (.tmp 82) = .string T2 := hg 3 82 (by decide) rfl (by simp [Op.operands]) (by kernel_rfl) rfl
              have h85 : A.eval (.tmp 85) = .string U2 := hg 6 85 (by decide) rfl (by simp [Op.operands]) (by kernel_rfl) rfl
              exact does_value (v := .string T3) (w' := W) (by simp only [execOp, h82, h85]; simp [go_sem, hs2]) ⟨rfl, hC, Below.refl _ _⟩
            · intro A W hC hg hb
              have h86 : A.eval (.tmp 86) = .string T3 := hg 7 86 (by decide) rfl (by simp [Op.operands]) (by kernel_rfl) rfl
              exact does_value (v := .string T3) (w' := W) (by simp only [execOp, h86]; simp [go_sem]) ⟨rfl, hC, Below.refl _ _⟩
            · intro A W hC hg hb
              exact does_value (v := .bool true) (w' := W) (by simp only [execOp]; simp [go_sem]) ⟨rfl, hC, Below.refl _ _⟩
          · intro vs2 W2 hC2 hg2
            have hok := hg2 8 (by decide) (fun k => rfl)
            have hok2 := hg2 9 (by decide) (fun k => rfl)
            change vs2 8 = _ at hok
            change vs2 9 = _ at hok2
            clear hg2
            have BL := hid (below_via BR2.out hC2)
            change Exit.then _ _ _ (laidBy _ vs2 _ 10 _) W2
            simp only [laidBy, if_true, dstAt, List.getElem?_toArray, List.getElem?_cons_succ, List.getElem?_cons_zero, Option.bind_some]
            simp only [Act.put, List.setIfInBounds_toArray, List.set_cons_succ, List.set_cons_zero]
            rw [hok, hok2]
            clear hok hok2 hC2
            go_wp2
            go_ret2
            exact ⟨by rw [HN.out, HT2.out]; rfl, BL.out⟩
        | succ g =>
          have hlt : (k : Int) < (es.length : Int) := by omega
          have h1 : k < es.length := by omega
          have hne : es ≠ [] := by intro e; rw [e] at h1; simp at h1
          obtain ⟨bb, off, rfl, hcc⟩ := HA.out.on BR.out hne
          obtain ⟨x0, x1, x2⟩ := hcc k h1
          have hfk := HEA.out es[k] (List.getElem_mem h1)
          have ST := hid (flag_take es k h1)
          have hsz := HES.out k h1
          have hts : Hid (((es.take k).flatMap sentL).length ≤ 548) := by
            show _ ≤ _
            have := sentL_sum (es.take k) (fun x hx => HEA.out x (List.take_subset k es hx))
            rw [List.length_take] at this
            omega
          have cE' := specEntryText_any 1 es[k] (by omega)
          rw [entryText_yes hfk (by decide)] at cE'
          have hes := entText_size hfk
          have HSL : Hid (sentL es[k] = shortL (entText 1 es[k])) := rfl
          obtain ⟨s, hs⟩ : ∃ s, entText 1 es[k] = s := ⟨_, rfl⟩
          rw [hs] at cE' hes HSL
          have cE := hid cE'
          clear cE' hcc hne hs hfk hsz
          go_wp2_with fail
          refine (cE.out _).mono ?_
          rintro e w7 ⟨rfl, b7⟩
          have B7 := hid (below_via BR.out b7)
          have X7 := hid (XR.out.on b7 XR.out.lt)
          clear b7 cE x0 x1 x2 c8 BR XR
          have hsl := shortL_len (s := s) (by omega)
          have S1 := hid (fun w => l05Short_any s (by omega) w)
          have t1 := list_text (L0 ++ (es.take k).flatMap sentL) s
          have zs1 : (⟨(L0 ++ (es.take k).flatMap sentL).toArray⟩ : ByteArray).size + (shortT s).size ≤ 1000000 := by rw [list_size, shortT_lenL, List.length_append]; have := hL0.out; have := hts.out; omega
          have hN : Hid ((⟨(L0 ++ (es.take k).flatMap sentL ++ shortL s).toArray⟩ : ByteArray) = ⟨(L0 ++ (es.take (k + 1)).flatMap sentL).toArray⟩) := by show _ = _; rw [ST.out, HSL.out, List.append_assoc]
          obtain ⟨T1, hT1⟩ : ∃ T : ByteArray, ⟨(L0 ++ (es.take k).flatMap sentL).toArray⟩ = T := ⟨_, rfl⟩
          obtain ⟨T2, hT2⟩ : ∃ T : ByteArray, ⟨(L0 ++ (es.take k).flatMap sentL ++ shortL s).toArray⟩ = T := ⟨_, rfl⟩
          obtain ⟨U1, hU1⟩ : ∃ T : ByteArray, shortT s = T := ⟨_, rfl⟩
          rw [hT1, hT2, hU1] at t1
          rw [hT1, hU1] at zs1
          rw [hU1] at S1
          rw [hT2] at hN
          rw [hT1]
          have hs1 : ∀ w, (Op.stringOp .add T1 U1).run Tryz.prog w = .ok (.string T2) w := fun w => by rw [run_string_add_sum w _ _ (by omega), t1]
          clear hT1 hT2 hU1 t1 zs1 hsl
          go_wp2_with fail
          refine (S1.out _).mono ?_
          rintro e w8 ⟨rfl, b8⟩
          have B8 := hid (below_via B7.out b8)
          have X8 := hid (X7.out.on b8 X7.out.lt)
          clear b8 S1 B7 X7
          go_wp2
          go_roundg g
          case measure => omega
          case rel => exact ⟨k + 1, by omega, by go_num, by rw [hN.out], B8, X8⟩
end Go.Proofs.YtohmfmajgehadaaGreatDoor
