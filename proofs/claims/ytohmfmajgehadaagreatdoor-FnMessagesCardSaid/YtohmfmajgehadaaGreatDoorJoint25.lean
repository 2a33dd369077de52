/-
  The walks of spec.DrawEncode and spec.DrawDecode: some message of few entries, some text.
-/
import Derived.Test.YtohmfmajgehadaaGreatDoorJoint18
import Derived.Test.YtohmfmajgehadaaGreatDoorJoint15
import Derived.Test.YtohmfmajgehadaaGreatDoorJoint19
import Derived.Test.YtohmfmajgehadaaGreatDoorJoint20
import Derived.Test.YtohmfmajgehadaaGreatDoorJoint24
namespace Go.Proofs.YtohmfmajgehadaaGreatDoor
open Go.RowKit Go.Sort

theorem below_curM {w w1 w2 : World} {C : Nat} (hb : Below w.heap.size w w1) (hg : w1.grownBy w2 (some C)) (h : w.heap.size ≤ C) : Below w.heap.size w w2 :=
  hb.trans ⟨hg.os, hg.tape, hg.output, hg.size, fun k hk' => hg.block k (by have := hb.size; omega) (by intro e; simp at e; omega)⟩
theorem BlockIs.curM {w w' : World} {b C : Nat} {t : TypeId} {cs : List Value} (h : BlockIs w b t cs) (hg : w.grownBy w' (some C)) (hb : b ≠ C) : BlockIs w' b t cs := by
  unfold BlockIs
  rw [hg.block b h.lt (by simp; omega)]
  exact h
theorem few_small {d : MsgD} (h : d.ents.length ≤ 5 ∧ (∀ f ∈ d.ents, f.data.size ≤ 200) ∧ d.conf.length ≤ 6 ∧ d.data.size ≤ 100) : d.Small := ⟨by omega, fun f hf => by have := h.2.1 f hf; omega, by omega, by omega⟩
def MsgTextDrew (w : World) (e : Ending) (w' : World) : Prop := ∃ (d : MsgD) (va : Option Addr) (vc : Nat) (vb : Option Addr) (vd : Nat), e = .returned (.agg #[.int .i64 d.kind, .int .i64 d.src, .int .i64 d.dst, .int .i64 d.term, .int .i64 d.index, .int .i64 d.logTerm, .int .i64 d.commit, .bool d.ok, .slice va d.ents.length vc, .slice vb d.conf.length vd, .string d.data, .bool d.last]) ∧ d.Small ∧ MRows w' w.heap.size va vc vb vd d ∧ Below w.heap.size w w'

set_option maxRecDepth 1000000 in
set_option maxHeartbeats 2000000 in
theorem drawEncode_any (ao : Option Addr) (len cap : Nat) (hlen : len ≤ 1048576) (hcap : len ≤ cap) (w : World) (hr : Bytes w ao len) :
    Calls Tryz.prog 12 #[.slice ao len cap] w fun e w' => MsgTextDrew w e w' := by
  have be := below_more (Below.refl w.heap.size w) (.cells #[.int .i64 0, .int .i64 0, .int .i64 0, .int .i64 0, .int .i64 0, .int .i64 0, .int .i64 0, .bool false, .slice none 0 0, .slice none 0 0, .string ⟨#[]⟩, .bool false] 39)
  have HBY := hid (bytes_on hr be)
  have x1 : BlockIs (w.alloc (.cells #[.int .i64 0, .int .i64 0, .int .i64 0, .int .i64 0, .int .i64 0, .int .i64 0, .int .i64 0, .bool false, .slice none 0 0, .slice none 0 0, .string ⟨#[]⟩, .bool false] 39)) w.heap.size 39 [.int .i64 0, .int .i64 0, .int .i64 0, .int .i64 0, .int .i64 0, .int .i64 0, .int .i64 0, .bool false, .slice none 0 0, .slice none 0 0, .string ⟨#[]⟩, .bool false] := heap_alloc_new w _
  clear hr
  obtain ⟨W0, hW0⟩ : ∃ W, w.alloc (.cells #[.int .i64 0, .int .i64 0, .int .i64 0, .int .i64 0, .int .i64 0, .int .i64 0, .int .i64 0, .bool false, .slice none 0 0, .slice none 0 0, .string ⟨#[]⟩, .bool false] 39) = W := ⟨_, rfl⟩
  rw [hW0] at be x1 HBY
  have hlt := x1.lt
  have B0 := hid be
  have R0 := hid x1
  clear be x1
  go_enter Tryz.func12, Tryz.ntmps12
  go_wp2_with fail
  refine (l01New_any ao len cap hlen hcap _ HBY.out).mono ?_
  rintro e w1 ⟨rfl, k1, b1⟩
  obtain ⟨C, hC⟩ : ∃ C, W0.heap.size = C := ⟨_, rfl⟩
  rw [hC] at k1 ⊢
  have hC2 : w.heap.size < C := by omega
  have K1 := hid k1
  have B1 := hid (below_via B0.out b1)
  have R1 := hid (R0.out.on b1 R0.out.lt)
  clear k1 b1 B0 R0 HBY hW0 hC hlt
  go_wp2_with fail
  refine Calls.mono (l17Any_any C _ K1.out) ?_
  rintro e w2 ⟨d, va, vb, vc, vd, rfl, hfew, hE, hF, k2, q2⟩
  have hsm := few_small hfew
  have hw1 : w.heap.size ≤ w1.heap.size := B1.out.size
  have B2 := hid (below_curM B1.out q2 (by omega))
  have R2 := R1.out.curM q2 (by omega)
  have E2 := row_down hE hw1
  have F2 := row_down hF hw1
  clear k2 q2 hE hF B1 R1 K1 hfew
  obtain ⟨kd, sr, ds, tm, ix, lt, cm, ok, L, zs, T, la⟩ := d
  dsimp only at hsm E2 F2 ⊢
  have HSM := hid hsm
  clear hsm
  have z0 := R2.cell (j := 0) rfl
  have z1 := R2.cell (j := 1) rfl
  have z2 := R2.cell (j := 2) rfl
  have z3 := R2.cell (j := 3) rfl
  have z4 := R2.cell (j := 4) rfl
  have z5 := R2.cell (j := 5) rfl
  have z6 := R2.cell (j := 6) rfl
  have z7 := R2.cell (j := 7) rfl
  have z8 := R2.cell (j := 8) rfl
  have z9 := R2.cell (j := 9) rfl
  have z10 := R2.cell (j := 10) rfl
  have z11 := R2.cell (j := 11) rfl
  have f0 := R2.thaw 0
  have f1 := R2.thaw 1
  have f2 := R2.thaw 2
  have f3 := R2.thaw 3
  have f4 := R2.thaw 4
  have f5 := R2.thaw 5
  have f6 := R2.thaw 6
  have f7 := R2.thaw 7
  have f8 := R2.thaw 8
  have f9 := R2.thaw 9
  have f10 := R2.thaw 10
  have f11 := R2.thaw 11
  have BL := hid ((((((((((((B2.out.setCell (p := ⟨w.heap.size, 0, none⟩) (Nat.le_refl _) (.int .i64 kd)).setCell (p := ⟨w.heap.size, 1, none⟩) (Nat.le_refl _) (.int .i64 sr)).setCell (p := ⟨w.heap.size, 2, none⟩) (Nat.le_refl _) (.int .i64 ds)).setCell (p := ⟨w.heap.size, 3, none⟩) (Nat.le_refl _) (.int .i64 tm)).setCell (p := ⟨w.heap.size, 4, none⟩) (Nat.le_refl _) (.int .i64 ix)).setCell (p := ⟨w.heap.size, 5, none⟩) (Nat.le_refl _) (.int .i64 lt)).setCell (p := ⟨w.heap.size, 6, none⟩) (Nat.le_refl _) (.int .i64 cm)).setCell (p := ⟨w.heap.size, 7, none⟩) (Nat.le_refl _) (.bool ok)).setCell (p := ⟨w.heap.size, 8, none⟩) (Nat.le_refl _) (.slice va L.length vc)).setCell (p := ⟨w.heap.size, 9, none⟩) (Nat.le_refl _) (.slice vb zs.length vd)).setCell (p := ⟨w.heap.size, 10, none⟩) (Nat.le_refl _) (.string T)).setCell (p := ⟨w.heap.size, 11, none⟩) (Nat.le_refl _) (.bool la))
  have EL := hid (row_kindM (j := 11) (v := .bool la) (row_kindM (j := 10) (v := .string T) (row_kindM (j := 9) (v := .slice vb zs.length vd) (row_kindM (j := 8) (v := .slice va L.length vc) (row_kindM (j := 7) (v := .bool ok) (row_kindM (j := 6) (v := .int .i64 cm) (row_kindM (j := 5) (v := .int .i64 lt) (row_kindM (j := 4) (v := .int .i64 ix) (row_kindM (j := 3) (v := .int .i64 tm) (row_kindM (j := 2) (v := .int .i64 ds) (row_kindM (j := 1) (v := .int .i64 sr) (row_kindM (j := 0) (v := .int .i64 kd) E2 R2 (by decide)) (R2.set 0 (.int .i64 kd)) (by decide)) ((R2.set 0 (.int .i64 kd)).set 1 (.int .i64 sr)) (by decide)) (((R2.set 0 (.int .i64 kd)).set 1 (.int .i64 sr)).set 2 (.int .i64 ds)) (by decide)) ((((R2.set 0 (.int .i64 kd)).set 1 (.int .i64 sr)).set 2 (.int .i64 ds)).set 3 (.int .i64 tm)) (by decide)) (((((R2.set 0 (.int .i64 kd)).set 1 (.int .i64 sr)).set 2 (.int .i64 ds)).set 3 (.int .i64 tm)).set 4 (.int .i64 ix)) (by decide)) ((((((R2.set 0 (.int .i64 kd)).set 1 (.int .i64 sr)).set 2 (.int .i64 ds)).set 3 (.int .i64 tm)).set 4 (.int .i64 ix)).set 5 (.int .i64 lt)) (by decide)) (((((((R2.set 0 (.int .i64 kd)).set 1 (.int .i64 sr)).set 2 (.int .i64 ds)).set 3 (.int .i64 tm)).set 4 (.int .i64 ix)).set 5 (.int .i64 lt)).set 6 (.int .i64 cm)) (by decide)) ((((((((R2.set 0 (.int .i64 kd)).set 1 (.int .i64 sr)).set 2 (.int .i64 ds)).set 3 (.int .i64 tm)).set 4 (.int .i64 ix)).set 5 (.int .i64 lt)).set 6 (.int .i64 cm)).set 7 (.bool ok)) (by decide)) (((((((((R2.set 0 (.int .i64 kd)).set 1 (.int .i64 sr)).set 2 (.int .i64 ds)).set 3 (.int .i64 tm)).set 4 (.int .i64 ix)).set 5 (.int .i64 lt)).set 6 (.int .i64 cm)).set 7 (.bool ok)).set 8 (.slice va L.length vc)) (by decide)) ((((((((((R2.set 0 (.int .i64 kd)).set 1 (.int .i64 sr)).set 2 (.int .i64 ds)).set 3 (.int .i64 tm)).set 4 (.int .i64 ix)).set 5 (.int .i64 lt)).set 6 (.int .i64 cm)).set 7 (.bool ok)).set 8 (.slice va L.length vc)).set 9 (.slice vb zs.length vd)) (by decide)) (((((((((((R2.set 0 (.int .i64 kd)).set 1 (.int .i64 sr)).set 2 (.int .i64 ds)).set 3 (.int .i64 tm)).set 4 (.int .i64 ix)).set 5 (.int .i64 lt)).set 6 (.int .i64 cm)).set 7 (.bool ok)).set 8 (.slice va L.length vc)).set 9 (.slice vb zs.length vd)).set 10 (.string T)) (by decide))
  have FL := hid (row_kindM (j := 11) (v := .bool la) (row_kindM (j := 10) (v := .string T) (row_kindM (j := 9) (v := .slice vb zs.length vd) (row_kindM (j := 8) (v := .slice va L.length vc) (row_kindM (j := 7) (v := .bool ok) (row_kindM (j := 6) (v := .int .i64 cm) (row_kindM (j := 5) (v := .int .i64 lt) (row_kindM (j := 4) (v := .int .i64 ix) (row_kindM (j := 3) (v := .int .i64 tm) (row_kindM (j := 2) (v := .int .i64 ds) (row_kindM (j := 1) (v := .int .i64 sr) (row_kindM (j := 0) (v := .int .i64 kd) F2 R2 (by decide)) (R2.set 0 (.int .i64 kd)) (by decide)) ((R2.set 0 (.int .i64 kd)).set 1 (.int .i64 sr)) (by decide)) (((R2.set 0 (.int .i64 kd)).set 1 (.int .i64 sr)).set 2 (.int .i64 ds)) (by decide)) ((((R2.set 0 (.int .i64 kd)).set 1 (.int .i64 sr)).set 2 (.int .i64 ds)).set 3 (.int .i64 tm)) (by decide)) (((((R2.set 0 (.int .i64 kd)).set 1 (.int .i64 sr)).set 2 (.int .i64 ds)).set 3 (.int .i64 tm)).set 4 (.int .i64 ix)) (by decide)) ((((((R2.set 0 (.int .i64 kd)).set 1 (.int .i64 sr)).set 2 (.int .i64 ds)).set 3 (.int .i64 tm)).set 4 (.int .i64 ix)).set 5 (.int .i64 lt)) (by decide)) (((((((R2.set 0 (.int .i64 kd)).set 1 (.int .i64 sr)).set 2 (.int .i64 ds)).set 3 (.int .i64 tm)).set 4 (.int .i64 ix)).set 5 (.int .i64 lt)).set 6 (.int .i64 cm)) (by decide)) ((((((((R2.set 0 (.int .i64 kd)).set 1 (.int .i64 sr)).set 2 (.int .i64 ds)).set 3 (.int .i64 tm)).set 4 (.int .i64 ix)).set 5 (.int .i64 lt)).set 6 (.int .i64 cm)).set 7 (.bool ok)) (by decide)) (((((((((R2.set 0 (.int .i64 kd)).set 1 (.int .i64 sr)).set 2 (.int .i64 ds)).set 3 (.int .i64 tm)).set 4 (.int .i64 ix)).set 5 (.int .i64 lt)).set 6 (.int .i64 cm)).set 7 (.bool ok)).set 8 (.slice va L.length vc)) (by decide)) ((((((((((R2.set 0 (.int .i64 kd)).set 1 (.int .i64 sr)).set 2 (.int .i64 ds)).set 3 (.int .i64 tm)).set 4 (.int .i64 ix)).set 5 (.int .i64 lt)).set 6 (.int .i64 cm)).set 7 (.bool ok)).set 8 (.slice va L.length vc)).set 9 (.slice vb zs.length vd)) (by decide)) (((((((((((R2.set 0 (.int .i64 kd)).set 1 (.int .i64 sr)).set 2 (.int .i64 ds)).set 3 (.int .i64 tm)).set 4 (.int .i64 ix)).set 5 (.int .i64 lt)).set 6 (.int .i64 cm)).set 7 (.bool ok)).set 8 (.slice va L.length vc)).set 9 (.slice vb zs.length vd)).set 10 (.string T)) (by decide))
  clear R2 E2 F2 B2
  go_wp2
  refine bodyPost_ret (v := .agg #[.int .i64 kd, .int .i64 sr, .int .i64 ds, .int .i64 tm, .int .i64 ix, .int .i64 lt, .int .i64 cm, .bool ok, .slice va L.length vc, .slice vb zs.length vd, .string T, .bool la]) (by simp [results, Tryz.results12, go_sem, z0, z1, z2, z3, z4, z5, z6, z7, z8, z9, z10, z11]) rfl ?_
  exact ⟨⟨kd, sr, ds, tm, ix, lt, cm, ok, L, zs, T, la⟩, va, vc, vb, vd, rfl, HSM.out, ⟨EL.out, FL.out⟩, BL.out⟩

set_option maxRecDepth 1000000 in
set_option maxHeartbeats 2000000 in
theorem drawDecode_any (ao : Option Addr) (len cap : Nat) (hlen : len ≤ 1048576) (hcap : len ≤ cap) (w : World) (hr : Bytes w ao len) :
    Calls Tryz.prog 18 #[.slice ao len cap] w fun e w' => ∃ s : ByteArray, e = .returned (.string s) ∧ s.size ≤ 100000 ∧ Below w.heap.size w w' := by
  have HR := hid hr
  clear hr
  go_enter Tryz.func18, Tryz.ntmps18
  go_wp2_with fail
  refine (l01New_any ao len cap hlen hcap _ HR.out).mono ?_
  rintro e w1 ⟨rfl, k1, b1⟩
  have K1 := hid k1
  have B1 := hid b1
  clear k1 b1
  go_wp2_with fail
  refine Calls.mono (l17Any_any w.heap.size _ K1.out) ?_
  rintro e w2 ⟨d, va, vb, vc, vd, rfl, hfew, hE, hF, k2, q2⟩
  have hsm := few_small hfew
  have K2 := hid k2
  have B2 := hid (below_curM B1.out q2 (Nat.le_refl _))
  have M2 : Hid (MRows w2 w1.heap.size va vc vb vd d) := hid ⟨hE, hF⟩
  clear k2 q2 hE hF B1 K1 hfew
  obtain ⟨t, ok, hka, _, ht, _⟩ := msg_told d
  have CT := hid (specEncode_any d va vc vb vd hsm w2 M2.out.ents M2.out.confs)
  rw [hka] at CT
  clear hka hsm
  go_wp2_with fail
  refine Calls.mono CT.out ?_
  rintro e w3 ⟨rfl, b3⟩
  have K3 := hid (K2.out.below b3)
  have B3 := hid (below_via B2.out b3)
  clear b3 K2 B2 M2 CT
  go_wp2_with fail
  refine (l02Spoilt_any w.heap.size t (by omega) _ K3.out).mono ?_
  rintro e w4 ⟨T, rfl, hT, k4, q4⟩
  have B4 := hid (below_curM B3.out q4 (Nat.le_refl _))
  clear k4 q4 K3 B3
  go_wp2
  go_ret
  exact ⟨T, rfl, by omega, B4.out⟩
end Go.Proofs.YtohmfmajgehadaaGreatDoor
