/-
  The walks of impl.frameOf, pairRecord, headFrame, entriesBehind, entryFrames: frames of numbers, and of a log's entries.
  The walk of impl.entriesOk: what it answers.
  The walks of impl.numberOk, headOk.
-/
import Derived.Test.YtihgkocfgjihhaaGreatDoorJoint1
import Derived.Test.YtihgkocfgjihhaaGreatDoorJoint24
import Derived.Test.YtihgkocfgjihhaaGreatDoorJoint11
import Derived.Test.YtihgkocfgjihhaaGreatDoorJoint23
import Derived.Test.YtihgkocfgjihhaaGreatDoorJoint26
import Derived.Laws.Concat
import Derived.Test.YtihgkocfgjihhaaGreatDoorRows
import Derived.Test.YtihgkocfgjihhaaGreatDoorJoint25
import Derived.WalkSmall
import Derived.WalkKit
namespace Go.Proofs.YtihgkocfgjihhaaGreatDoor
open Go.RowKit

set_option maxRecDepth 1000000 in
set_option maxHeartbeats 1000000 in
theorem frameOf_any (T : ByteArray) (h1 : 1 ≤ T.size) (hs : T.size ≤ 9000) (w : World) (ht : Steps w) : Calls Tryz.prog 77 #[.string T] w fun e w' => e = .returned (.string (frm T)) ∧ Below w.heap.size w w' := by
  have C := hid (implFrame_yes T h1 hs w ht)
  clear ht
  go_enter Tryz.func77, Tryz.ntmps77
  go_wp2_with fail
  refine C.out.mono ?_
  rintro e w1 ⟨rfl, b1⟩
  have B1 := hid b1
  clear b1 C
  obtain ⟨F, hF⟩ : ∃ F, frm T = F := ⟨_, rfl⟩
  rw [hF]
  go_wp2
  go_ret
  exact ⟨by rw [hF]; rfl, B1.out⟩

set_option maxRecDepth 1000000 in
set_option maxHeartbeats 1000000 in
theorem pairRecord_any (c : UInt8) (a b : Int) (ha : 0 ≤ a ∧ a ≤ 1000000) (hb : 0 ≤ b ∧ b ≤ 1000000) (w : World) : Calls Tryz.prog 78 #[.string ⟨#[c]⟩, .int .i64 a, .int .i64 b] w fun e w' => e = .returned (.string (rec2 c a b)) ∧ Below w.heap.size w w' := by
  obtain ⟨m, rfl⟩ : ∃ m : Nat, a = m := ⟨a.toNat, by omega⟩
  obtain ⟨k, rfl⟩ : ∃ k : Nat, b = k := ⟨b.toNat, by omega⟩
  have h1 := vb5 m ha.2
  have h2 := vb5 k hb.2
  have cV1' := implVarText_yes m (by omega)
  have cV2' := implVarText_yes k (by omega)
  have hr : rec2 c m k = ⟨#[c]⟩ ++ ⟨(vb m).toArray⟩ ++ ⟨(vb k).toArray⟩ := rfl
  rw [Int.toNat_natCast] at h1 h2
  obtain ⟨V1, e1⟩ : ∃ V : ByteArray, ⟨(vb m).toArray⟩ = V := ⟨_, rfl⟩
  obtain ⟨V2, e2⟩ : ∃ V : ByteArray, ⟨(vb k).toArray⟩ = V := ⟨_, rfl⟩
  rw [e1] at cV1' hr h1
  rw [e2] at cV2' hr h2
  have hc1 : (⟨#[c]⟩ : ByteArray).size = 1 := rfl
  obtain ⟨M, hM⟩ : ∃ M : ByteArray, ⟨#[c]⟩ = M := ⟨_, rfl⟩
  rw [hM] at hr hc1 ⊢
  obtain ⟨A1, q1⟩ : ∃ A : ByteArray, M ++ V1 = A := ⟨_, rfl⟩
  have z1 : A1.size = 1 + V1.size := by rw [← q1, ByteArray.size_append, hc1]
  rw [q1] at hr
  obtain ⟨A2, q2⟩ : ∃ A, rec2 c m k = A := ⟨_, rfl⟩
  rw [q2] at hr ⊢
  have hs1 : ∀ w, (Op.stringOp .add M V1).run Tryz.prog w = .ok (.string A1) w := fun w => by rw [run_string_add_sum w _ _ (by omega), q1]
  have hs2 : ∀ w, (Op.stringOp .add A1 V2).run Tryz.prog w = .ok (.string A2) w := fun w => by rw [run_string_add_sum w _ _ (by omega), hr]
  have cV1 := hid cV1'
  have cV2 := hid cV2'
  clear cV1' cV2' e1 e2 q1 q2 hr ha hb h1 h2 z1 hM hc1
  go_enter Tryz.func78, Tryz.ntmps78
  go_wp2_with fail
  refine (cV1.out _).mono ?_
  rintro e w1 ⟨rfl, b1⟩
  have B1 := hid b1
  clear b1 cV1
  go_wp2_with fail
  refine (cV2.out _).mono ?_
  rintro e w2 ⟨rfl, b2⟩
  have B2 := hid (below_via B1.out b2)
  clear b2 cV2 B1
  go_wp2
  go_ret
  exact ⟨rfl, B2.out⟩

set_option maxRecDepth 1000000 in
set_option maxHeartbeats 1000000 in
theorem headFrame_any (n tm vt s t : Int) (v : Value) (htm : 0 ≤ tm ∧ tm ≤ 1000000) (hvt : 0 ≤ vt ∧ vt ≤ 1000000) (vo : Option Addr) (vl vc : Nat) (hv : v = .slice vo vl vc) (w : World) (ht : Steps w) : Calls Tryz.prog 79 #[jourV n tm vt s t v] w fun e w' => e = .returned (.string (frm (rec2 72 tm vt))) ∧ Below w.heap.size w w' := by
  subst hv
  have HB := hid (below_more (Below.refl w.heap.size w) (.cells #[.int .i64 n, .int .i64 tm, .int .i64 vt, .int .i64 s, .int .i64 t, .slice vo vl vc] 63))
  have HT := hid ht
  have hz := rec2_size 72 htm.2 hvt.2
  clear ht
  go_enter Tryz.func79, Tryz.ntmps79
  go_wp2_with fail
  refine (pairRecord_any 72 tm vt htm hvt _).mono ?_
  rintro e w1 ⟨rfl, b1⟩
  have B1 := hid (below_via HB.out b1)
  clear b1 HB
  obtain ⟨R, hR⟩ : ∃ R, rec2 72 tm vt = R := ⟨_, rfl⟩
  rw [hR] at hz ⊢
  go_wp2_with fail
  refine (frameOf_any R hz.1 (by omega) _ (steps_on HT.out B1.out)).mono ?_
  rintro e w2 ⟨rfl, b2⟩
  have B2 := hid (below_via B1.out b2)
  clear b2 B1
  obtain ⟨F, hF⟩ : ∃ F, frm R = F := ⟨_, rfl⟩
  rw [hF]
  go_wp2
  go_ret
  exact ⟨by rw [hR, hF]; rfl, B2.out⟩

set_option maxRecDepth 1000000 in
set_option maxHeartbeats 1000000 in
theorem entriesBehind_at (s t i : Int) (k : Nat) (ao : Option Addr) (l : List EntD) (cap : Nat) (hik : i - s = (k : Int)) (hk : k ≤ l.length) (hl : l.length ≤ 1048576) (hcap : l.length ≤ cap) (w : World) (ha : EntsAt w ao l) :
    Calls Tryz.prog 128 #[.agg #[.int .i64 s, .int .i64 t, .slice ao l.length cap], .int .i64 i] w fun e w' => ∃ vo, e = .returned (.slice vo (l.drop k).length (l.drop k).length) ∧ (∀ W, EntsAt W ao l → EntsAt W vo (l.drop k)) ∧ Below w.heap.size w w' := by
  have HB := hid (below_more (Below.refl w.heap.size w) (.cells #[.int .i64 s, .int .i64 t, .slice ao l.length cap] 58))
  have hx : BlockIs (w.alloc (.cells #[.int .i64 s, .int .i64 t, .slice ao l.length cap] 58)) w.heap.size 58 [.int .i64 s, .int .i64 t, .slice ao l.length cap] := heap_alloc_new w _
  obtain ⟨W, hW⟩ : ∃ W, w.alloc (.cells #[.int .i64 s, .int .i64 t, .slice ao l.length cap] 58) = W := ⟨_, rfl⟩
  rw [hW] at HB hx
  have c0 := hx.cell (j := 0) rfl
  have c2 := hx.cell (j := 2) rfl
  clear hx
  have hlen : (l.drop k).length = l.length - k := by simp
  rw [hlen]
  by_cases hkl : k = l.length
  · have hnil : l.drop k = [] := List.length_eq_zero_iff.1 (by omega)
    rw [hnil, show l.length - k = 0 by omega]
    clear hnil hlen ha
    go_enter Tryz.func128, Tryz.ntmps128
    go_wp2
    go_ret
    exact ⟨_, rfl, fun W _ h => absurd rfl h, HB.out⟩
  · obtain ⟨b, off, rfl, hc⟩ := ha (by intro e; rw [e] at hkl hk; simp at hk; exact hkl (by simpa using hk))
    have HD : Hid (∀ W, EntsAt W (some ⟨b, off, none⟩) l → EntsAt W (some ⟨b, off + k * 3, none⟩) (l.drop k)) := fun W h => h.drop k
    clear hc hlen
    go_enter Tryz.func128, Tryz.ntmps128
    go_wp2
    go_ret
    exact ⟨_, rfl, HD.out, HB.out⟩

theorem rows_on {x y : World} {base size n : Nat} {t : TypeId} {v : Value} {xs : List Value} (h : x.ownsRow base t size v n xs) (hb : Below x.heap.size x y) : y.ownsRow base t size v n xs := by
  refine ⟨h.1, h.2.imp id ?_⟩
  rintro ⟨g, cap, cur, a, b, c, r⟩
  have hk : BlockIs x g t cur.toList := by unfold BlockIs; rw [c]
  have := hk.on hb hk.lt
  unfold BlockIs at this
  exact ⟨g, cap, cur, a, b, by rw [this], r⟩
theorem built_at {T : TypeId} {B b : Nat} {p : Value} {bs : List Value} {w w' : World} (h : Lib.BuilderAt T 5 B b p bs w) (hb : Below w.heap.size w w') : Lib.BuilderAt T 5 B b p bs w' := by
  obtain ⟨hB, v, hbk, hown, hne⟩ := h
  have hk : BlockIs w b T [p, v] := hbk
  exact ⟨hB, v, hk.on hb hk.lt, rows_on hown hb, hne⟩
theorem built_on {T : TypeId} {B b : Nat} {bs : List Value} {w w' : World} (h : Lib.IsBuilder T 5 B b bs w) (hb : Below w.heap.size w w') : Lib.IsBuilder T 5 B b bs w' :=
  h.imp (fun q => built_at q hb) (fun q => built_at q hb)
theorem built_lt {T : TypeId} {B b : Nat} {bs : List Value} {w : World} (h : Lib.IsBuilder T 5 B b bs w) : b < w.heap.size := h.elim (fun q => q.lt) (fun q => q.lt)

set_option maxRecDepth 1000000 in
set_option maxHeartbeats 2000000 in
theorem entryFrames_any (s t i : Int) (k0 : Nat) (ao : Option Addr) (l : List EntD) (cap : Nat) (hik : i - s = (k0 : Int)) (hk0 : k0 ≤ l.length) (hok : logOk s t l = true) (hcap : l.length ≤ cap) (w : World) (ha : EntsAt w ao l) (ht : Steps w) :
    Calls Tryz.prog 80 #[.agg #[.int .i64 s, .int .i64 t, .slice ao l.length cap], .int .i64 i] w fun e w' => e = .returned (.string (frms (s + 1 + k0) (l.drop k0))) ∧ Below w.heap.size w w' := by
  have hbd := logOk_iff.1 hok
  have HA := hid ha
  have HT := hid ht
  have B0 := hid (below_more (below_more (Below.refl w.heap.size w) (.cells #[.int .i64 s, .int .i64 t, .slice ao l.length cap] 58)) (.cells #[.pointer none, .slice none 0 0] 174))
  have hsz : (w.alloc (.cells #[.int .i64 s, .int .i64 t, .slice ao l.length cap] 58)).heap.size = w.heap.size + 1 := by simp [World.alloc, -World.alloc_eq]
  have O0 : Hid (Lib.IsBuilder 174 5 (w.heap.size + 1) (w.heap.size + 1) (Lib.byteCells []) ((w.alloc (.cells #[.int .i64 s, .int .i64 t, .slice ao l.length cap] 58)).alloc (.cells #[.pointer none, .slice none 0 0] 174))) := by
    have hk := heap_alloc_new (w.alloc (.cells #[.int .i64 s, .int .i64 t, .slice ao l.length cap] 58)) (.cells #[.pointer none, .slice none 0 0] 174)
    rw [hsz] at hk
    exact Or.inl ⟨Nat.le_refl _, .slice none 0 0, hk, ⟨rfl, Or.inl ⟨rfl, rfl⟩⟩, by simp [Value.ownBlock]⟩
  clear ha ht hok hsz
  go_enter Tryz.func80, Tryz.ntmps80
  go_wp2_with fail
  refine Calls.mono (entriesBehind_at s t i k0 ao l cap hik hk0 (by omega) hcap _ (HA.out.on B0.out)) ?_
  rintro e w1 ⟨vo, rfl, hvo, b1⟩
  have B1 := hid (below_via B0.out b1)
  have O1 := hid (built_on O0.out b1)
  have HV := hid hvo
  clear b1 B0 O0 hvo
  have hDl : (l.drop k0).length ≤ 60 := by simp; omega
  have hDJ : s + 1 + (k0 : Int) + ((l.drop k0).length : Int) ≤ 1000001 := by simp; omega
  have HDO : Hid (∀ d ∈ l.drop k0, entryOk d = true) := fun d hd => termsOk_mem hbd.2.2.2.2 d (List.mem_of_mem_drop hd)
  obtain ⟨D, hD⟩ : ∃ D, l.drop k0 = D := ⟨_, rfl⟩
  obtain ⟨J, hJ⟩ : ∃ J, s + 1 + (k0 : Int) = J := ⟨_, rfl⟩
  have hiJ : i + 1 = J := by omega
  have hJ0 : 1 ≤ J := by omega
  rw [hJ] at hDJ
  rw [hD] at HV HDO hDl hDJ ⊢
  have HJ := hid hJ
  have HD := hid hD
  clear hD hJ hbd hik
  go_wp2
  go_loopw [6, 7, 8, 9, 14] (fun _ _ _ _ y wr => ∃ (k : Nat) (acc : List UInt8), k ≤ D.length ∧ y = .int .i64 k ∧ Hid (acc = (frms J (D.take k)).data.toList) ∧ Hid (Below w.heap.size w wr) ∧ Hid (Lib.IsBuilder 174 5 (w.heap.size + 1) (w.heap.size + 1) (Lib.byteCells acc) wr)) (fun _ _ _ _ y _ => D.length + 1 - (intOf y).toNat)
  case atStart => exact ⟨0, [], by omega, rfl, (show _ = _ by simp [frms]), B1, O1⟩
  case round =>
    clear B1 O1
    obtain ⟨k, acc, hk, rfl, HAC, BR, HO⟩ := hrel
    by_cases hlt : k < D.length
    · have hlt' : (k : Int) < (D.length : Int) := by omega
      obtain ⟨gb, off, hao, hc⟩ := HV.out wr (HA.out.on BR.out) (by intro e; rw [e] at hlt; simp at hlt)
      obtain ⟨e0, e1, e2⟩ := hc k hlt
      obtain ⟨d, hd⟩ : ∃ d, D[k] = d := ⟨_, rfl⟩
      obtain ⟨I, hI⟩ : ∃ I, J + (k : Int) = I := ⟨_, rfl⟩
      have hdo : entryOk d = true := by rw [← hd]; exact HDO.out _ (List.getElem_mem hlt)
      have hTs := entText_size (i := I) (d := d) (by omega) hdo
      have hTy := entryText_yes (i := I) hdo (within_iff.2 (by omega))
      rw [hd] at e0 e1 e2
      have HAN : Hid ((frms J (D.take (k + 1))).data.toList = acc ++ (frm (entText I d)).data.toList) := (show _ = _ by
        rw [frms_take J D k hlt, ByteArray.data_append, Array.toList_append, ← HAC.out, hd, hI])
      have hacl : acc.length ≤ 9000 := by
        have h9 := frms_len (L := D.take k) (fun e he => HDO.out e (List.mem_of_mem_take he)) J (by simp; omega)
        have h8 : (D.take k).length ≤ 60 := by simp; omega
        rw [HAC.out]
        simp
        omega
      have CE' := fun W => implEntryText_any I d W
      rw [hTy] at CE'
      obtain ⟨T, hT⟩ : ∃ T, entText I d = T := ⟨_, rfl⟩
      rw [hT] at hTs CE' HAN
      have CE := hid CE'
      have hIi : i + 1 + (k : Int) = I := by omega
      have hw1 : wrap64 (i + 1) = i + 1 := IntWalk.wrap64_in _ (by omega)
      have hw2 : wrap64 (i + 1 + (k : Int)) = I := (IntWalk.wrap64_in _ (by omega)).trans hIi
      subst hao
      have ba := below_more (Below.refl wr.heap.size wr) (.cells #[.int .i64 d.term, .int .i64 d.kind, .string d.data] 160)
      have B2 := hid (below_via BR.out ba)
      have O2 := hid (built_on HO.out ba)
      clear hc CE' hTy hdo hd hT HAC ba BR HO
      go_wp2_with fail
      refine (CE.out _).mono ?_
      rintro e w2 ⟨rfl, b2⟩
      have B3 := hid (below_via B2.out b2)
      have O3 := hid (built_on O2.out b2)
      clear b2 B2 O2 CE e0 e1 e2
      go_wp2_with fail
      refine (frameOf_any T hTs.1 (by omega) _ (steps_on HT.out B3.out)).mono ?_
      rintro e w3 ⟨rfl, b3⟩
      have B4 := hid (below_via B3.out b3)
      have O4 := hid (built_on O3.out b3)
      have hFs := frm_len (t := T) (by omega)
      clear b3 B3 O3
      obtain ⟨F, hF⟩ : ∃ F, frm T = F := ⟨_, rfl⟩
      rw [hF] at HAN hFs ⊢
      go_wp2_with fail
      refine (writeString_any (w.heap.size + 1) (w.heap.size + 1) (Lib.byteCells acc) F _ O4.out (by rw [Lib.byteCells_length]; omega) (by have := built_lt O4.out; omega)).mono ?_
      rintro e w4 ⟨rfl, h4, b4⟩
      have B5 := hid (B4.out.trans (b4.mono (by omega)))
      have O5 : Hid (Lib.IsBuilder 174 5 (w.heap.size + 1) (w.heap.size + 1) (Lib.byteCells (acc ++ F.data.toList)) w4) := Or.inr (by
        rw [show Lib.byteCells (acc ++ F.data.toList) = Lib.byteCells acc ++ Lib.strCells F by simp [Lib.byteCells, Lib.strCells]]
        exact h4)
      clear h4 b4 B4 O4 hF
      go_wp2
      go_roundw
      case rel => exact ⟨k + 1, acc ++ F.data.toList, by omega, by go_num, HAN.out.symm, B5, O5⟩
      case measure => simp [intOf]; omega
    · have hge : ¬ (k : Int) < (D.length : Int) := by omega
      have hfin : Hid ((⟨acc.toArray⟩ : ByteArray) = frms J D) := (show _ = _ by
        rw [HAC.out, List.take_of_length_le (by omega)])
      have C := hid (Tryz.Builder_String_any (w.heap.size + 1) (w.heap.size + 1) acc wr HO.out (by have := built_lt HO.out; omega))
      clear HAC HO
      go_wp2_with fail
      refine C.out.mono ?_
      rintro e w5 ⟨rfl, b5⟩
      have B5 := hid (BR.out.trans (b5.mono (by omega)))
      clear C b5 BR
      go_wp2
      go_ret
      exact ⟨by rw [HJ.out, HD.out, hfin.out]; rfl, B5.out⟩
end Go.Proofs.YtihgkocfgjihhaaGreatDoor

namespace Go.Proofs.YtihgkocfgjihhaaGreatDoor
open Go.RowKit

set_option maxRecDepth 1000000 in
set_option maxHeartbeats 1000000 in
theorem entriesOk_any (t : Int) (ao : Option Addr) (l : List EntD) (cap : Nat) (hl : l.length ≤ 1048576) (w : World) (ha : EntsAt w ao l) :
    Calls Tryz.prog 165 #[.slice ao l.length cap, .int .i64 t] w fun e w' => e = .returned (.bool (termsOk t l)) ∧ Below w.heap.size w w' := by
  have HA := hid ha
  have HB : Hid (Below w.heap.size w w) := Below.refl w.heap.size w
  clear ha
  go_enter Tryz.func165, Tryz.ntmps165
  go_wp2
  go_loopg [1, 9] l.length (fun g y i wr => ∃ (k : Nat), k + g = l.length ∧ i = .int .i64 k ∧ y = .int .i64 (lastT t (l.take k)) ∧ Hid (termsOk t (l.take k) = true) ∧ Hid (Below w.heap.size w wr))
  case atStart => exact ⟨0, by omega, rfl, rfl, rfl, HB⟩
  case round =>
    obtain ⟨k, hkg, rfl, rfl, RT, BR⟩ := hrel
    clear HB
    cases gk with
    | zero =>
      have hlt : ¬ (k : Int) < (l.length : Int) := by omega
      have hr : Hid (termsOk t l = true) := by
        have := RT.out
        rw [List.take_of_length_le (by omega)] at this
        exact this
      go_wp2
      go_ret
      exact ⟨by rw [hr.out]; rfl, BR.out⟩
    | succ g =>
      have hlt : k < l.length := by omega
      have hlt' : (k : Int) < (l.length : Int) := by omega
      have hne : l ≠ [] := by intro e; rw [e] at hlt; simp at hlt
      obtain ⟨b, off, rfl, hc⟩ := HA.out.on BR.out hne
      obtain ⟨x0, x1, x2⟩ := hc k hlt
      clear hc
      have C' := fun w => implEntryOk_all l[k] w
      have HT := hid (termsOk_take t l k hlt)
      have HL := hid (lastT_take t l k hlt)
      have HBX := hid (below_more (Below.refl wr.heap.size wr) (.cells #[.int .i64 l[k].term, .int .i64 l[k].kind, .string l[k].data] 160))
      have hx : BlockIs (wr.alloc (.cells #[.int .i64 l[k].term, .int .i64 l[k].kind, .string l[k].data] 160)) wr.heap.size 160 [.int .i64 l[k].term, .int .i64 l[k].kind, .string l[k].data] := heap_alloc_new wr _
      have HXX := hid hx
      clear hx
      obtain ⟨tm, htm⟩ : ∃ tm, lastT t (l.take k) = tm := ⟨_, rfl⟩
      rw [htm] at HT ⊢
      clear htm
      cases hE : entryOk l[k] with
      | false =>
        have hr := hid (termsOk_not t l (k + 1) (by rw [HT.out, hE]; simp))
        rw [hE] at C'
        have C := hid C'
        clear C' hE
        go_wp2_with fail
        refine (C.out _).mono ?_
        rintro e w1 ⟨rfl, b1⟩
        have B1 := hid (below_via BR.out (below_via HBX.out b1))
        clear b1 C
        go_wp2
        go_ret
        exact ⟨by rw [hr.out]; rfl, B1.out⟩
      | true =>
        rw [hE] at C'
        have C := hid C'
        clear C'
        by_cases hF : l[k].term < tm
        · have hr := hid (termsOk_not t l (k + 1) (by rw [HT.out, hE]; simp; omega))
          clear hE
          go_wp2_with fail
          refine (C.out _).mono ?_
          rintro e w1 ⟨rfl, b1⟩
          have B1 := hid (below_via BR.out (below_via HBX.out b1))
          have y0 := (HXX.out.on b1 HXX.out.lt).cell (j := 0) rfl
          clear b1 C x0 x1 x2
          go_wp2
          go_ret
          exact ⟨by rw [hr.out]; rfl, B1.out⟩
        · have RT2 : Hid (termsOk t (l.take (k + 1)) = true) := by show _ = _; rw [HT.out, hE, RT.out]; simp; omega
          clear hE
          go_wp2_with fail
          refine (C.out _).mono ?_
          rintro e w1 ⟨rfl, b1⟩
          have B1 := hid (below_via BR.out (below_via HBX.out b1))
          have y0 := (HXX.out.on b1 HXX.out.lt).cell (j := 0) rfl
          clear b1 C x0 x1 x2
          go_wp2
          go_roundg g
          case measure => omega
          case rel => exact ⟨k + 1, by omega, by go_num, by rw [HL.out], RT2, B1⟩
end Go.Proofs.YtihgkocfgjihhaaGreatDoor

namespace Go.Proofs.YtihgkocfgjihhaaGreatDoor
open Go.RowKit

set_option maxRecDepth 1000000 in
theorem numberOk_any (n : Int) (w : World) : Calls Tryz.prog 81 #[.int .i64 n] w fun e w' => e = .returned (.bool (within n 0 999)) ∧ w' = w := by
  by_cases h1 : 0 ≤ n
  · by_cases h2 : n ≤ 999
    · have hq : within n 0 999 = true := within_iff.2 ⟨h1, h2⟩
      have HQ := hid hq
      clear hq
      go_enter Tryz.func81, Tryz.ntmps81
      go_wp2
      go_ret
      exact ⟨by rw [HQ.out]; simp, rfl⟩
    · have HQ : Hid (within n 0 999 = false) := (show _ = _ by simp [within]; omega)
      go_enter Tryz.func81, Tryz.ntmps81
      go_wp2
      go_ret
      exact ⟨by rw [HQ.out]; simp, rfl⟩
  · have HQ : Hid (within n 0 999 = false) := (show _ = _ by simp [within]; omega)
    go_enter Tryz.func81, Tryz.ntmps81
    go_wp2
    go_ret
    exact ⟨by rw [HQ.out]; rfl, rfl⟩
set_option maxRecDepth 1000000 in
theorem headOk_any (tm vt : Int) (w : World) : Calls Tryz.prog 125 #[.int .i64 tm, .int .i64 vt] w fun e w' => e = .returned (.bool (within tm 0 100000 && within vt 0 4)) ∧ w' = w := by
  by_cases h1 : 0 ≤ tm
  · by_cases h2 : tm ≤ 100000
    · by_cases h3 : 0 ≤ vt
      · have HQ : Hid ((within tm 0 100000 && within vt 0 4) = decide (vt ≤ 4)) := (show _ = _ by simp [within, h1, h2, h3])
        go_enter Tryz.func125, Tryz.ntmps125
        go_wp2
        go_ret
        exact ⟨by rw [HQ.out]; rfl, rfl⟩
      · have HQ : Hid ((within tm 0 100000 && within vt 0 4) = false) := (show _ = _ by simp [within]; omega)
        go_enter Tryz.func125, Tryz.ntmps125
        go_wp2
        go_ret
        exact ⟨by rw [HQ.out]; rfl, rfl⟩
    · have HQ : Hid ((within tm 0 100000 && within vt 0 4) = false) := (show _ = _ by simp [within]; omega)
      go_enter Tryz.func125, Tryz.ntmps125
      go_wp2
      go_ret
      exact ⟨by rw [HQ.out]; rfl, rfl⟩
  · have HQ : Hid ((within tm 0 100000 && within vt 0 4) = false) := (show _ = _ by simp [within]; omega)
    go_enter Tryz.func125, Tryz.ntmps125
    go_wp2
    go_ret
    exact ⟨by rw [HQ.out]; rfl, rfl⟩
end Go.Proofs.YtihgkocfgjihhaaGreatDoor
