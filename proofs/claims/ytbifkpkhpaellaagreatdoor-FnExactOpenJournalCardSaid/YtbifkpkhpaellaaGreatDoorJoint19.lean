/-
  The walk of spec.EntryText: what it answers.
  The walk of spec.LogOk: what it answers.
-/
import Derived.Test.YtbifkpkhpaellaaGreatDoorJoint17
import Derived.Test.YtbifkpkhpaellaaGreatDoorJoint14
import Derived.Test.YtbifkpkhpaellaaGreatDoorJoint1
import Derived.Deep.RegionHeld
import Derived.Deep.DrawnRows
import Derived.Test.YtbifkpkhpaellaaGreatDoorRows
import Derived.Deep.QuietTactic
namespace Go.Proofs.YtbifkpkhpaellaaGreatDoor
open Go.RowKit

attribute [local go_sem ↓] Go.wp_at_zero Go.wp_at_succ

/-- a text of one byte, out of a row of one byte -/
theorem byte_text {W : World} {g q : Nat} (hq : q ≤ 255) (h : BlockIs W g 5 [.int .u8 (q : Int)]) : (convert 100 9 (.slice (some ⟨g, 0, none⟩) 1 1)).run Tryz.prog W = .ok (.string ⟨#[UInt8.ofNat q]⟩) W :=
  run_convert_bytes_back _ 100 9 5 ⟨g, 0, none⟩ 1 [UInt8.ofNat q] Tryz.underlying100 Tryz.underlying5 Tryz.underlying9 fun j hj => by
    obtain rfl : j = 0 := by simp at hj; omega
    have e : ((UInt8.ofNat q).toNat : Int) = (q : Int) := by rw [UInt8.toNat_ofNat']; omega
    have := h.cell (j := 0) rfl
    rw [← e] at this
    exact this
theorem byte_new (W : World) (q : Nat) (t : TypeId) : BlockIs (W.alloc (.cells #[.int .u8 (q : Int)] t)) W.heap.size t [.int .u8 (q : Int)] := heap_alloc_new W _
theorem byte_on0 {W W' : World} {q : Nat} {t : TypeId} (h : Below (W.alloc (.cells #[.int .u8 (q : Int)] t)).heap.size (W.alloc (.cells #[.int .u8 (q : Int)] t)) W') : BlockIs W' W.heap.size t [.int .u8 (q : Int)] := (byte_new W q t).on h (byte_new W q t).lt
theorem byte_newd (W : World) (q : Nat) (t : TypeId) : BlockIs (W.alloc (.cells #[.int .u8 (q : Int)] t)).drew W.heap.size t [.int .u8 (q : Int)] := byte_new W q t
theorem byte_ond {W W' : World} {q : Nat} {t : TypeId} (h : Below (W.alloc (.cells #[.int .u8 (q : Int)] t)).drew.heap.size (W.alloc (.cells #[.int .u8 (q : Int)] t)).drew W') : BlockIs W' W.heap.size t [.int .u8 (q : Int)] := (byte_newd W q t).on h (byte_newd W q t).lt
theorem byte_on1 {W W' : World} {g q : Nat} {t : TypeId} (hb : BlockIs W g t [.int .u8 (q : Int)]) (h : Below W.heap.size W W') : BlockIs W' g t [.int .u8 (q : Int)] := hb.on h hb.lt

set_option maxRecDepth 1000000 in
set_option maxHeartbeats 4000000 in
theorem specEntryText_any (i : Int) (d : EntD) (hd : d.data.size ≤ 1048576) (w : World) :
    Calls Tryz.prog 84 #[.int .i64 i, .agg #[.int .i64 d.term, .int .i64 d.kind, .string d.data]] w fun e w' => e = .returned (.tuple #[.string (entryText i d).1, .bool (entryText i d).2]) ∧ Below w.heap.size w w' := by
  have HB := hid (below_more (Below.refl w.heap.size w) (.cells #[.int .i64 d.term, .int .i64 d.kind, .string d.data] 110))
  have hx : BlockIs (w.alloc (.cells #[.int .i64 d.term, .int .i64 d.kind, .string d.data] 110)) w.heap.size 110 [.int .i64 d.term, .int .i64 d.kind, .string d.data] := heap_alloc_new w _
  obtain ⟨W, hW⟩ : ∃ W, w.alloc (.cells #[.int .i64 d.term, .int .i64 d.kind, .string d.data] 110) = W := ⟨_, rfl⟩
  rw [hW] at HB hx
  have HX := hid hx
  have c0 := hx.cell (j := 0) rfl
  have c1 := hx.cell (j := 1) rfl
  have c2 := hx.cell (j := 2) rfl
  have cN' := fun w => l01In_any i 1 1000000 w
  have cE' := specEntryOk_any d hd W
  clear hx
  cases hE : entryOk d with
  | false =>
    have hr := hid (entryText_no (i := i) (d := d) (Or.inl hE))
    rw [hE] at cE'
    have cE := hid cE'
    clear cE' hE cN'
    go_enter Tryz.func84, Tryz.ntmps84
    go_wp2_with (go_at_call 63; refine Calls.mono cE.out ?_; rintro e w2 ⟨rfl, b2⟩)
    go_ret2
    exact ⟨by rw [hr.out]; rfl, below_via HB.out b2⟩
  | true =>
    rw [hE] at cE'
    have cE := hid cE'
    clear cE'
    cases hI : within i 1 1000000 with
    | false =>
      have hr := hid (entryText_no (i := i) (d := d) (Or.inr hI))
      rw [hI] at cN'
      have cN := hid cN'
      clear cN' hI hE
      go_enter Tryz.func84, Tryz.ntmps84
      go_wp2_with (first | (go_at_call 36; refine (cN.out _).mono ?_; rintro e w1 ⟨rfl, hw⟩; rw [hw]; clear hw w1) | (go_at_call 63; refine Calls.mono cE.out ?_; rintro e w2 ⟨rfl, b2⟩))
      go_ret2
      exact ⟨by rw [hr.out]; rfl, below_via HB.out b2⟩
    | true =>
      have hr := entryText_yes hE hI
      have hbd := entryOk_bd hE
      have hib := within_iff.1 hI
      rw [hI] at cN'
      have cN := hid cN'
      clear cN' hE hI
      obtain ⟨tm, kd, dt⟩ := d
      dsimp only at hbd hW HB HX c0 c1 c2 cE hr hd ⊢
      obtain ⟨n, rfl⟩ : ∃ n : Nat, i = n := ⟨i.toNat, by omega⟩
      obtain ⟨t, rfl⟩ : ∃ t : Nat, tm = t := ⟨tm.toNat, by omega⟩
      obtain ⟨q, rfl⟩ : ∃ q : Nat, kd = q := ⟨kd.toNat, by omega⟩
      rw [entText_of] at hr
      have hwq : IntKind.u8.wrap (q : Int) = (q : Int) := by rw [IntKind.wrap_u8]; omega
      have cV' := fun w => l01Var_any n (by omega) w
      have cF' := fun w => l01Var_any t (by omega) w
      have hVs := vb_size n (show n ≤ 1000000 by omega)
      have hFs := vb_size t (show t ≤ 1000000 by omega)
      have hcv' : ∀ (W : World) (g : Nat), BlockIs W g 5 [.int .u8 (q : Int)] → (convert 100 9 (.slice (some ⟨g, 0, none⟩) 1 1)).run Tryz.prog W = .ok (.string ⟨#[UInt8.ofNat q]⟩) W := fun W g h => byte_text (by omega) h
      have hKs : (⟨#[UInt8.ofNat q]⟩ : ByteArray).size = 1 := rfl
      obtain ⟨V, hV⟩ : ∃ V : ByteArray, ⟨(vb n).toArray⟩ = V := ⟨_, rfl⟩
      obtain ⟨F, hF⟩ : ∃ F : ByteArray, ⟨(vb t).toArray⟩ = F := ⟨_, rfl⟩
      obtain ⟨K, hK⟩ : ∃ K : ByteArray, ⟨#[UInt8.ofNat q]⟩ = K := ⟨_, rfl⟩
      rw [hV, hF, hK] at hr
      rw [hV] at cV' hVs
      rw [hF] at cF' hFs
      rw [hK] at hcv' hKs
      have cV := hid cV'
      have cF := hid cF'
      have HCV := hid hcv'
      have hcn : ∀ W : World, (convert 100 9 (.slice (some ⟨W.heap.size, 0, none⟩) 1 1)).run Tryz.prog (W.alloc (.cells #[.int .u8 (q : Int)] 5)) = .ok (.string K) (W.alloc (.cells #[.int .u8 (q : Int)] 5)) := fun W => hcv' _ _ (byte_new W q 5)
      have hcd : ∀ W : World, (convert 100 9 (.slice (some ⟨W.heap.size, 0, none⟩) 1 1)).run Tryz.prog (W.alloc (.cells #[.int .u8 (q : Int)] 5)).drew = .ok (.string K) (W.alloc (.cells #[.int .u8 (q : Int)] 5)).drew := fun W => hcv' _ _ (byte_newd W q 5)
      have e1 : ∃ A1 : ByteArray, (⟨#[69]⟩ : ByteArray) ++ V = A1 ∧ A1.size ≤ 2000002 := ⟨_, rfl, by rw [size_E]; omega⟩
      obtain ⟨A1, q1, z1⟩ := e1
      have e2 : ∃ A2 : ByteArray, A1 ++ F = A2 ∧ A2.size ≤ 4000004 := ⟨_, rfl, by rw [ByteArray.size_append]; omega⟩
      obtain ⟨A2, q2, z2⟩ := e2
      have e3 : ∃ A3 : ByteArray, A2 ++ K = A3 ∧ A3.size ≤ 4000005 := ⟨_, rfl, by rw [ByteArray.size_append]; omega⟩
      obtain ⟨A3, q3, z3⟩ := e3
      obtain ⟨A4, q4⟩ : ∃ A4 : ByteArray, A3 ++ dt = A4 := ⟨_, rfl⟩
      have hs1 : ∀ w, (Op.stringOp .add ⟨#[69]⟩ V).run Tryz.prog w = .ok (.string A1) w := fun w => by rw [run_string_add_sum w _ _ (by rw [show (⟨#[69]⟩ : ByteArray).size = 1 from rfl]; omega), q1]
      have hs2 : ∀ w, (Op.stringOp .add A1 F).run Tryz.prog w = .ok (.string A2) w := fun w => by rw [run_string_add_sum w _ _ (by omega), q2]
      have hs3 : ∀ w, (Op.stringOp .add A2 K).run Tryz.prog w = .ok (.string A3) w := fun w => by rw [run_string_add_sum w _ _ (by omega), q3]
      have hs4 : ∀ w, (Op.stringOp .add A3 dt).run Tryz.prog w = .ok (.string A4) w := fun w => by rw [run_string_add_sum w _ _ (by omega), q4]
      rw [q1, q2, q3, q4] at hr
      have HR := hid hr
      clear q1 q2 q3 q4 z1 z2 z3 hVs hFs hKs
      clear cV' cF' hcv' hV hF hK hr
      go_enter Tryz.func84, Tryz.ntmps84
      go_wp2_with fail
      refine Calls.mono cE.out ?_
      rintro e w2 ⟨rfl, b⟩
      have X2 := hid (HX.out.on b HX.out.lt)
      have B2 := hid (below_via HB.out b)
      have d0 := X2.out.cell (j := 0) rfl
      have d1 := X2.out.cell (j := 1) rfl
      have d2 := X2.out.cell (j := 2) rfl
      clear b cE c0 c1 c2 HX HB hW
      go_wp2_with fail
      refine (cN.out _).mono ?_
      rintro e w1 ⟨rfl, hw⟩
      rw [hw]
      clear hw w1 cN
      have CC : Hid (∀ (m : Nat) (S : ByteArray) (W : World), (∀ W, Calls Tryz.prog 62 #[.int .i64 m] W fun e W' => e = .returned (.string S) ∧ Below W.heap.size W W') → Hid (Below w2.heap.size w2 W) → Calls Tryz.prog 62 #[.int .i64 m] W fun e W' => e = .returned (.string S) ∧ (W'.cell? ⟨w.heap.size, 0, none⟩ = some (.int .i64 (t : Int)) ∧ W'.cell? ⟨w.heap.size, 1, none⟩ = some (.int .i64 (q : Int)) ∧ W'.cell? ⟨w.heap.size, 2, none⟩ = some (.string dt)) ∧ Hid (Below W.heap.size W W') ∧ Hid (Below w2.heap.size w2 W')) := by
        intro m S W hm hW
        refine (hm W).mono ?_
        rintro e W' ⟨rfl, hb⟩
        have hb2 := below_via hW.out hb
        have hX := X2.out.on hb2 X2.out.lt
        exact ⟨rfl, ⟨hX.cell (j := 0) rfl, hX.cell (j := 1) rfl, hX.cell (j := 2) rfl⟩, hb, hb2⟩
      have HGd := hid (show Below w2.heap.size w2 (w2.alloc (.cells #[.int .u8 (q : Int)] 5)).drew from below_drewN (below_more (Below.refl _ _) _) 1)
      have HG0 := hid (show Below w2.heap.size w2 w2.drew from below_drewN (Below.refl _ _) 1)
      go_wp2
      go_region_held (fun w' => w'.cell? ⟨w.heap.size, 0, none⟩ = some (.int .i64 (t : Int)) ∧ w'.cell? ⟨w.heap.size, 1, none⟩ = some (.int .i64 (q : Int)) ∧ w'.cell? ⟨w.heap.size, 2, none⟩ = some (.string dt)) (go_keep)
        (first
          | (go_at_call 62; with_reducible refine Calls.mono (CC.out n V _ cV.out (by first | with_reducible exact HGv | with_reducible exact HG0 | with_reducible exact hid (below_more HGv.out _) | with_reducible exact hid (below_more HG0.out _) | with_reducible exact HGd)) ?_; rintro e wv ⟨rfl, ⟨x0, x1, x2⟩, HBv, HGv⟩; first | (with_reducible have HK1 := hid (byte_on1 HK1.out HBv.out); have hk1 := HCV.out _ _ HK1.out) | (with_reducible have HK1 := hid (byte_on0 HBv.out); have hk1 := HCV.out _ _ HK1.out) | (with_reducible have HK1 := hid (byte_ond HBv.out); have hk1 := HCV.out _ _ HK1.out) | skip)
          | (go_at_call 62; with_reducible refine Calls.mono (CC.out t F _ cF.out (by first | with_reducible exact HGv | with_reducible exact HG0 | with_reducible exact hid (below_more HGv.out _) | with_reducible exact hid (below_more HG0.out _) | with_reducible exact HGd)) ?_; rintro e wv ⟨rfl, ⟨x0, x1, x2⟩, HBv, HGv⟩; first | (with_reducible have HK1 := hid (byte_on1 HK1.out HBv.out); have hk1 := HCV.out _ _ HK1.out) | (with_reducible have HK1 := hid (byte_on0 HBv.out); have hk1 := HCV.out _ _ HK1.out) | (with_reducible have HK1 := hid (byte_ond HBv.out); have hk1 := HCV.out _ _ HK1.out) | skip))
      all_goals
        go_wp2
        go_ret2
        refine ⟨by rw [HR.out]; rfl, ?_⟩
        first | exact below_via B2.out HGv.out | exact below_via B2.out (below_more HGv.out _)
end Go.Proofs.YtbifkpkhpaellaaGreatDoor

namespace Go.Proofs.YtbifkpkhpaellaaGreatDoor
open Go.RowKit

set_option maxRecDepth 1000000 in
set_option maxHeartbeats 1000000 in
theorem specLogOk_any (s t : Int) (ao : Option Addr) (l : List EntD) (cap : Nat) (hl : l.length ≤ 1048576) (hs : ∀ f ∈ l, f.data.size ≤ 1048576) (w : World) (ha : EntsAt w ao l) :
    Calls Tryz.prog 41 #[.agg #[.int .i64 s, .int .i64 t, .slice ao l.length cap]] w fun e w' => e = .returned (.bool (logOk s t l)) ∧ Below w.heap.size w w' := by
  have HA := hid ha
  have HS := hid hs
  have HB := hid (below_more (Below.refl w.heap.size w) (.cells #[.int .i64 s, .int .i64 t, .slice ao l.length cap] 28))
  have hx : BlockIs (w.alloc (.cells #[.int .i64 s, .int .i64 t, .slice ao l.length cap] 28)) w.heap.size 28 [.int .i64 s, .int .i64 t, .slice ao l.length cap] := heap_alloc_new w _
  obtain ⟨W, hW⟩ : ∃ W, w.alloc (.cells #[.int .i64 s, .int .i64 t, .slice ao l.length cap] 28) = W := ⟨_, rfl⟩
  rw [hW] at HB hx
  have HX := hid hx
  have c0 := hx.cell (j := 0) rfl
  have c1 := hx.cell (j := 1) rfl
  have c2 := hx.cell (j := 2) rfl
  have cS' := fun w => l01In_any s 0 1000000 w
  have cT' := fun w => l01In_any t 0 100000 w
  clear hx ha hs
  cases hA : within s 0 1000000 with
  | false =>
    have hr := hid (logOk_start (t := t) (l := l) (by rw [← within_iff, hA]; simp))
    rw [hA] at cS'
    have cS := hid cS'
    clear cS' hA cT'
    go_enter Tryz.func41, Tryz.ntmps41
    go_wp2_with fail
    refine (cS.out _).mono ?_
    rintro e w1 ⟨rfl, hw⟩
    rw [hw]
    clear hw w1
    go_wp2
    go_ret
    exact ⟨by rw [hr.out]; rfl, HB.out⟩
  | true =>
    have hs2 := within_iff.1 hA
    rw [hA] at cS'
    have cS := hid cS'
    clear cS' hA
    cases hA : within t 0 100000 with
    | false =>
      have hr := hid (logOk_term (s := s) (l := l) (by rw [← within_iff, hA]; simp))
      rw [hA] at cT'
      have cT := hid cT'
      clear cT' hA
      go_enter Tryz.func41, Tryz.ntmps41
      go_wp2_with fail
      refine (cS.out _).mono ?_
      rintro e w1 ⟨rfl, hw⟩
      rw [hw]
      clear hw w1
      go_wp2_with fail
      refine (cT.out _).mono ?_
      rintro e w1 ⟨rfl, hw⟩
      rw [hw]
      clear hw w1
      go_wp2
      go_ret
      exact ⟨by rw [hr.out]; rfl, HB.out⟩
    | true =>
      have ht2 := within_iff.1 hA
      rw [hA] at cT'
      have cT := hid cT'
      clear cT' hA
      by_cases h60 : (60 : Int) < (l.length : Int)
      · have hr := hid (logOk_len (s := s) (t := t) (l := l) (by omega))
        go_enter Tryz.func41, Tryz.ntmps41
        go_wp2_with fail
        refine (cS.out _).mono ?_
        rintro e w1 ⟨rfl, hw⟩
        rw [hw]
        clear hw w1
        go_wp2_with fail
        refine (cT.out _).mono ?_
        rintro e w1 ⟨rfl, hw⟩
        rw [hw]
        clear hw w1
        go_wp2
        go_ret
        exact ⟨by rw [hr.out]; rfl, HB.out⟩
      · by_cases hsum : (1000000 : Int) < s + (l.length : Int)
        · have hr := hid (logOk_sum (s := s) (t := t) (l := l) (by omega))
          go_enter Tryz.func41, Tryz.ntmps41
          go_wp2_with fail
          refine (cS.out _).mono ?_
          rintro e w1 ⟨rfl, hw⟩
          rw [hw]
          clear hw w1
          go_wp2_with fail
          refine (cT.out _).mono ?_
          rintro e w1 ⟨rfl, hw⟩
          rw [hw]
          clear hw w1
          go_wp2
          go_ret
          exact ⟨by rw [hr.out]; rfl, HB.out⟩
        · have HOK := hid (fun h => logOk_of (l := l) hs2 ht2 (by omega) (by omega) h)
          have HNO := hid (fun h => logOk_ents (s := s) (t := t) (l := l) h)
          go_enter Tryz.func41, Tryz.ntmps41
          go_wp2_with fail
          refine (cS.out _).mono ?_
          rintro e w1 ⟨rfl, hw⟩
          rw [hw]
          clear hw w1
          go_wp2_with fail
          refine (cT.out _).mono ?_
          rintro e w1 ⟨rfl, hw⟩
          rw [hw]
          clear hw w1
          clear cS cT
          go_wp2
          go_loopg [3, 4] l.length (fun g y i wr => ∃ (k : Nat), k + g = l.length ∧ i = .int .i64 k ∧ y = .int .i64 (lastT t (l.take k)) ∧ Hid (termsOk t (l.take k) = true) ∧ Hid (Below w.heap.size w wr) ∧ Hid (BlockIs wr w.heap.size 28 [.int .i64 s, .int .i64 t, .slice ao l.length cap]))
          case atStart => exact ⟨0, by omega, rfl, rfl, rfl, HB, HX⟩
          case round =>
            obtain ⟨k, hkg, rfl, rfl, RT, BR, XR⟩ := hrel
            clear HB HX c0 c1 c2
            have c2 := XR.out.cell (j := 2) rfl
            cases gk with
            | zero =>
              have hlt : ¬ (k : Int) < (l.length : Int) := by omega
              have hr := hid (HOK.out (by rw [← RT.out, List.take_of_length_le (by omega)]))
              go_wp2
              go_ret
              exact ⟨by rw [hr.out]; rfl, BR.out⟩
            | succ g =>
              have hlt : k < l.length := by omega
              have hlt' : (k : Int) < (l.length : Int) := by omega
              have hne : l ≠ [] := by intro e; rw [e] at hlt; simp at hlt
              obtain ⟨b, off, rfl, hc⟩ := HA.out.on BR.out hne
              obtain ⟨x0, x1, x2⟩ := hc k hlt
              clear hc
              have C' := fun w => specEntryOk_any l[k] (HS.out _ (List.getElem_mem hlt)) w
              have HT := hid (termsOk_take t l k hlt)
              have HL := hid (lastT_take t l k hlt)
              obtain ⟨tm, htm⟩ : ∃ tm, lastT t (l.take k) = tm := ⟨_, rfl⟩
              rw [htm] at HT ⊢
              clear htm
              cases hE : entryOk l[k] with
              | false =>
                have hr := hid (HNO.out (termsOk_not t l (k + 1) (by rw [HT.out, hE]; simp)))
                rw [hE] at C'
                have C := hid C'
                clear C' hE
                go_wp2_with fail
                refine (C.out _).mono ?_
                rintro e w1 ⟨rfl, b1⟩
                have B1 := hid (below_via BR.out b1)
                clear b1 C
                go_wp2
                go_ret
                exact ⟨by rw [hr.out]; rfl, B1.out⟩
              | true =>
                rw [hE] at C'
                have C := hid C'
                clear C'
                by_cases hF : l[k].term < tm
                · have hr := hid (HNO.out (termsOk_not t l (k + 1) (by rw [HT.out, hE]; simp; omega)))
                  clear hE
                  go_wp2_with fail
                  refine (C.out _).mono ?_
                  rintro e w1 ⟨rfl, b1⟩
                  have B1 := hid (below_via BR.out b1)
                  have d2 := (XR.out.on b1 XR.out.lt).cell (j := 2) rfl
                  have y0 := (b1.cell (p := ⟨b, off + k * 3, none⟩) (World.block_lt_of_cell? wr _ x0)).trans x0
                  clear b1 C c2 x0 x1 x2
                  go_wp2
                  go_ret
                  exact ⟨by rw [hr.out]; rfl, B1.out⟩
                · have RT2 : Hid (termsOk t (l.take (k + 1)) = true) := by show _ = _; rw [HT.out, hE, RT.out]; simp; omega
                  clear hE
                  go_wp2_with fail
                  refine (C.out _).mono ?_
                  rintro e w1 ⟨rfl, b1⟩
                  have B1 := hid (below_via BR.out b1)
                  have X1 := hid (XR.out.on b1 XR.out.lt)
                  have d2 := X1.out.cell (j := 2) rfl
                  have y0 := (b1.cell (p := ⟨b, off + k * 3, none⟩) (World.block_lt_of_cell? wr _ x0)).trans x0
                  clear b1 C c2 x0 x1 x2
                  go_wp2
                  go_roundg g
                  case measure => omega
                  case rel => exact ⟨k + 1, by omega, by go_num, by rw [HL.out], RT2, B1, X1⟩
end Go.Proofs.YtbifkpkhpaellaaGreatDoor
