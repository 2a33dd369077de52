/-
  For every slice of bytes, laws.FnSameKeeps returns true: impl and spec tell alike whether two drawn keeps are the same, a keep is the same as itself, and both ways round; two right keeps are the same just where their texts are; nothing that was in memory is written.
-/
import Derived.Test.YtdneebbcacpeoaaRows
import Derived.Test.YtdneebbcacpeoaaJoint31
import Derived.Test.YtdneebbcacpeoaaJoint34
import Derived.Test.YtdneebbcacpeoaaJoint36
import Derived.Test.YtdneebbcacpeoaaJoint37
import Derived.Test.YtdneebbcacpeoaaJoint1
import Derived.Test.YtdneebbcacpeoaaJoint30
import Derived.WalkSmall
import Derived.WalkKit
import Derived.ProofKit
import Derived.OpenShut
import Derived.OpenVars
import Derived.Deep.DeepHandedRow
import Derived.Lib.LaidTab
import Derived.Stop.LaidErr
namespace Go.Proofs.Ytdneebbcacpeoaa.fnSameKeeps
open Go.ChangeShapes Go.WideShapes Go.ChangeAt Go.ChangeMaps Go.RowKit

theorem keep_ans (ls : List SessionD) (li : List ItemD) : ∃ (t : ByteArray) (ok : Bool), keepAns ls li = .tuple #[.string t, .bool ok] ∧ (ok = true → keepOk ls li = true ∧ t = keepText ls li) := by
  unfold keepAns
  split
  · rename_i h
    exact ⟨_, _, rfl, fun _ => ⟨h, rfl⟩⟩
  · exact ⟨_, _, rfl, fun h => by cases h⟩
theorem same_iff {ls ms : List SessionD} {li mi : List ItemD} : keepSame ls ms li mi = true ↔ ls = ms ∧ li = mi := by
  unfold keepSame
  rw [Bool.and_eq_true, alikeBy_iff (fun _ _ => sessEq_iff), alikeBy_iff (fun _ _ => itemEq_iff)]
theorem same_self (ls : List SessionD) (li : List ItemD) : keepSame ls ls li li = true := same_iff.2 ⟨rfl, rfl⟩
theorem same_back (ls ms : List SessionD) (li mi : List ItemD) : keepSame ms ls mi li = keepSame ls ms li mi := by
  rw [Bool.eq_iff_iff, same_iff, same_iff]
  exact ⟨fun h => ⟨h.1.symm, h.2.symm⟩, fun h => ⟨h.1.symm, h.2.symm⟩⟩
theorem same_text {ls ms : List SessionD} {li mi : List ItemD} {ta tb : ByteArray} (h1 : keepOk ls li = true) (h2 : keepOk ms mi = true) (h3 : ta = keepText ls li) (h4 : tb = keepText ms mi) : (ta.toList == tb.toList) = keepSame ls ms li mi := by
  subst h3 h4
  rw [Bool.eq_iff_iff, same_iff, beq_iff_eq, ByteArray.toList_eq, ByteArray.toList_eq]
  constructor
  · intro h
    exact keep_inj h1 h2 (ByteArray.ext (Array.toList_inj.1 h))
  · rintro ⟨rfl, rfl⟩
    rfl

set_option maxRecDepth 1000000 in
set_option maxHeartbeats 4000000 in
theorem walk (ao : Option Addr) (len cap : Nat) (hcap : len ≤ cap) (w : World) (hr : Bytes w ao len) :
    Calls Try.prog 3 #[.slice ao len cap] w fun e w' => e = .returned (.bool true) ∧ Below w.heap.size w w' := by
  have HBY := hid hr
  clear hr
  by_cases hbig : 1048576 < len
  · go_enter Try.func3, Try.ntmps3
    go_wp2
    go_ret
    exact ⟨rfl, Below.refl _ _⟩
  have hlen : len ≤ 1048576 := by omega
  clear hbig
  have B := hid (Below.refl w.heap.size w)
  go_enter Try.func3, Try.ntmps3
  go_wp2_with fail
  refine (big_no ao len cap hlen _).mono ?_
  rintro e w0 ⟨rfl, hw0⟩
  rw [hw0]
  clear hw0 w0
  go_wp2_with fail
  refine Calls.mono (drawSameKeep_any ao len cap hlen hcap _ HBY.out) ?_
  rintro e w1 ⟨va, vc, vb, vd, ls, li, va2, vc2, vb2, vd2, ms, mi, rfl, ⟨h1, h2, h3, h4⟩, qa, qb, b1⟩
  obtain ⟨be, hsz, x1, x2⟩ := two_keepS w1 (.cells #[.slice none 0 0, .slice none 0 0] 27) (.cells #[.slice none 0 0, .slice none 0 0] 27)
  have x1 : BlockIs ((w1.alloc (.cells #[.slice none 0 0, .slice none 0 0] 27)).alloc (.cells #[.slice none 0 0, .slice none 0 0] 27)) w1.heap.size 27 [.slice none 0 0, .slice none 0 0] := x1
  have x2 : BlockIs ((w1.alloc (.cells #[.slice none 0 0, .slice none 0 0] 27)).alloc (.cells #[.slice none 0 0, .slice none 0 0] 27)) (w1.heap.size + 1) 27 [.slice none 0 0, .slice none 0 0] := x2
  have hw1 : w.heap.size ≤ w1.heap.size := b1.size
  have bb := below_via (below_via B.out b1) be
  have qa2 := qa.on be
  have qb2 := qb.on be
  clear be hsz qa qb b1 B
  obtain ⟨W2, hW2⟩ : ∃ W, (w1.alloc (.cells #[.slice none 0 0, .slice none 0 0] 27)).alloc (.cells #[.slice none 0 0, .slice none 0 0] 27) = W := ⟨_, rfl⟩
  rw [hW2] at x1 x2 bb qa2 qb2
  have e0 := x1.cell (j := 0) rfl
  have e1 := x1.cell (j := 1) rfl
  have e2 := x2.cell (j := 0) rfl
  have e3 := x2.cell (j := 1) rfl
  have f0 := x1.thaw 0
  have f1 := x1.thaw 1
  have f2 := x2.thaw 0
  have f3 := x2.thaw 1
  have y1 := ((((x1.set 0 (.slice va ls.length vc)).set 1 (.slice vb li.length vd)).far (b := w1.heap.size + 1) (j := 0) (by omega) (.slice va2 ms.length vc2)).far (b := w1.heap.size + 1) (j := 1) (by omega) (.slice vb2 mi.length vd2))
  have y2 := ((((x2.far (b := w1.heap.size) (j := 0) (by omega) (.slice va ls.length vc)).far (b := w1.heap.size) (j := 1) (by omega) (.slice vb li.length vd)).set 0 (.slice va2 ms.length vc2)).set 1 (.slice vb2 mi.length vd2))
  have XA0 := hid y1
  have XB0 := hid y2
  have QA0 := hid (KRows.far (j := 1) (KRows.far (j := 0) (KRows.far (j := 1) (KRows.far (j := 0) qa2 x1 (by decide) (by decide) (.slice va ls.length vc)) (x1.set 0 _) (by decide) (by decide) (.slice vb li.length vd)) ((x2.far (b := w1.heap.size) (j := 0) (by omega) (.slice va ls.length vc)).far (b := w1.heap.size) (j := 1) (by omega) (.slice vb li.length vd)) (by decide) (by decide) (.slice va2 ms.length vc2)) (((x2.far (b := w1.heap.size) (j := 0) (by omega) (.slice va ls.length vc)).far (b := w1.heap.size) (j := 1) (by omega) (.slice vb li.length vd)).set 0 _) (by decide) (by decide) (.slice vb2 mi.length vd2))
  have QB0 := hid (KRows.far (j := 1) (KRows.far (j := 0) (KRows.far (j := 1) (KRows.far (j := 0) qb2 x1 (by decide) (by decide) (.slice va ls.length vc)) (x1.set 0 _) (by decide) (by decide) (.slice vb li.length vd)) ((x2.far (b := w1.heap.size) (j := 0) (by omega) (.slice va ls.length vc)).far (b := w1.heap.size) (j := 1) (by omega) (.slice vb li.length vd)) (by decide) (by decide) (.slice va2 ms.length vc2)) (((x2.far (b := w1.heap.size) (j := 0) (by omega) (.slice va ls.length vc)).far (b := w1.heap.size) (j := 1) (by omega) (.slice vb li.length vd)).set 0 _) (by decide) (by decide) (.slice vb2 mi.length vd2))
  have B0 := hid ((((bb.setCell (p := ⟨w1.heap.size, 0, none⟩) (by exact hw1) (.slice va ls.length vc)).setCell (p := ⟨w1.heap.size, 1, none⟩) (by exact hw1) (.slice vb li.length vd)).setCell (p := ⟨w1.heap.size + 1, 0, none⟩) (by exact Nat.le_succ_of_le hw1) (.slice va2 ms.length vc2)).setCell (p := ⟨w1.heap.size + 1, 1, none⟩) (by exact Nat.le_succ_of_le hw1) (.slice vb2 mi.length vd2))
  clear y1 y2 x1 x2 qa2 qb2 bb
  obtain ⟨ta, oka, hka, hta⟩ := keep_ans ls li
  obtain ⟨tb, okb, hkb, htb⟩ := keep_ans ms mi
  have HE : Hid (oka = true → okb = true → (ta.toList == tb.toList) = keepSame ls ms li mi) := (show _ → _ → _ from fun p q => same_text (hta p).1 (htb q).1 (hta p).2 (htb q).2)
  clear hta htb
  have hAA := same_self ls li
  have hBA := same_back ls ms li mi
  obtain ⟨S, hS⟩ : ∃ S, keepSame ls ms li mi = S := ⟨_, rfl⟩
  rw [hS] at HE hBA
  have CT := hid (fun W va vb vc vd (hA : SessionsAt W va ls) (hI : ItemsAt W vb li) => specKeepText_any va vb ls li vc vd (by omega) (by omega) W hA hI)
  have CU := hid (fun W va vb vc vd (hA : SessionsAt W va ms) (hI : ItemsAt W vb mi) => specKeepText_any va vb ms mi vc vd (by omega) (by omega) W hA hI)
  rw [hka] at CT
  rw [hkb] at CU
  have CAB := hid (fun W (p1 : SessionsAt W va ls) (p2 : ItemsAt W vb li) (p3 : SessionsAt W va2 ms) (p4 : ItemsAt W vb2 mi) => implSameKeep_any va vb va2 vb2 ls ms li mi vc vd vc2 vd2 (by omega) (by omega) (by omega) (by omega) W p1 p2 p3 p4)
  have CSB := hid (fun W (p1 : SessionsAt W va ls) (p2 : ItemsAt W vb li) (p3 : SessionsAt W va2 ms) (p4 : ItemsAt W vb2 mi) => specSameKeep_any va vb va2 vb2 ls ms li mi vc vd vc2 vd2 (by omega) (by omega) (by omega) (by omega) W p1 p2 p3 p4)
  have CAA := hid (fun W (p1 : SessionsAt W va ls) (p2 : ItemsAt W vb li) => implSameKeep_any va vb va vb ls ls li li vc vd vc vd (by omega) (by omega) (by omega) (by omega) W p1 p2 p1 p2)
  have CBA := hid (fun W (p1 : SessionsAt W va ls) (p2 : ItemsAt W vb li) (p3 : SessionsAt W va2 ms) (p4 : ItemsAt W vb2 mi) => implSameKeep_any va2 vb2 va vb ms ls mi li vc2 vd2 vc vd (by omega) (by omega) (by omega) (by omega) W p3 p4 p1 p2)
  rw [hS] at CAB CSB
  rw [hAA] at CAA
  rw [hBA] at CBA
  clear hS hAA hBA hka hkb h1 h2 h3 h4
  go_wp2_with fail
  refine Calls.mono (CT.out _ _ _ _ _ (sessionR_at QA0.out.1) (itemR_at QA0.out.2)) ?_
  rintro e w2 ⟨rfl, b2⟩
  have a0_0 : True := trivial
  have a1_0 : True := trivial
  have b0_0 : True := trivial
  have b1_0 : True := trivial
  have B1 := hid (below_via B0.out b2)
  have XA1 := hid (XA0.out.on b2 XA0.out.lt)
  have XB1 := hid (XB0.out.on b2 XB0.out.lt)
  have QA1 := hid (QA0.out.on b2)
  have QB1 := hid (QB0.out.on b2)
  clear b2 B0 XA0 XB0 QA0 QB0 a0_0 a1_0 b0_0 b1_0
  have a0_1 := XA1.out.cell (j := 0) rfl
  have a1_1 := XA1.out.cell (j := 1) rfl
  have b0_1 := XB1.out.cell (j := 0) rfl
  have b1_1 := XB1.out.cell (j := 1) rfl
  clear e0 e1 e2 e3 f0 f1 f2 f3 hW2
  go_wp2_with fail
  refine Calls.mono (CU.out _ _ _ _ _ (sessionR_at QB1.out.1) (itemR_at QB1.out.2)) ?_
  rintro e w3 ⟨rfl, b3⟩
  have B2 := hid (below_via B1.out b3)
  have XA2 := hid (XA1.out.on b3 XA1.out.lt)
  have XB2 := hid (XB1.out.on b3 XB1.out.lt)
  have QA2 := hid (QA1.out.on b3)
  have QB2 := hid (QB1.out.on b3)
  clear b3 B1 XA1 XB1 QA1 QB1 a0_1 a1_1 b0_1 b1_1
  have a0_2 := XA2.out.cell (j := 0) rfl
  have a1_2 := XA2.out.cell (j := 1) rfl
  have b0_2 := XB2.out.cell (j := 0) rfl
  have b1_2 := XB2.out.cell (j := 1) rfl
  go_wp2_with fail
  refine Calls.mono (CAB.out _ (sessionR_at QA2.out.1) (itemR_at QA2.out.2) (sessionR_at QB2.out.1) (itemR_at QB2.out.2)) ?_
  rintro e w4 ⟨rfl, b4⟩
  have B3 := hid (below_via B2.out b4)
  have XA3 := hid (XA2.out.on b4 XA2.out.lt)
  have XB3 := hid (XB2.out.on b4 XB2.out.lt)
  have QA3 := hid (QA2.out.on b4)
  have QB3 := hid (QB2.out.on b4)
  clear b4 B2 XA2 XB2 QA2 QB2 a0_2 a1_2 b0_2 b1_2
  have a0_3 := XA3.out.cell (j := 0) rfl
  have a1_3 := XA3.out.cell (j := 1) rfl
  have b0_3 := XB3.out.cell (j := 0) rfl
  have b1_3 := XB3.out.cell (j := 1) rfl
  cases S
  · skip
    go_wp2_with fail
    refine Calls.mono (CSB.out _ (sessionR_at QA3.out.1) (itemR_at QA3.out.2) (sessionR_at QB3.out.1) (itemR_at QB3.out.2)) ?_
    rintro e w5 ⟨rfl, b5⟩
    have B4 := hid (below_via B3.out b5)
    have XA4 := hid (XA3.out.on b5 XA3.out.lt)
    have XB4 := hid (XB3.out.on b5 XB3.out.lt)
    have QA4 := hid (QA3.out.on b5)
    have QB4 := hid (QB3.out.on b5)
    clear b5 B3 XA3 XB3 QA3 QB3 a0_3 a1_3 b0_3 b1_3
    have a0_4 := XA4.out.cell (j := 0) rfl
    have a1_4 := XA4.out.cell (j := 1) rfl
    have b0_4 := XB4.out.cell (j := 0) rfl
    have b1_4 := XB4.out.cell (j := 1) rfl
    go_wp2_with fail
    refine Calls.mono (CAA.out _ (sessionR_at QA4.out.1) (itemR_at QA4.out.2)) ?_
    rintro e w6 ⟨rfl, b6⟩
    have B5 := hid (below_via B4.out b6)
    have XA5 := hid (XA4.out.on b6 XA4.out.lt)
    have XB5 := hid (XB4.out.on b6 XB4.out.lt)
    have QA5 := hid (QA4.out.on b6)
    have QB5 := hid (QB4.out.on b6)
    clear b6 B4 XA4 XB4 QA4 QB4 a0_4 a1_4 b0_4 b1_4
    have a0_5 := XA5.out.cell (j := 0) rfl
    have a1_5 := XA5.out.cell (j := 1) rfl
    have b0_5 := XB5.out.cell (j := 0) rfl
    have b1_5 := XB5.out.cell (j := 1) rfl
    go_wp2_with fail
    refine Calls.mono (CBA.out _ (sessionR_at QA5.out.1) (itemR_at QA5.out.2) (sessionR_at QB5.out.1) (itemR_at QB5.out.2)) ?_
    rintro e w7 ⟨rfl, b7⟩
    have B6 := hid (below_via B5.out b7)
    have XA6 := hid (XA5.out.on b7 XA5.out.lt)
    have XB6 := hid (XB5.out.on b7 XB5.out.lt)
    have QA6 := hid (QA5.out.on b7)
    have QB6 := hid (QB5.out.on b7)
    clear b7 B5 XA5 XB5 QA5 QB5 a0_5 a1_5 b0_5 b1_5
    have a0_6 := XA6.out.cell (j := 0) rfl
    have a1_6 := XA6.out.cell (j := 1) rfl
    have b0_6 := XB6.out.cell (j := 0) rfl
    have b1_6 := XB6.out.cell (j := 1) rfl
    clear CT CU CAB CSB CAA CBA
    cases oka
    · go_wp2
      go_ret
      exact ⟨rfl, B6.out⟩
    cases okb
    · go_wp2
      go_ret
      exact ⟨rfl, B6.out⟩
    have he := HE.out rfl rfl
    go_wp2
    go_ret
    exact ⟨rfl, B6.out⟩
  · skip
    go_wp2_with fail
    refine Calls.mono (CSB.out _ (sessionR_at QA3.out.1) (itemR_at QA3.out.2) (sessionR_at QB3.out.1) (itemR_at QB3.out.2)) ?_
    rintro e w5 ⟨rfl, b5⟩
    have B4 := hid (below_via B3.out b5)
    have XA4 := hid (XA3.out.on b5 XA3.out.lt)
    have XB4 := hid (XB3.out.on b5 XB3.out.lt)
    have QA4 := hid (QA3.out.on b5)
    have QB4 := hid (QB3.out.on b5)
    clear b5 B3 XA3 XB3 QA3 QB3 a0_3 a1_3 b0_3 b1_3
    have a0_4 := XA4.out.cell (j := 0) rfl
    have a1_4 := XA4.out.cell (j := 1) rfl
    have b0_4 := XB4.out.cell (j := 0) rfl
    have b1_4 := XB4.out.cell (j := 1) rfl
    go_wp2_with fail
    refine Calls.mono (CAA.out _ (sessionR_at QA4.out.1) (itemR_at QA4.out.2)) ?_
    rintro e w6 ⟨rfl, b6⟩
    have B5 := hid (below_via B4.out b6)
    have XA5 := hid (XA4.out.on b6 XA4.out.lt)
    have XB5 := hid (XB4.out.on b6 XB4.out.lt)
    have QA5 := hid (QA4.out.on b6)
    have QB5 := hid (QB4.out.on b6)
    clear b6 B4 XA4 XB4 QA4 QB4 a0_4 a1_4 b0_4 b1_4
    have a0_5 := XA5.out.cell (j := 0) rfl
    have a1_5 := XA5.out.cell (j := 1) rfl
    have b0_5 := XB5.out.cell (j := 0) rfl
    have b1_5 := XB5.out.cell (j := 1) rfl
    go_wp2_with fail
    refine Calls.mono (CBA.out _ (sessionR_at QA5.out.1) (itemR_at QA5.out.2) (sessionR_at QB5.out.1) (itemR_at QB5.out.2)) ?_
    rintro e w7 ⟨rfl, b7⟩
    have B6 := hid (below_via B5.out b7)
    have XA6 := hid (XA5.out.on b7 XA5.out.lt)
    have XB6 := hid (XB5.out.on b7 XB5.out.lt)
    have QA6 := hid (QA5.out.on b7)
    have QB6 := hid (QB5.out.on b7)
    clear b7 B5 XA5 XB5 QA5 QB5 a0_5 a1_5 b0_5 b1_5
    have a0_6 := XA6.out.cell (j := 0) rfl
    have a1_6 := XA6.out.cell (j := 1) rfl
    have b0_6 := XB6.out.cell (j := 0) rfl
    have b1_6 := XB6.out.cell (j := 1) rfl
    clear CT CU CAB CSB CAA CBA
    cases oka
    · go_wp2
      go_ret
      exact ⟨rfl, B6.out⟩
    cases okb
    · go_wp2
      go_ret
      exact ⟨rfl, B6.out⟩
    have he := HE.out rfl rfl
    go_wp2
    go_ret
    exact ⟨rfl, B6.out⟩

theorem own : ownKnob Try.prog.godebug = none := by kernel_rfl
theorem laidOut : laidOutB Try.prog = true := by kernel_rfl
theorem rowed : varsRowed Try.prog Rows.fnSameKeepsSpec.vars = true := by kernel_rfl
set_option maxRecDepth 1000000 in
theorem contract (H : Type) (enc : TypeId × Value → H) (W : World) (base : Nat) (args : Array Value) (ds gs : List (DataW H)) (before : List MemPlace)
    (hval : ∀ (j : Nat) t v, Try.f3.params[j]? = some t → args[j]? = some v → Value.okWide Try.prog W .any base t v)
    (hW : DataW.Whole enc Try.prog Try.f3.params.toList Rows.fnSameKeepsSpec.vars false W args.toList ds gs before) (_hL : laidMetH Try.prog Rows.fnSameKeepsRow.laid W) :
    Calls Try.prog 3 args W fun e W' => ∃ v, e = .returned v ∧ Rows.fnSameKeepsSpec.post enc Try.prog Try.f3 false true false false W args v W' := by
  have hW' := hW
  obtain ⟨p, q, hA0, hV0, rfl, hfz, hnd⟩ := hW
  have hV : DataW.TrodVars enc Try.prog W (fun _ => true) Rows.fnSameKeepsSpec.vars gs q := hV0
  have hA : DataW.TrodAll enc Try.prog W 0 (fun _ => true) true Try.f3.params.toList args.toList ds p := hA0
  rw [Try.params3] at hA hval
  obtain ⟨v0, vs0, d0, ds0, p0, q0, hargs0, rfl, rfl, h0, r0⟩ := trodAll_cons hA
  obtain ⟨rfl, rfl, rfl⟩ := trodAll_nil r0
  obtain rfl : args = #[v0] := by cases args; simp_all
  obtain ⟨a0, len0, cap0, rfl⟩ := okWide_slice Try.underlying22 (hval 0 22 v0 rfl rfl)
  have k0 := h0
  have lt0 : ∀ x ∈ p0, x.block < W.heap.size := by obtain ⟨m, hm⟩ := k0; exact DataW.trod_lt m _ _ _ hm
  have hb0 : len0 ≤ cap0 ∧ Bytes W a0 len0 := by
    obtain ⟨fuel, hf⟩ := h0
    rcases open_ints Try.underlying22 Try.underlying5 (by kernel_rfl) hf with ⟨hcs, _⟩ | ⟨x, l, c, zs, hcs, _, hl, hm, hz, _, hcell, hwz⟩
    · simp [Value.cells] at hcs
      obtain ⟨rfl, rfl, rfl⟩ := hcs
      exact ⟨Nat.le_refl _, fun h => by omega⟩
    · simp [Value.cells] at hcs
      obtain ⟨rfl, rfl, rfl⟩ := hcs
      refine ⟨hl, fun hp => ?_⟩
      have hzl : zs.length = cap0 := by simpa using hz
      obtain ⟨b, off, rfl, hc⟩ := ints_at hcell (by omega)
      refine ⟨b, off, rfl, fun j hj => ?_⟩
      have hjz : j < zs.length := by omega
      have hb8 := bounds_u8 (hwz (zs.getD j 0) (by simp [List.getD, hjz]))
      exact ⟨zs.getD j 0, hb8.1, hb8.2, hc j hjz⟩
  clear hA0 hV0
  obtain ⟨rfl, rfl⟩ := trodVars_none hV
  refine (walk a0 len0 cap0 hb0.1 W hb0.2).mono fun e W' ⟨he, bel⟩ => ?_
  subst he
  exact ⟨_, rfl, _, _, _, [], _, [], hW', trodAll_mk1 (shut_bool Try.underlying4 _), trodAll_cons_mk (Below.trod laidOut (by kernel_rfl) (of_decide_eq_true (by kernel_rfl)) k0 bel lt0) (trodAll_mk0), rfl, bel.frame _, fun h => by cases h⟩

def put (cs : Array Value) : Obj → Obj
  | .cells _ t frozen => .cells cs t frozen
  | o => o

/-- a world for the witness: the tables hold what their initialisers lay -/
def laidWorld (w : World) : World := { w with heap := w.heap }
theorem laid_met (os : Os) : laidMet Try.prog Rows.fnSameKeepsRow.laid ((laidWorld (World.holding Try.prog os ⟨#[], #[], []⟩)).forCall (fun _ _ => 0) ⟨#[], #[.slice none 0 0], []⟩).memory :=
  laidMet_of_run' 8 (by kernel_rfl) (by kernel_rfl)
theorem reads (os : Os) {H : Type} (enc : TypeId × Value → H) : ∃ places, DataW.whole enc Try.prog ((laidWorld (World.holding Try.prog os ⟨#[], #[], []⟩)).forCall (fun _ _ => 0) ⟨#[], #[.slice none 0 0], []⟩).memory Try.f3.params.toList Rows.fnSameKeepsSpec.vars false #[Value.slice none 0 0].toList 8 = some ([.nil], [], places) :=
  ⟨[], by kernel_rfl⟩

set_option maxRecDepth 1000000 in
theorem lifted (os : Os) (started : os.Started) (H : Type) (enc : TypeId × Value → H) (F : Stop.Interp) :
    ReturnsInHanded {} Try.checked os 3 .any ((OpenSpec.ofChange Rows.fnSameKeepsSpec).preRow enc Try.prog Try.f3 Rows.fnSameKeepsRow.domain false Rows.fnSameKeepsRow.laid) (((OpenSpec.ofChange Rows.fnSameKeepsSpec).at F).post enc Try.prog Try.f3 false true false false) := by
  obtain ⟨places, hx⟩ := reads os enc
  refine returnsInHanded_of_row (C := Try.checked) (s := OpenSpec.ofChange Rows.fnSameKeepsSpec) own started (by kernel_rfl) Try.func3
    (witness_row_at (enc := enc) (C := Try.checked) false (laidWorld (World.holding Try.prog os ⟨#[], #[], []⟩)) #[.slice none 0 0] rfl (by kernel_rfl) (by kernel_rfl) (by kernel_rfl)
      (OpenSpec.preRow_of_cond 8 hx (by kernel_rfl) (fun k hk => by cases hk) (by kernel_rfl) (laid_met os))) ?_
  intro W base args ds gs before hval hW _ _ _ hL _ _
  exact contract H enc W base args ds gs before hval hW hL

theorem said : Rows.FnSameKeepsSaid :=
  OpenClaim.holds_of_cond 3 Try.f3 rfl rfl rfl rfl rfl rfl rfl ⟨rfl, rfl, rfl, rfl, rfl⟩ rfl rfl rfl rfl rfl (by kernel_rfl) Try.func3 (by kernel_rfl)
    (of_decide_eq_true (by kernel_rfl)) (by unfold Func.isWrapper; first | (rw [if_pos (by decide +kernel)]; kernel_rfl) | (rw [if_neg (by decide +kernel)]; exact ⟨rfl, rfl⟩))
    (fun os started H enc _ F => by rw [OpenClaim.pre_eq_preRow]; exact lifted os started H enc F)

end Go.Proofs.Ytdneebbcacpeoaa.fnSameKeeps
