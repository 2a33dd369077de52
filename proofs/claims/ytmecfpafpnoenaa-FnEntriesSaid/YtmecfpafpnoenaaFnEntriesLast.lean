/-
  For every slice of bytes, laws.FnEntries returns true: a drawn right entry comes back from its text, with its index; so does a drawn right conf; more than half of a conf is most of it; nothing that was in memory is written.
-/
import Derived.Test.YtmecfpafpnoenaaRows
import Derived.Test.YtmecfpafpnoenaaJoint26
import Derived.Test.YtmecfpafpnoenaaJoint35
import Derived.Test.YtmecfpafpnoenaaJoint38
import Derived.Test.YtmecfpafpnoenaaJoint42
import Derived.Test.YtmecfpafpnoenaaJoint43
import Derived.Test.YtmecfpafpnoenaaJoint28
import Derived.Test.YtmecfpafpnoenaaJoint27
import Derived.Test.YtmecfpafpnoenaaJoint11
import Derived.Test.YtmecfpafpnoenaaJoint44
import Derived.Test.YtmecfpafpnoenaaJoint45
import Derived.Test.YtmecfpafpnoenaaJoint1
import Derived.Test.YtmecfpafpnoenaaJoint25
import Derived.WalkSmall
import Derived.WalkKit
import Derived.ProofKit
import Derived.OpenShut
import Derived.OpenVars
import Derived.Deep.DeepHandedRow
import Derived.Lib.LaidTab
import Derived.Stop.LaidErr
namespace Go.Proofs.Ytmecfpafpnoenaa.fnEntries
open Go.ChangeShapes Go.WideShapes Go.ChangeAt Go.ChangeMaps Go.RowKit

theorem entryText_yes {i : Int} {d : EntD} (h : (entryOk d && within i 1 1000000) = true) : entryText i d = (entText i d, true) := by rw [entryText, if_pos h]
theorem entryText_no {i : Int} {d : EntD} (h : (entryOk d && within i 1 1000000) = false) : entryText i d = (ByteArray.empty, false) := by rw [entryText, if_neg (by simp [h])]
theorem entText_size {i : Int} {d : EntD} (hi : 1 ≤ i ∧ i ≤ 1000000) (h : entryOk d = true) : (entText i d).size ≤ 1048576 := by
  have hb := entryOk_bd h
  have h1 := vb_len (n := i.toNat) (by omega)
  have h2 := vb_len (n := d.term.toNat) (by omega)
  have e := congrArg List.length (entText_list i d)
  have e2 : (entText i d).data.toList.length = (entText i d).size := by simp
  have e3 : d.data.data.toList.length = d.data.size := by simp
  rw [e2] at e
  simp only [List.length_cons, List.length_append] at e
  omega
theorem take_ints {w : World} {va : Option Addr} {zs : List Int} (h : IntsAt w va zs) (k : Nat) : IntsAt w va (zs.take k) := by
  intro hne
  obtain ⟨b, off, e, hc⟩ := h (by intro e; rw [e] at hne; simp at hne)
  refine ⟨b, off, e, fun j hj => ?_⟩
  have hj2 : j < zs.length := by simp at hj; omega
  rw [List.getElem_take]
  exact hc j hj2

set_option maxRecDepth 1000000 in
set_option maxHeartbeats 4000000 in
theorem walk (ao : Option Addr) (len cap : Nat) (hcap : len ≤ cap) (w : World) (hr : Bytes w ao len) :
    Calls Try.prog 4 #[.slice ao len cap] w fun e w' => e = .returned (.bool true) ∧ Below w.heap.size w w' := by
  have HR := hid hr
  clear hr
  by_cases hbig : 1048576 < len
  · go_enter Try.func4, Try.ntmps4
    go_wp2
    go_ret
    exact ⟨rfl, Below.refl _ _⟩
  have hlen : len ≤ 1048576 := by omega
  clear hbig
  go_enter Try.func4, Try.ntmps4
  go_wp2_with fail
  refine (big_no ao len cap hlen _).mono ?_
  rintro e w0 ⟨rfl, hw0⟩
  rw [hw0]
  clear hw0 w0
  go_wp2_with fail
  refine (drawEntryText_any ao len cap hlen hcap _ HR.out).mono ?_
  rintro e w1 ⟨i, d, rfl, hi, hd, b1⟩
  obtain ⟨tm, kd, dt⟩ := d
  obtain ⟨hd1, hd2, hd3⟩ := hd
  dsimp only at hd1 hd2 hd3 ⊢
  have ba := below_more (Below.refl w1.heap.size w1) (.cells #[.int .i64 tm, .int .i64 kd, .string dt] 42)
  have hx : BlockIs (w1.alloc (.cells #[.int .i64 tm, .int .i64 kd, .string dt] 42)) w1.heap.size 42 [.int .i64 tm, .int .i64 kd, .string dt] := heap_alloc_new w1 _
  have B1 := hid (below_via b1 ba)
  have X1 := hid hx
  have x10 := hx.cell (j := 0) rfl
  have x11 := hx.cell (j := 1) rfl
  have x12 := hx.cell (j := 2) rfl
  clear ba hx b1
  go_wp2_with fail
  refine (implEntryText_any i ⟨tm, kd, dt⟩ _).mono ?_
  rintro e w2 ⟨rfl, b2⟩
  have B2 := hid (below_via B1.out b2)
  have X2 := hid (X1.out.on b2 X1.out.lt)
  have x20 := X2.out.cell (j := 0) rfl
  have x21 := X2.out.cell (j := 1) rfl
  have x22 := X2.out.cell (j := 2) rfl
  clear b2 B1 X1 x10 x11 x12
  have CS' := specEntryText_any i ⟨tm, kd, dt⟩ (by show dt.size ≤ 1048576; omega) w2
  cases hE : (entryOk ⟨tm, kd, dt⟩ && within i 1 1000000) with
  | true =>
    have hok : entryOk ⟨tm, kd, dt⟩ = true := by rw [Bool.and_eq_true] at hE; exact hE.1
    have hin := within_iff.1 (by rw [Bool.and_eq_true] at hE; exact hE.2 : within i 1 1000000 = true)
    have hsz := entText_size hin hok
    have hbk := entry_back hok hin
    rw [entryText_yes hE] at CS' ⊢
    dsimp only at CS' ⊢
    obtain ⟨T, hT⟩ : ∃ T, entText i ⟨tm, kd, dt⟩ = T := ⟨_, rfl⟩
    rw [hT] at CS' hsz hbk ⊢
    have CS := hid CS'
    clear CS' hE hok hT
    go_wp2_with fail
    with_reducible refine Calls.mono CS.out ?_
    rintro e w3 ⟨rfl, b3⟩
    have B3 := hid (below_via B2.out b3)
    have X3 := hid (X2.out.on b3 X2.out.lt)
    clear b3 B2 X2 x20 x21 x22 CS
    have CR' := implReadEntry_any T hsz w3
    rw [hbk] at CR'
    simp only [reAns] at CR'
    rw [show ((i.toNat : Nat) : Int) = i by omega] at CR'
    have CR := hid CR'
    clear CR' hbk hsz
    go_wp2_with fail
    with_reducible refine Calls.mono CR.out ?_
    rintro e w4 ⟨rfl, b4⟩
    have X4 := X3.out.on b4 X3.out.lt
    have B4 := below_via B3.out b4
    have ba := below_more (Below.refl w4.heap.size w4) (.cells #[.int .i64 tm, .int .i64 kd, .string dt] 42)
    have x40 := (X4.on ba X4.lt).cell (j := 0) rfl
    have x41 := (X4.on ba X4.lt).cell (j := 1) rfl
    have x42 := (X4.on ba X4.lt).cell (j := 2) rfl
    have B5 := hid (below_via B4 ba)
    clear b4 B3 X3 X4 B4 CR ba
    go_wp2_with fail
    refine (drawConfText_any ao len cap hlen hcap _ (bytes_on HR.out B5.out)).mono ?_
    rintro e w6 ⟨va, zs, vc, rfl, hz, hvc, hI, b6⟩
    have B6 := hid (below_via B5.out b6)
    have hz6 := hz.1
    have HI := hid hI
    clear b6 B5 hz hI x40 x41 x42
    go_wp2_with fail
    refine (implConfText_any va zs vc (by omega) _ HI.out).mono ?_
    rintro e w7 ⟨rfl, b7⟩
    have B7 := hid (below_via B6.out b7)
    have I7 := hid (HI.out.on b7)
    clear b7 B6 HI
    cases hO : confOk zs with
    | true =>
      rw [confText_yes hO]
      dsimp only
      have CR' := implReadConf_any ⟨(confBytes zs).toArray⟩ w7
      unfold readConfAns at CR'
      rw [conf_back hO] at CR'
      dsimp only at CR'
      obtain ⟨T2, hT2⟩ : ∃ T, (⟨(confBytes zs).toArray⟩ : ByteArray) = T := ⟨_, rfl⟩
      rw [hT2] at CR' ⊢
      have CR := hid CR'
      clear CR' hT2
      go_wp2_with fail
      with_reducible refine Calls.mono CR.out ?_
      rintro e w8 ⟨v, rfl, ho, b8⟩
      obtain ⟨vb, vd, rfl⟩ := row_shape ho
      have J8 := hid (ints_row rfl ho)
      have B8 := hid (below_via B7.out b8)
      have I8 := hid (I7.out.on b8)
      clear b8 B7 I7 ho CR
      have CO' := specConfOk_any va zs vc (by omega) w8 I8.out
      rw [hO] at CO'
      have CO := hid CO'
      clear CO'
      go_wp2_with fail
      with_reducible refine Calls.mono CO.out ?_
      rintro e w9 ⟨rfl, b9⟩
      have B9 := hid (below_via B8.out b9)
      have I9 := hid (I8.out.on b9)
      have J9 := hid (J8.out.on b9)
      clear b9 B8 I8 J8 CO
      go_wp2_with fail
      refine Calls.mono (sameInts_same vb va zs vd vc (by omega) _ J9.out I9.out) ?_
      rintro e w10 ⟨rfl, b10⟩
      have B10 := hid (below_via B9.out b10)
      have I10 := hid (I9.out.on b10)
      clear b10 B9 I9 J9
      have CO' := implConfOk_any va zs vc (by omega) w10 I10.out
      rw [hO] at CO'
      have CO := hid CO'
      clear CO'
      go_wp2_with fail
      with_reducible refine Calls.mono CO.out ?_
      rintro e w11 ⟨rfl, b11⟩
      have B11 := hid (below_via B10.out b11)
      have I11 := hid (I10.out.on b11)
      clear b11 B10 I10 CO
      have CM' := implMost_any va va zs zs vc vc (by omega) (by omega) w11 I11.out I11.out
      rw [most_self hO] at CM'
      have CM := hid CM'
      clear CM'
      go_wp2_with fail
      with_reducible refine Calls.mono CM.out ?_
      rintro e w12 ⟨rfl, b12⟩
      have ba := below_more (Below.refl w12.heap.size w12) (.cells #[] 3)
      have B12 := hid (below_via (below_via B11.out b12) ba)
      have I12 := hid ((I11.out.on b12).on ba)
      clear b12 B11 I11 CM ba
      have CM' := implMost_any va (some ⟨w12.heap.size, 0, none⟩) zs [] vc 0 (by omega) (by simp) _ I12.out (fun h => absurd rfl h)
      rw [most_none] at CM'
      have CM := hid CM'
      clear CM'
      go_wp2_with fail
      with_reducible refine Calls.mono CM.out ?_
      rintro e w13 ⟨rfl, b13⟩
      have B13 := hid (below_via B12.out b13)
      have I13 := hid (I12.out.on b13)
      clear b13 B12 I12 CM
      have hl := confOk_len hO
      have ht1 : (zs.take 1).length = 1 := by simp; omega
      have CM' := implMost_any va va zs (zs.take 1) vc vc (by omega) (by omega) w13 I13.out (take_ints I13.out 1)
      rw [most_first hO, ht1] at CM'
      have CM := hid CM'
      have hvc1 : 1 ≤ vc := by omega
      clear CM' hO
      by_cases h1 : zs.length = 1
      · have h1' : decide (zs.length = 1) = true := by simpa using h1
        rw [h1', h1] at CM
        have h1i : (zs.length : Int) = 1 := by omega
        go_wp2_with fail
        with_reducible refine Calls.mono CM.out ?_
        rintro e w14 ⟨rfl, b14⟩
        have B14 := hid (below_via B13.out b14)
        clear b14 B13 CM
        go_wp2
        go_ret
        exact ⟨rfl, B14.out⟩
      · have h1' : decide (zs.length = 1) = false := by simpa using h1
        rw [h1'] at CM
        have h1i : ¬ (zs.length : Int) = 1 := by omega
        go_wp2_with fail
        with_reducible refine Calls.mono CM.out ?_
        rintro e w14 ⟨rfl, b14⟩
        have B14 := hid (below_via B13.out b14)
        clear b14 B13 CM
        go_wp2
        go_ret
        exact ⟨by simp [h1i], B14.out⟩
    | false =>
      rw [confText_no hO]
      dsimp only
      have CR := hid (implReadConf_any ByteArray.empty w7)
      go_wp2_with fail
      with_reducible refine Calls.mono CR.out ?_
      rintro e w8 ⟨v, rfl, ho, b8⟩
      obtain ⟨bb, hbb⟩ : ∃ b, (readConf ByteArray.empty).2 = b := ⟨_, rfl⟩
      obtain ⟨vb, vd, rfl⟩ := row_shape ho
      rw [hbb]
      have B8 := hid (below_via B7.out b8)
      have I8 := hid (I7.out.on b8)
      clear b8 B7 I7 ho CR hbb
      have CO' := specConfOk_any va zs vc (by omega) w8 I8.out
      rw [hO] at CO'
      have CO := hid CO'
      clear CO'
      go_wp2_with fail
      with_reducible refine Calls.mono CO.out ?_
      rintro e w9 ⟨rfl, b9⟩
      have B9 := hid (below_via B8.out b9)
      have I9 := hid (I8.out.on b9)
      clear b9 B8 I8 CO
      have CO' := implConfOk_any va zs vc (by omega) w9 I9.out
      rw [hO] at CO'
      have CO := hid CO'
      clear CO' hO
      go_wp2_with fail
      with_reducible refine Calls.mono CO.out ?_
      rintro e w11 ⟨rfl, b11⟩
      have B11 := hid (below_via B9.out b11)
      clear b11 B9 I9 CO
      go_wp2
      go_ret
      exact ⟨rfl, B11.out⟩
  | false =>
    rw [entryText_no hE] at CS' ⊢
    dsimp only at CS' ⊢
    have CS := hid CS'
    clear CS' hE
    go_wp2_with fail
    with_reducible refine Calls.mono CS.out ?_
    rintro e w3 ⟨rfl, b3⟩
    have B3 := hid (below_via B2.out b3)
    clear b3 B2 X2 x20 x21 x22 CS
    have CR' := implReadEntry_any ByteArray.empty (by decide) w3
    rw [readE_empty (by rfl)] at CR'
    simp only [reAns] at CR'
    have CR := hid CR'
    clear CR'
    go_wp2_with fail
    with_reducible refine Calls.mono CR.out ?_
    rintro e w4 ⟨rfl, b4⟩
    have ba := below_more (Below.refl w4.heap.size w4) (.cells #[.int .i64 0, .int .i64 0, .string ByteArray.empty] 42)
    have B5 := hid (below_via (below_via B3.out b4) ba)
    clear b4 B3 CR ba
    go_wp2_with fail
    refine (drawConfText_any ao len cap hlen hcap _ (bytes_on HR.out B5.out)).mono ?_
    rintro e w6 ⟨va, zs, vc, rfl, hz, hvc, hI, b6⟩
    have B6 := hid (below_via B5.out b6)
    have hz6 := hz.1
    have HI := hid hI
    clear b6 B5 hz hI
    go_wp2_with fail
    refine (implConfText_any va zs vc (by omega) _ HI.out).mono ?_
    rintro e w7 ⟨rfl, b7⟩
    have B7 := hid (below_via B6.out b7)
    have I7 := hid (HI.out.on b7)
    clear b7 B6 HI
    cases hO : confOk zs with
    | true =>
      rw [confText_yes hO]
      dsimp only
      have CR' := implReadConf_any ⟨(confBytes zs).toArray⟩ w7
      unfold readConfAns at CR'
      rw [conf_back hO] at CR'
      dsimp only at CR'
      obtain ⟨T2, hT2⟩ : ∃ T, (⟨(confBytes zs).toArray⟩ : ByteArray) = T := ⟨_, rfl⟩
      rw [hT2] at CR' ⊢
      have CR := hid CR'
      clear CR' hT2
      go_wp2_with fail
      with_reducible refine Calls.mono CR.out ?_
      rintro e w8 ⟨v, rfl, ho, b8⟩
      obtain ⟨vb, vd, rfl⟩ := row_shape ho
      have J8 := hid (ints_row rfl ho)
      have B8 := hid (below_via B7.out b8)
      have I8 := hid (I7.out.on b8)
      clear b8 B7 I7 ho CR
      have CO' := specConfOk_any va zs vc (by omega) w8 I8.out
      rw [hO] at CO'
      have CO := hid CO'
      clear CO'
      go_wp2_with fail
      with_reducible refine Calls.mono CO.out ?_
      rintro e w9 ⟨rfl, b9⟩
      have B9 := hid (below_via B8.out b9)
      have I9 := hid (I8.out.on b9)
      have J9 := hid (J8.out.on b9)
      clear b9 B8 I8 J8 CO
      go_wp2_with fail
      refine Calls.mono (sameInts_same vb va zs vd vc (by omega) _ J9.out I9.out) ?_
      rintro e w10 ⟨rfl, b10⟩
      have B10 := hid (below_via B9.out b10)
      have I10 := hid (I9.out.on b10)
      clear b10 B9 I9 J9
      have CO' := implConfOk_any va zs vc (by omega) w10 I10.out
      rw [hO] at CO'
      have CO := hid CO'
      clear CO'
      go_wp2_with fail
      with_reducible refine Calls.mono CO.out ?_
      rintro e w11 ⟨rfl, b11⟩
      have B11 := hid (below_via B10.out b11)
      have I11 := hid (I10.out.on b11)
      clear b11 B10 I10 CO
      have CM' := implMost_any va va zs zs vc vc (by omega) (by omega) w11 I11.out I11.out
      rw [most_self hO] at CM'
      have CM := hid CM'
      clear CM'
      go_wp2_with fail
      with_reducible refine Calls.mono CM.out ?_
      rintro e w12 ⟨rfl, b12⟩
      have ba := below_more (Below.refl w12.heap.size w12) (.cells #[] 3)
      have B12 := hid (below_via (below_via B11.out b12) ba)
      have I12 := hid ((I11.out.on b12).on ba)
      clear b12 B11 I11 CM ba
      have CM' := implMost_any va (some ⟨w12.heap.size, 0, none⟩) zs [] vc 0 (by omega) (by simp) _ I12.out (fun h => absurd rfl h)
      rw [most_none] at CM'
      have CM := hid CM'
      clear CM'
      go_wp2_with fail
      with_reducible refine Calls.mono CM.out ?_
      rintro e w13 ⟨rfl, b13⟩
      have B13 := hid (below_via B12.out b13)
      have I13 := hid (I12.out.on b13)
      clear b13 B12 I12 CM
      have hl := confOk_len hO
      have ht1 : (zs.take 1).length = 1 := by simp; omega
      have CM' := implMost_any va va zs (zs.take 1) vc vc (by omega) (by omega) w13 I13.out (take_ints I13.out 1)
      rw [most_first hO, ht1] at CM'
      have CM := hid CM'
      have hvc1 : 1 ≤ vc := by omega
      clear CM' hO
      by_cases h1 : zs.length = 1
      · have h1' : decide (zs.length = 1) = true := by simpa using h1
        rw [h1', h1] at CM
        have h1i : (zs.length : Int) = 1 := by omega
        go_wp2_with fail
        with_reducible refine Calls.mono CM.out ?_
        rintro e w14 ⟨rfl, b14⟩
        have B14 := hid (below_via B13.out b14)
        clear b14 B13 CM
        go_wp2
        go_ret
        exact ⟨rfl, B14.out⟩
      · have h1' : decide (zs.length = 1) = false := by simpa using h1
        rw [h1'] at CM
        have h1i : ¬ (zs.length : Int) = 1 := by omega
        go_wp2_with fail
        with_reducible refine Calls.mono CM.out ?_
        rintro e w14 ⟨rfl, b14⟩
        have B14 := hid (below_via B13.out b14)
        clear b14 B13 CM
        go_wp2
        go_ret
        exact ⟨by simp [h1i], B14.out⟩
    | false =>
      rw [confText_no hO]
      dsimp only
      have CR := hid (implReadConf_any ByteArray.empty w7)
      go_wp2_with fail
      with_reducible refine Calls.mono CR.out ?_
      rintro e w8 ⟨v, rfl, ho, b8⟩
      obtain ⟨bb, hbb⟩ : ∃ b, (readConf ByteArray.empty).2 = b := ⟨_, rfl⟩
      obtain ⟨vb, vd, rfl⟩ := row_shape ho
      rw [hbb]
      have B8 := hid (below_via B7.out b8)
      have I8 := hid (I7.out.on b8)
      clear b8 B7 I7 ho CR hbb
      have CO' := specConfOk_any va zs vc (by omega) w8 I8.out
      rw [hO] at CO'
      have CO := hid CO'
      clear CO'
      go_wp2_with fail
      with_reducible refine Calls.mono CO.out ?_
      rintro e w9 ⟨rfl, b9⟩
      have B9 := hid (below_via B8.out b9)
      have I9 := hid (I8.out.on b9)
      clear b9 B8 I8 CO
      have CO' := implConfOk_any va zs vc (by omega) w9 I9.out
      rw [hO] at CO'
      have CO := hid CO'
      clear CO' hO
      go_wp2_with fail
      with_reducible refine Calls.mono CO.out ?_
      rintro e w11 ⟨rfl, b11⟩
      have B11 := hid (below_via B9.out b11)
      clear b11 B9 I9 CO
      go_wp2
      go_ret
      exact ⟨rfl, B11.out⟩

theorem own : ownKnob Try.prog.godebug = none := by kernel_rfl
theorem laidOut : laidOutB Try.prog = true := by kernel_rfl
theorem rowed : varsRowed Try.prog Rows.fnEntriesSpec.vars = true := by kernel_rfl
set_option maxRecDepth 1000000 in
theorem contract (H : Type) (enc : TypeId × Value → H) (W : World) (base : Nat) (args : Array Value) (ds gs : List (DataW H)) (before : List MemPlace)
    (hval : ∀ (j : Nat) t v, Try.f4.params[j]? = some t → args[j]? = some v → Value.okWide Try.prog W .any base t v)
    (hW : DataW.Whole enc Try.prog Try.f4.params.toList Rows.fnEntriesSpec.vars false W args.toList ds gs before) (_hL : laidMetH Try.prog Rows.fnEntriesRow.laid W) :
    Calls Try.prog 4 args W fun e W' => ∃ v, e = .returned v ∧ Rows.fnEntriesSpec.post enc Try.prog Try.f4 false true false false W args v W' := by
  have hW' := hW
  obtain ⟨p, q, hA0, hV0, rfl, hfz, hnd⟩ := hW
  have hV : DataW.TrodVars enc Try.prog W (fun _ => true) Rows.fnEntriesSpec.vars gs q := hV0
  have hA : DataW.TrodAll enc Try.prog W 0 (fun _ => true) true Try.f4.params.toList args.toList ds p := hA0
  rw [Try.params4] at hA hval
  obtain ⟨v0, vs0, d0, ds0, p0, q0, hargs0, rfl, rfl, h0, r0⟩ := trodAll_cons hA
  obtain ⟨rfl, rfl, rfl⟩ := trodAll_nil r0
  obtain rfl : args = #[v0] := by cases args; simp_all
  obtain ⟨a0, len0, cap0, rfl⟩ := okWide_slice Try.underlying22 (hval 0 22 v0 rfl rfl)
  have k0 := h0
  have lt0 : ∀ x ∈ p0, x.block < W.heap.size := by obtain ⟨m, hm⟩ := k0; exact DataW.trod_lt m _ _ _ hm
  have hb0 : len0 ≤ cap0 ∧ Bytes W a0 len0 := by
    obtain ⟨fuel, hf⟩ := h0
    rcases open_ints Try.underlying22 Try.underlying5 (by kernel_rfl) hf with ⟨hcs, _⟩ | ⟨x, l, c, zs, hcs, _, hl, hm, hz, _, hcell, hwz⟩
    · simp [Value.cells] at hcs
      obtain ⟨rfl, rfl, rfl⟩ := hcs
      exact ⟨Nat.le_refl _, fun h => by omega⟩
    · simp [Value.cells] at hcs
      obtain ⟨rfl, rfl, rfl⟩ := hcs
      refine ⟨hl, fun hp => ?_⟩
      have hzl : zs.length = cap0 := by simpa using hz
      obtain ⟨b, off, rfl, hc⟩ := ints_at hcell (by omega)
      refine ⟨b, off, rfl, fun j hj => ?_⟩
      have hjz : j < zs.length := by omega
      have hb8 := bounds_u8 (hwz (zs.getD j 0) (by simp [List.getD, hjz]))
      exact ⟨zs.getD j 0, hb8.1, hb8.2, hc j hjz⟩
  clear hA0 hV0
  obtain ⟨rfl, rfl⟩ := trodVars_none hV
  refine (walk a0 len0 cap0 hb0.1 W hb0.2).mono fun e W' ⟨he, bel⟩ => ?_
  subst he
  exact ⟨_, rfl, _, _, _, [], _, [], hW', trodAll_mk1 (shut_bool Try.underlying4 _), trodAll_cons_mk (Below.trod laidOut (by kernel_rfl) (of_decide_eq_true (by kernel_rfl)) k0 bel lt0) (trodAll_mk0), rfl, bel.frame _, fun h => by cases h⟩

def put (cs : Array Value) : Obj → Obj
  | .cells _ t frozen => .cells cs t frozen
  | o => o

/-- a world for the witness: the tables hold what their initialisers lay -/
def laidWorld (w : World) : World := { w with heap := w.heap }
theorem laid_met (os : Os) : laidMet Try.prog Rows.fnEntriesRow.laid ((laidWorld (World.holding Try.prog os ⟨#[], #[], []⟩)).forCall (fun _ _ => 0) ⟨#[], #[.slice none 0 0], []⟩).memory :=
  laidMet_of_run' 8 (by kernel_rfl) (by kernel_rfl)
theorem reads (os : Os) {H : Type} (enc : TypeId × Value → H) : ∃ places, DataW.whole enc Try.prog ((laidWorld (World.holding Try.prog os ⟨#[], #[], []⟩)).forCall (fun _ _ => 0) ⟨#[], #[.slice none 0 0], []⟩).memory Try.f4.params.toList Rows.fnEntriesSpec.vars false #[Value.slice none 0 0].toList 8 = some ([.nil], [], places) :=
  ⟨[], by kernel_rfl⟩

set_option maxRecDepth 1000000 in
theorem lifted (os : Os) (started : os.Started) (H : Type) (enc : TypeId × Value → H) (F : Stop.Interp) :
    ReturnsInHanded {} Try.checked os 4 .any ((OpenSpec.ofChange Rows.fnEntriesSpec).preRow enc Try.prog Try.f4 Rows.fnEntriesRow.domain false Rows.fnEntriesRow.laid) (((OpenSpec.ofChange Rows.fnEntriesSpec).at F).post enc Try.prog Try.f4 false true false false) := by
  obtain ⟨places, hx⟩ := reads os enc
  refine returnsInHanded_of_row (C := Try.checked) (s := OpenSpec.ofChange Rows.fnEntriesSpec) own started (by kernel_rfl) Try.func4
    (witness_row_at (enc := enc) (C := Try.checked) false (laidWorld (World.holding Try.prog os ⟨#[], #[], []⟩)) #[.slice none 0 0] rfl (by kernel_rfl) (by kernel_rfl) (by kernel_rfl)
      (OpenSpec.preRow_of_cond 8 hx (by kernel_rfl) (fun k hk => by cases hk) (by kernel_rfl) (laid_met os))) ?_
  intro W base args ds gs before hval hW _ _ _ hL _ _
  exact contract H enc W base args ds gs before hval hW hL

theorem said : Rows.FnEntriesSaid :=
  OpenClaim.holds_of_cond 4 Try.f4 rfl rfl rfl rfl rfl rfl rfl ⟨rfl, rfl, rfl, rfl, rfl⟩ rfl rfl rfl rfl rfl (by kernel_rfl) Try.func4 (by kernel_rfl)
    (of_decide_eq_true (by kernel_rfl)) (by unfold Func.isWrapper; first | (rw [if_pos (by decide +kernel)]; kernel_rfl) | (rw [if_neg (by decide +kernel)]; exact ⟨rfl, rfl⟩))
    (fun os started H enc _ F => by rw [OpenClaim.pre_eq_preRow]; exact lifted os started H enc F)

end Go.Proofs.Ytmecfpafpnoenaa.fnEntries
