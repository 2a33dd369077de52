/-
  For every slice of bytes, laws.FnLogs returns true: a drawn right log behind one of its entries has the same entries there, and its last; what it shares with another one is in both; nothing that was in memory is written.
-/
import Derived.Test.YtjkgjnpifdafaaaRows
import Derived.Test.YtjkgjnpifdafaaaJoint38
import Derived.Test.YtjkgjnpifdafaaaJoint45
import Derived.Test.YtjkgjnpifdafaaaJoint46
import Derived.Test.YtjkgjnpifdafaaaJoint44
import Derived.Test.YtjkgjnpifdafaaaJoint41
import Derived.Test.YtjkgjnpifdafaaaJoint47
import Derived.Test.YtjkgjnpifdafaaaJoint48
import Derived.Lib.QuietBelow
import Derived.WalkSmall
import Derived.WalkKit
import Derived.ProofKit
import Derived.OpenShut
import Derived.OpenVars
import Derived.Deep.DeepHandedRow
import Derived.Lib.LaidTab
import Derived.Stop.LaidErr
namespace Go.Proofs.Ytjkgjnpifdafaaa.fnLogs
open Go.ChangeShapes Go.WideShapes Go.ChangeAt Go.ChangeMaps Go.RowKit

theorem last_any (s t : Int) (ao : Option Addr) (n cap : Nat) (i : Int) (hi : s + (n : Int) = i) (hs : 0 ≤ s ∧ s ≤ 2000000) (hl : n ≤ 1048576) (w : World) :
    Calls Try.prog 24 #[.agg #[.int .i64 s, .int .i64 t, .slice ao n cap]] w fun e w' => e = .returned (.int .i64 i) ∧ Below w.heap.size w w' := by
  subst hi
  have HB := hid (below_more (Below.refl w.heap.size w) (.cells #[.int .i64 s, .int .i64 t, .slice ao n cap] 31))
  go_enter Try.func24, Try.ntmps24
  go_wp2
  go_ret
  exact ⟨rfl, HB.out⟩
theorem implLogTerm_any (s t i : Int) (ao : Option Addr) (l : List EntD) (cap : Nat) (hs : -9223372036854775808 ≤ s ∧ s ≤ 9223372036854775807) (hi : -9223372036854775808 ≤ i ∧ i ≤ 9223372036854775807) (hl : l.length ≤ 1048576) (w : World) (ha : EntsAt w ao l) :
    Calls Try.prog 28 #[.agg #[.int .i64 s, .int .i64 t, .slice ao l.length cap], .int .i64 i] w fun e w' => e = .returned (.int .i64 (logTerm s t l i)) ∧ Below w.heap.size w w' := by
  have HB := hid (below_more (Below.refl w.heap.size w) (.cells #[.int .i64 s, .int .i64 t, .slice ao l.length cap] 31))
  have HA := hid ha
  clear ha
  go_enter Try.func28, Try.ntmps28
  go_wp2_with fail
  refine (termAt_any s t i ao l cap hs hi hl _ (HA.out.on HB.out)).mono ?_
  rintro e w1 ⟨rfl, b1⟩
  have B1 := hid (below_via HB.out b1)
  clear b1 HB
  cases hh : logHas s l.length i with
  | true =>
    simp only [if_true]
    go_wp2
    go_ret
    exact ⟨rfl, B1.out⟩
  | false =>
    go_wp2
    go_ret
    exact ⟨by rw [logTerm_has hh]; rfl, B1.out⟩
open Go.Sort in
set_option maxRecDepth 1000000 in
set_option maxHeartbeats 4000000 in
theorem walk (ao : Option Addr) (len cap : Nat) (hcap : len ≤ cap) (w : World) (hr : Bytes w ao len) :
    Calls Try.prog 7 #[.slice ao len cap] w fun e w' => e = .returned (.bool true) ∧ Below w.heap.size w w' := by
  have HR := hid hr
  clear hr
  by_cases hbig : 1048576 < len
  · go_enter Try.func7, Try.ntmps7
    go_wp2
    go_ret
    exact ⟨rfl, Below.refl _ _⟩
  have hlen : len ≤ 1048576 := by omega
  clear hbig
  go_enter Try.func7, Try.ntmps7
  go_wp2_with fail
  refine (big_no ao len cap hlen _).mono ?_
  rintro e w0 ⟨rfl, hw0⟩
  rw [hw0]
  clear hw0 w0
  go_wp2_with fail
  refine (drawRightLogs_any ao len cap hlen hcap _ HR.out).mono ?_
  rintro e w1 ⟨s, t, va, vc, L, s', t', va', vc', M, rfl, hL, hvc, hok, hs6, htL, ⟨hM, hvc', hok', htM⟩, he, he', b1⟩
  have HSL : Hid (∀ f ∈ L, f.data.size ≤ 1048576) := fun f hf => Nat.le_trans (htL f hf).2.2 (by omega)
  have HSM : Hid (∀ f ∈ M, f.data.size ≤ 1048576) := fun f hf => Nat.le_trans (htM f hf).2.2 (by omega)
  clear htL htM
  have hbd := logOk_iff.1 hok
  have hbd' := logOk_iff.1 hok'
  have HOK := hid hok
  have HOK' := hid hok'
  clear hok hok'
  have bx := below_more (below_more (Below.refl w1.heap.size w1) (.cells #[.int .i64 s, .int .i64 t, .slice va L.length vc] 31)) (.cells #[.int .i64 s', .int .i64 t', .slice va' M.length vc'] 31)
  have hx0 : BlockIs (w1.alloc (.cells #[.int .i64 s, .int .i64 t, .slice va L.length vc] 31)) w1.heap.size 31 [.int .i64 s, .int .i64 t, .slice va L.length vc] := heap_alloc_new w1 _
  have hx1 := hx0.on (below_more (Below.refl _ _) (.cells #[.int .i64 s', .int .i64 t', .slice va' M.length vc'] 31)) hx0.lt
  have hx2 : BlockIs ((w1.alloc (.cells #[.int .i64 s, .int .i64 t, .slice va L.length vc] 31)).alloc (.cells #[.int .i64 s', .int .i64 t', .slice va' M.length vc'] 31)) (w1.heap.size + 1) 31 [.int .i64 s', .int .i64 t', .slice va' M.length vc'] := by
    have := heap_alloc_new (w1.alloc (.cells #[.int .i64 s, .int .i64 t, .slice va L.length vc] 31)) (.cells #[.int .i64 s', .int .i64 t', .slice va' M.length vc'] 31)
    rw [show (w1.alloc (.cells #[.int .i64 s, .int .i64 t, .slice va L.length vc] 31)).heap.size = w1.heap.size + 1 by simp [World.alloc, -World.alloc_eq]] at this
    exact this
  have BW := hid (below_via b1 bx)
  have EA := hid (he.on bx)
  have EB := hid (he'.on bx)
  have XA := hid hx1
  have XB := hid hx2
  clear hx0 hx1 hx2 bx b1 he he'
  have zXA0_1 := XA.out.cell (j := 0) rfl
  have zXA1_1 := XA.out.cell (j := 1) rfl
  have zXA2_1 := XA.out.cell (j := 2) rfl
  have zXB0_1 := XB.out.cell (j := 0) rfl
  have zXB1_1 := XB.out.cell (j := 1) rfl
  have zXB2_1 := XB.out.cell (j := 2) rfl
  go_wp2_with fail
  refine Calls.mono (drawPlaces_any ao len cap hlen hcap _ (bytes_on HR.out BW.out)) ?_
  rintro e w2 ⟨p, rfl, hp, bx⟩
  obtain ⟨g, pcap, rfl, hpc, hcell⟩ := hp
  obtain ⟨z, hz, c0⟩ := hcell 0 (by omega)
  clear hcell HR
  have YBW := hid (below_via BW.out bx)
  have YEA := hid (EA.out.on bx)
  have YEB := hid (EB.out.on bx)
  have YXA := hid (XA.out.on bx XA.out.lt)
  have YXB := hid (XB.out.on bx XB.out.lt)
  clear bx BW EA EB XA XB zXA0_1 zXA1_1 zXA2_1 zXB0_1 zXB1_1 zXB2_1
  have BW := YBW
  have EA := YEA
  have EB := YEB
  have XA := YXA
  have XB := YXB
  clear YBW YEA YEB YXA YXB
  obtain ⟨kq, hkq⟩ : ∃ kq : Nat, z % (L.length + 1) = kq := ⟨_, rfl⟩
  have hkl : kq ≤ L.length := by have := Nat.mod_lt z (show 0 < L.length + 1 by omega); omega
  have hmod : Int.tmod (z : Int) ((L.length : Int) + 1) = (kq : Int) := by rw [Int.tmod_eq_emod_of_nonneg (by omega), ← hkq, Int.natCast_emod]; rfl
  clear hkq
  obtain ⟨tq, htq⟩ : ∃ x, lastT t (L.take kq) = x := ⟨_, rfl⟩
  obtain ⟨D, hD⟩ : ∃ D, L.drop kq = D := ⟨_, rfl⟩
  have hDl : D.length = L.length - kq := by rw [← hD]; simp
  obtain ⟨K, hK⟩ : ∃ K, s + (kq : Int) = K := ⟨_, rfl⟩
  have hK0 : 0 ≤ K ∧ K ≤ 100 := by omega
  have HLT : Hid (logTerm s t L K = tq) := (show _ = _ by rw [← htq, ← hK]; exact logTerm_take hkl)
  have HBA : Hid (behindAns s t L K tq = D) := (show _ = _ by rw [behindAns_some HOK.out (within_iff.2 (by omega)) HLT.out, ← hD]; congr 1; omega)
  have HOD : Hid (logOk K tq D = true) := (show _ = _ by rw [← htq, ← hD, ← hK]; exact logOk_behind HOK.out hkl)
  have HTD : Hid (lastT tq D = lastT t L) := (show _ = _ by rw [← htq, ← hD]; exact lastT_drop t L kq)
  have htq0 := (logOk_iff.1 HOD.out).2.1
  have HDJ : Hid (∀ j (h1 : j < D.length) m (h2 : m < L.length), kq + j = m → D[j] = L[m]) := fun j h1 m h2 e => by subst hD; subst e; simp
  have HDl := hid hDl
  have hDs : D.length ≤ 7 := by omega
  have hw6 : wrap64 (s + (kq : Int)) = K := (IntWalk.wrap64_in _ (by omega)).trans hK
  have HK := hid hK
  clear htq hD hDl hK
  have qXA0_2 := cell_regrown (XA.out.cell (j := 0) rfl)
  have qXA1_2 := cell_regrown (XA.out.cell (j := 1) rfl)
  have qXA2_2 := cell_regrown (XA.out.cell (j := 2) rfl)
  have qz := cell_regrown c0
  have hne0 : ¬ (L.length : Int) + 1 = 0 := by omega
  have hwk : s + (kq : Int) = K := HK.out
  go_wp2
  refine wp_region_quiet_below (by kernel_rfl) (by kernel_rfl) ?_
  repeat (first | go_big_quiet_step (fail) | quiet_step (fail))
  refine wpQuiet_nil ?_
  intro _ hw'
  obtain ⟨⟨dq, osq⟩, hw''⟩ := hw'
  subst hw''
  have bx := below_regrown w2 dq osq
  have YBW := hid (below_via BW.out bx)
  have YEA := hid (EA.out.on bx)
  have YEB := hid (EB.out.on bx)
  have YXA := hid (XA.out.on bx XA.out.lt)
  have YXB := hid (XB.out.on bx XB.out.lt)
  generalize Go.Sort.grow (redrawn w2 dq) osq = wq at bx YBW YEA YEB YXA YXB ⊢
  clear bx BW EA EB XA XB qXA0_2 qXA1_2 qXA2_2
  have BW := YBW
  have EA := YEA
  have EB := YEB
  have XA := YXA
  have XB := YXB
  clear YBW YEA YEB YXA YXB
  clear qz hne0 hw6 hwk
  have zXA0_3 := XA.out.cell (j := 0) rfl
  have zXA1_3 := XA.out.cell (j := 1) rfl
  have zXA2_3 := XA.out.cell (j := 2) rfl
  have zXB0_3 := XB.out.cell (j := 0) rfl
  have zXB1_3 := XB.out.cell (j := 1) rfl
  have zXB2_3 := XB.out.cell (j := 2) rfl
  go_wp2_with fail
  refine Calls.mono (implLogTerm_any s t K va L vc (by omega) (by omega) (by omega) _ EA.out) ?_
  rintro e w3 ⟨rfl, bx⟩
  rw [HLT.out]
  clear c0 hmod HLT
  have YBW := hid (below_via BW.out bx)
  have YEA := hid (EA.out.on bx)
  have YEB := hid (EB.out.on bx)
  have YXA := hid (XA.out.on bx XA.out.lt)
  have YXB := hid (XB.out.on bx XB.out.lt)
  clear bx BW EA EB XA XB zXA0_3 zXA1_3 zXA2_3 zXB0_3 zXB1_3 zXB2_3
  have BW := YBW
  have EA := YEA
  have EB := YEB
  have XA := YXA
  have XB := YXB
  clear YBW YEA YEB YXA YXB
  have zXA0_4 := XA.out.cell (j := 0) rfl
  have zXA1_4 := XA.out.cell (j := 1) rfl
  have zXA2_4 := XA.out.cell (j := 2) rfl
  have zXB0_4 := XB.out.cell (j := 0) rfl
  have zXB1_4 := XB.out.cell (j := 1) rfl
  have zXB2_4 := XB.out.cell (j := 2) rfl
  go_wp2_with fail
  refine Calls.mono (implLogBehind_any s t K tq va L vc (by omega) (by omega) (by omega) HSL.out hvc _ EA.out) ?_
  rintro e w4 ⟨vo, vk, rfl, hown, bx⟩
  rw [HBA.out] at hown ⊢
  clear HBA
  have YBW := hid (below_via BW.out bx)
  have YEA := hid (EA.out.on bx)
  have YEB := hid (EB.out.on bx)
  have YXA := hid (XA.out.on bx XA.out.lt)
  have YXB := hid (XB.out.on bx XB.out.lt)
  clear bx BW EA EB XA XB zXA0_4 zXA1_4 zXA2_4 zXB0_4 zXB1_4 zXB2_4
  have BW := YBW
  have EA := YEA
  have EB := YEB
  have XA := YXA
  have XB := YXB
  clear YBW YEA YEB YXA YXB
  have bx := below_more (Below.refl w4.heap.size w4) (.cells #[.int .i64 K, .int .i64 tq, .slice vo D.length vk] 31)
  have XC : Hid (BlockIs (w4.alloc (.cells #[.int .i64 K, .int .i64 tq, .slice vo D.length vk] 31)) w4.heap.size 31 [.int .i64 K, .int .i64 tq, .slice vo D.length vk]) := heap_alloc_new w4 _
  have EC := hid (hown.ents.on bx)
  clear hown
  have YBW := hid (below_via BW.out bx)
  have YEA := hid (EA.out.on bx)
  have YEB := hid (EB.out.on bx)
  have YXA := hid (XA.out.on bx XA.out.lt)
  have YXB := hid (XB.out.on bx XB.out.lt)
  clear bx BW EA EB XA XB
  have BW := YBW
  have EA := YEA
  have EB := YEB
  have XA := YXA
  have XB := YXB
  clear YBW YEA YEB YXA YXB
  have zXA0_5 := XA.out.cell (j := 0) rfl
  have zXA1_5 := XA.out.cell (j := 1) rfl
  have zXA2_5 := XA.out.cell (j := 2) rfl
  have zXB0_5 := XB.out.cell (j := 0) rfl
  have zXB1_5 := XB.out.cell (j := 1) rfl
  have zXB2_5 := XB.out.cell (j := 2) rfl
  have zXC0_5 := XC.out.cell (j := 0) rfl
  have zXC1_5 := XC.out.cell (j := 1) rfl
  have zXC2_5 := XC.out.cell (j := 2) rfl
  have hlA : wrap64 (s + L.length) = s + L.length := IntWalk.wrap64_in _ (by omega)
  have hlC : wrap64 (K + D.length) = s + L.length := (IntWalk.wrap64_in _ (by omega)).trans (by have := HDl.out; have := HK.out; omega)
  obtain ⟨tl, htl⟩ : ∃ x, lastT t L = x := ⟨_, rfl⟩
  rw [htl] at HTD
  go_wp2_with fail
  refine Calls.mono (implLogLast_any s t (by omega) va L vc (by omega) _ EA.out) ?_
  rintro e w5 ⟨rfl, bx⟩
  rw [hlA, htl]
  clear htl hlA
  have YBW := hid (below_via BW.out bx)
  have YEA := hid (EA.out.on bx)
  have YEB := hid (EB.out.on bx)
  have YXA := hid (XA.out.on bx XA.out.lt)
  have YXB := hid (XB.out.on bx XB.out.lt)
  have YXC := hid (XC.out.on bx XC.out.lt)
  have YEC := hid (EC.out.on bx)
  clear bx BW EA EB XA XB XC EC zXA0_5 zXA1_5 zXA2_5 zXB0_5 zXB1_5 zXB2_5 zXC0_5 zXC1_5 zXC2_5
  have BW := YBW
  have EA := YEA
  have EB := YEB
  have XA := YXA
  have XB := YXB
  have XC := YXC
  have EC := YEC
  clear YBW YEA YEB YXA YXB YXC YEC
  have zXA0_6 := XA.out.cell (j := 0) rfl
  have zXA1_6 := XA.out.cell (j := 1) rfl
  have zXA2_6 := XA.out.cell (j := 2) rfl
  have zXB0_6 := XB.out.cell (j := 0) rfl
  have zXB1_6 := XB.out.cell (j := 1) rfl
  have zXB2_6 := XB.out.cell (j := 2) rfl
  have zXC0_6 := XC.out.cell (j := 0) rfl
  have zXC1_6 := XC.out.cell (j := 1) rfl
  have zXC2_6 := XC.out.cell (j := 2) rfl
  go_wp2_with fail
  refine Calls.mono (implLogLast_any K tq (by omega) vo D vk (by omega) _ EC.out) ?_
  rintro e w6 ⟨rfl, bx⟩
  rw [hlC, HTD.out]
  clear hlC HTD
  have YBW := hid (below_via BW.out bx)
  have YEA := hid (EA.out.on bx)
  have YEB := hid (EB.out.on bx)
  have YXA := hid (XA.out.on bx XA.out.lt)
  have YXB := hid (XB.out.on bx XB.out.lt)
  have YXC := hid (XC.out.on bx XC.out.lt)
  have YEC := hid (EC.out.on bx)
  clear bx BW EA EB XA XB XC EC zXA0_6 zXA1_6 zXA2_6 zXB0_6 zXB1_6 zXB2_6 zXC0_6 zXC1_6 zXC2_6
  have BW := YBW
  have EA := YEA
  have EB := YEB
  have XA := YXA
  have XB := YXB
  have XC := YXC
  have EC := YEC
  clear YBW YEA YEB YXA YXB YXC YEC
  have zXA0_7 := XA.out.cell (j := 0) rfl
  have zXA1_7 := XA.out.cell (j := 1) rfl
  have zXA2_7 := XA.out.cell (j := 2) rfl
  have zXB0_7 := XB.out.cell (j := 0) rfl
  have zXB1_7 := XB.out.cell (j := 1) rfl
  have zXB2_7 := XB.out.cell (j := 2) rfl
  have zXC0_7 := XC.out.cell (j := 0) rfl
  have zXC1_7 := XC.out.cell (j := 1) rfl
  have zXC2_7 := XC.out.cell (j := 2) rfl
  have htn : ¬ tq < 0 := by omega
  go_wp2_with fail
  refine Calls.mono (implLogOk_any K tq vo D vk (by omega) _ EC.out) ?_
  rintro e w7 ⟨rfl, bx⟩
  rw [HOD.out]
  have YBW := hid (below_via BW.out bx)
  have YEA := hid (EA.out.on bx)
  have YEB := hid (EB.out.on bx)
  have YXA := hid (XA.out.on bx XA.out.lt)
  have YXB := hid (XB.out.on bx XB.out.lt)
  have YXC := hid (XC.out.on bx XC.out.lt)
  have YEC := hid (EC.out.on bx)
  clear bx BW EA EB XA XB XC EC zXA0_7 zXA1_7 zXA2_7 zXB0_7 zXB1_7 zXB2_7 zXC0_7 zXC1_7 zXC2_7
  have BW := YBW
  have EA := YEA
  have EB := YEB
  have XA := YXA
  have XB := YXB
  have XC := YXC
  have EC := YEC
  clear YBW YEA YEB YXA YXB YXC YEC
  go_wp2
  clear htn
  go_loopw [13] (fun yv wr => ∃ (j : Nat) (y : Int), kq + j ≤ L.length ∧ yv = .int .i64 y ∧ (0 ≤ y ∧ y ≤ 200) ∧ Hid (y = K + 1 + j) ∧ Hid (Below w.heap.size w wr) ∧ Hid (EntsAt wr va L) ∧ Hid (EntsAt wr va' M) ∧ Hid (BlockIs wr w1.heap.size 31 [.int .i64 s, .int .i64 t, .slice va L.length vc]) ∧ Hid (BlockIs wr (w1.heap.size + 1) 31 [.int .i64 s', .int .i64 t', .slice va' M.length vc']) ∧ Hid (BlockIs wr w4.heap.size 31 [.int .i64 K, .int .i64 tq, .slice vo D.length vk]) ∧ Hid (EntsAt wr vo D)) (fun y _ => (200 - intOf y).toNat)
  case atStart => exact ⟨0, K + 1, by omega, by go_num, by omega, (show _ = _ by simp), BW, EA, EB, XA, XB, XC, EC⟩
  case round =>
    clear BW EA EB XA XB XC EC
    obtain ⟨j, y, hj, rfl, hy, HY, BW, EA, EB, XA, XB, XC, EC⟩ := hrel
    have zXA0_8 := XA.out.cell (j := 0) rfl
    have zXA1_8 := XA.out.cell (j := 1) rfl
    have zXA2_8 := XA.out.cell (j := 2) rfl
    have zXB0_8 := XB.out.cell (j := 0) rfl
    have zXB1_8 := XB.out.cell (j := 1) rfl
    have zXB2_8 := XB.out.cell (j := 2) rfl
    have zXC0_8 := XC.out.cell (j := 0) rfl
    have zXC1_8 := XC.out.cell (j := 1) rfl
    have zXC2_8 := XC.out.cell (j := 2) rfl
    go_wp2_with fail
    refine Calls.mono (last_any s t va L.length vc (s + L.length) rfl (by omega) (by omega) _) ?_
    rintro e w8 ⟨rfl, bx⟩
    have YBW := hid (below_via BW.out bx)
    have YEA := hid (EA.out.on bx)
    have YEB := hid (EB.out.on bx)
    have YXA := hid (XA.out.on bx XA.out.lt)
    have YXB := hid (XB.out.on bx XB.out.lt)
    have YXC := hid (XC.out.on bx XC.out.lt)
    have YEC := hid (EC.out.on bx)
    clear bx BW EA EB XA XB XC EC zXA0_8 zXA1_8 zXA2_8 zXB0_8 zXB1_8 zXB2_8 zXC0_8 zXC1_8 zXC2_8
    have BW := YBW
    have EA := YEA
    have EB := YEB
    have XA := YXA
    have XB := YXB
    have XC := YXC
    have EC := YEC
    clear YBW YEA YEB YXA YXB YXC YEC
    by_cases hlt : kq + j < L.length
    · have hjD : j < D.length := by have := HDl.out; omega
      obtain ⟨m, hm⟩ : ∃ m, kq + j = m := ⟨_, rfl⟩
      have hjL : m < L.length := by omega
      obtain ⟨gc, oc, rfl, hcc⟩ := EC.out (by intro e; rw [e] at hjD; simp at hjD)
      obtain ⟨ga, oa, rfl, hca⟩ := EA.out (by intro e; rw [e] at hjL; simp at hjL)
      obtain ⟨a0, a1, a2⟩ := hcc j hjD
      obtain ⟨c0, c1, c2⟩ := hca m hjL
      rw [HDJ.out j hjD m hjL hm] at a0 a1 a2
      obtain ⟨p0, hp0⟩ : ∃ p, L[m].term = p := ⟨_, rfl⟩
      rw [hp0] at a0 c0
      obtain ⟨p1, hp1⟩ : ∃ p, L[m].kind = p := ⟨_, rfl⟩
      rw [hp1] at a1 c1
      obtain ⟨p2, hp2⟩ : ∃ p, L[m].data = p := ⟨_, rfl⟩
      rw [hp2] at a2 c2
      have HM := hid hm
      have zXA0_9 := XA.out.cell (j := 0) rfl
      have zXA1_9 := XA.out.cell (j := 1) rfl
      have zXA2_9 := XA.out.cell (j := 2) rfl
      have zXB0_9 := XB.out.cell (j := 0) rfl
      have zXB1_9 := XB.out.cell (j := 1) rfl
      have zXB2_9 := XB.out.cell (j := 2) rfl
      have zXC0_9 := XC.out.cell (j := 0) rfl
      have zXC1_9 := XC.out.cell (j := 1) rfl
      have zXC2_9 := XC.out.cell (j := 2) rfl
      have h1 : y ≤ s + (L.length : Int) := by have := HY.out; have := HK.out; omega
      have i1 : y - K - 1 = (j : Int) := by have := HY.out; omega
      have i2 : y - s - 1 = (m : Int) := by have := HY.out; have := HK.out; omega
      have h3 : (j : Int) < (D.length : Int) := by omega
      have h4 : (m : Int) < (L.length : Int) := by omega
      have h5 : (0 : Int) ≤ (j : Int) := by omega
      have h6 : (0 : Int) ≤ (m : Int) := by omega
      clear hcc hca hp0 hp1 hp2 hm hlt hj
      go_wp2
      go_quiet (fail)
      go_wp2
      go_roundw
      case rel => exact ⟨j + 1, y + 1, by have := HM.out; omega, by go_num, by have := HY.out; have := HM.out; have := HK.out; omega, (show _ = _ by have := HY.out; omega), below_drewN BW.out _, EA.out.on (below_drewN (Below.refl _ _) _), EB.out.on (below_drewN (Below.refl _ _) _), XA.out.on (below_drewN (Below.refl _ _) _) XA.out.lt, XB.out.on (below_drewN (Below.refl _ _) _) XB.out.lt, XC.out.on (below_drewN (Below.refl _ _) _) XC.out.lt, EC.out.on (below_drewN (Below.refl _ _) _)⟩
      case measure => simp [intOf]; omega
    · have hge : ¬ y ≤ s + (L.length : Int) := by have := HY.out; have := HK.out; omega
      clear HDJ HDl hDs HY HK htq0
      have zXA0_10 := XA.out.cell (j := 0) rfl
      have zXA1_10 := XA.out.cell (j := 1) rfl
      have zXA2_10 := XA.out.cell (j := 2) rfl
      have zXB0_10 := XB.out.cell (j := 0) rfl
      have zXB1_10 := XB.out.cell (j := 1) rfl
      have zXB2_10 := XB.out.cell (j := 2) rfl
      obtain ⟨N, hN⟩ : ∃ N, sharedAns s t L s' t' M = N := ⟨_, rfl⟩
      have hN1 : N ≤ s + (L.length : Int) := by rw [← hN]; exact sharedAns_le s t L s' t' M HOK.out
      have HN := hid hN
      clear hN
      go_wp2_with fail
      refine Calls.mono (implShared_any s t va L vc s' t' va' M vc' (by omega) (by omega) (by omega) (by omega) hvc hvc' _ EA.out EB.out) ?_
      rintro e w9 ⟨rfl, bx⟩
      rw [HN.out]
      have YBW := hid (below_via BW.out bx)
      have YEA := hid (EA.out.on bx)
      have YEB := hid (EB.out.on bx)
      have YXA := hid (XA.out.on bx XA.out.lt)
      have YXB := hid (XB.out.on bx XB.out.lt)
      have YXC := hid (XC.out.on bx XC.out.lt)
      have YEC := hid (EC.out.on bx)
      clear bx BW EA EB XA XB XC EC zXA0_10 zXA1_10 zXA2_10 zXB0_10 zXB1_10 zXB2_10
      have BW := YBW
      have EA := YEA
      have EB := YEB
      have XA := YXA
      have XB := YXB
      have XC := YXC
      have EC := YEC
      clear YBW YEA YEB YXA YXB YXC YEC
      have CS' := fun d os => Calls.regrown_of (w := w9) (d := d) (os := os) (specShared_any s t va L vc s' t' va' M vc' (by omega) (by omega) HSL.out HSM.out _ (EA.out.on (below_regrown w9 d os)) (EB.out.on (below_regrown w9 d os)))
      rw [HN.out] at CS'
      have CS := hid CS'
      have CB' := fun d os => Calls.regrown_of (w := w9) (d := d) (os := os) (implShared_any s' t' va' M vc' s t va L vc (by omega) (by omega) (by omega) (by omega) hvc' hvc _ (EB.out.on (below_regrown w9 d os)) (EA.out.on (below_regrown w9 d os)))
      rw [sharedAns_comm, HN.out] at CB'
      have CB := hid CB'
      have CA' := fun d os => Calls.regrown_of (w := w9) (d := d) (os := os) (implShared_any s t va L vc s t va L vc (by omega) (by omega) (by omega) (by omega) hvc hvc _ (EA.out.on (below_regrown w9 d os)) (EA.out.on (below_regrown w9 d os)))
      rw [sharedAns_self HOK.out] at CA'
      have CA := hid CA'
      have CL := hid (fun d os => Calls.regrown_of (w := w9) (d := d) (os := os) (last_any s t va L.length vc (s + L.length) rfl (by omega) (by omega) _))
      clear CS' CB' CA'
      clear XC EC
      have qXA0_11 := cell_regrown (XA.out.cell (j := 0) rfl)
      have qXA1_11 := cell_regrown (XA.out.cell (j := 1) rfl)
      have qXA2_11 := cell_regrown (XA.out.cell (j := 2) rfl)
      have qXB0_11 := cell_regrown (XB.out.cell (j := 0) rfl)
      have qXB1_11 := cell_regrown (XB.out.cell (j := 1) rfl)
      have qXB2_11 := cell_regrown (XB.out.cell (j := 2) rfl)
      go_wp2
      refine wp_region_quiet_below (by kernel_rfl) (by kernel_rfl) ?_
      repeat (first | go_big_quiet_step (first | (go_at_call 20; with_reducible exact CS.out _ _) | (go_at_call 21; with_reducible exact CB.out _ _) | (go_at_call 21; with_reducible exact CA.out _ _) | (go_at_call 24; with_reducible exact CL.out _ _) | fail) | quiet_step (first | (go_at_call 20; with_reducible exact CS.out _ _) | (go_at_call 21; with_reducible exact CB.out _ _) | (go_at_call 21; with_reducible exact CA.out _ _) | (go_at_call 24; with_reducible exact CL.out _ _) | fail))
      refine wpQuiet_nil ?_
      intro _ hw'
      obtain ⟨⟨dq, osq⟩, hw''⟩ := hw'
      subst hw''
      have bx := below_regrown w9 dq osq
      have YBW := hid (below_via BW.out bx)
      have YEA := hid (EA.out.on bx)
      have YEB := hid (EB.out.on bx)
      have YXA := hid (XA.out.on bx XA.out.lt)
      have YXB := hid (XB.out.on bx XB.out.lt)
      generalize Go.Sort.grow (redrawn w9 dq) osq = wq at bx YBW YEA YEB YXA YXB ⊢
      clear bx BW EA EB XA XB qXA0_11 qXA1_11 qXA2_11 qXB0_11 qXB1_11 qXB2_11 CS CB CA CL
      have BW := YBW
      have EA := YEA
      have EB := YEB
      have XA := YXA
      have XB := YXB
      clear YBW YEA YEB YXA YXB
      have zXA0_12 := XA.out.cell (j := 0) rfl
      have zXA1_12 := XA.out.cell (j := 1) rfl
      have zXA2_12 := XA.out.cell (j := 2) rfl
      have zXB0_12 := XB.out.cell (j := 0) rfl
      have zXB1_12 := XB.out.cell (j := 1) rfl
      have zXB2_12 := XB.out.cell (j := 2) rfl
      go_wp2
      clear zXA0_12 zXA1_12 zXA2_12 zXB0_12 zXB1_12 zXB2_12
      go_loopw [15] (fun yv wr => ∃ y : Int, yv = .int .i64 y ∧ (s + 1 ≤ y ∧ y ≤ s + L.length + 1) ∧ Hid (Below w.heap.size w wr) ∧ Hid (EntsAt wr va L) ∧ Hid (EntsAt wr va' M) ∧ Hid (BlockIs wr w1.heap.size 31 [.int .i64 s, .int .i64 t, .slice va L.length vc]) ∧ Hid (BlockIs wr (w1.heap.size + 1) 31 [.int .i64 s', .int .i64 t', .slice va' M.length vc'])) (fun y _ => (s + L.length + 2 - intOf y).toNat)
      case atStart => exact ⟨s + 1, by go_num, by omega, BW, EA, EB, XA, XB⟩
      case round =>
        clear BW EA EB XA XB
        obtain ⟨y2, rfl, hy2, BW, EA, EB, XA, XB⟩ := hrel
        by_cases hin : y2 ≤ N
        · skip
          by_cases hgt : s' < y2
          · skip
            have hST := shared_term (s := s) (t := t) (l := L) (s' := s') (t' := t') (l' := M) (i := y2) (by omega) (by omega) hgt (by rw [HN.out]; exact hin)
            obtain ⟨q, hq⟩ : ∃ q, logTerm s t L y2 = q := ⟨_, rfl⟩
            rw [hq] at hST
            have CT1' := fun d os => Calls.regrown_of (w := wr) (d := d) (os := os) (implLogTerm_any s t y2 va L vc (by omega) (by omega) (by omega) _ (EA.out.on (below_regrown wr d os)))
            rw [hq] at CT1'
            have CT1 := hid CT1'
            have CT2' := fun d os => Calls.regrown_of (w := wr) (d := d) (os := os) (implLogTerm_any s' t' y2 va' M vc' (by omega) (by omega) (by omega) _ (EB.out.on (below_regrown wr d os)))
            rw [← hST] at CT2'
            have CT2 := hid CT2'
            clear CT1' CT2' hST hq
            have qXA0_13 := cell_regrown (XA.out.cell (j := 0) rfl)
            have qXA1_13 := cell_regrown (XA.out.cell (j := 1) rfl)
            have qXA2_13 := cell_regrown (XA.out.cell (j := 2) rfl)
            have qXB0_13 := cell_regrown (XB.out.cell (j := 0) rfl)
            have qXB1_13 := cell_regrown (XB.out.cell (j := 1) rfl)
            have qXB2_13 := cell_regrown (XB.out.cell (j := 2) rfl)
            have hgd : decide (y2 > s') = true := by simp; omega
            go_wp2
            refine wp_region_quiet_below (by kernel_rfl) (by kernel_rfl) ?_
            repeat (first | go_big_quiet_step (first | (go_at_call 28; with_reducible exact CT1.out _ _) | (go_at_call 28; with_reducible exact CT2.out _ _) | fail) | quiet_step (first | (go_at_call 28; with_reducible exact CT1.out _ _) | (go_at_call 28; with_reducible exact CT2.out _ _) | fail))
            refine wpQuiet_nil ?_
            intro _ hw'
            obtain ⟨⟨dq, osq⟩, hw''⟩ := hw'
            subst hw''
            have bx := below_regrown wr dq osq
            have YBW := hid (below_via BW.out bx)
            have YEA := hid (EA.out.on bx)
            have YEB := hid (EB.out.on bx)
            have YXA := hid (XA.out.on bx XA.out.lt)
            have YXB := hid (XB.out.on bx XB.out.lt)
            generalize Go.Sort.grow (redrawn wr dq) osq = wq at bx YBW YEA YEB YXA YXB ⊢
            clear bx BW EA EB XA XB qXA0_13 qXA1_13 qXA2_13 qXB0_13 qXB1_13 qXB2_13 CT1 CT2
            have BW := YBW
            have EA := YEA
            have EB := YEB
            have XA := YXA
            have XB := YXB
            clear YBW YEA YEB YXA YXB
            go_wp2
            go_roundw
            case rel => exact ⟨y2 + 1, by go_num, by omega, BW, EA, EB, XA, XB⟩
            case measure => simp [intOf]; omega
          · skip
            have qXA0_14 := cell_regrown (XA.out.cell (j := 0) rfl)
            have qXA1_14 := cell_regrown (XA.out.cell (j := 1) rfl)
            have qXA2_14 := cell_regrown (XA.out.cell (j := 2) rfl)
            have qXB0_14 := cell_regrown (XB.out.cell (j := 0) rfl)
            have qXB1_14 := cell_regrown (XB.out.cell (j := 1) rfl)
            have qXB2_14 := cell_regrown (XB.out.cell (j := 2) rfl)
            have hgd : decide (y2 > s') = false := by simp; omega
            go_wp2
            refine wp_region_quiet_below (by kernel_rfl) (by kernel_rfl) ?_
            repeat (first | go_big_quiet_step (fail) | quiet_step (fail))
            refine wpQuiet_nil ?_
            intro _ hw'
            obtain ⟨⟨dq, osq⟩, hw''⟩ := hw'
            subst hw''
            have bx := below_regrown wr dq osq
            have YBW := hid (below_via BW.out bx)
            have YEA := hid (EA.out.on bx)
            have YEB := hid (EB.out.on bx)
            have YXA := hid (XA.out.on bx XA.out.lt)
            have YXB := hid (XB.out.on bx XB.out.lt)
            generalize Go.Sort.grow (redrawn wr dq) osq = wq at bx YBW YEA YEB YXA YXB ⊢
            clear bx BW EA EB XA XB qXA0_14 qXA1_14 qXA2_14 qXB0_14 qXB1_14 qXB2_14
            have BW := YBW
            have EA := YEA
            have EB := YEB
            have XA := YXA
            have XB := YXB
            clear YBW YEA YEB YXA YXB
            go_wp2
            go_roundw
            case rel => exact ⟨y2 + 1, by go_num, by omega, BW, EA, EB, XA, XB⟩
            case measure => simp [intOf]; omega
        · skip
          have zXA0_15 := XA.out.cell (j := 0) rfl
          have zXA1_15 := XA.out.cell (j := 1) rfl
          have zXA2_15 := XA.out.cell (j := 2) rfl
          have zXB0_15 := XB.out.cell (j := 0) rfl
          have zXB1_15 := XB.out.cell (j := 1) rfl
          have zXB2_15 := XB.out.cell (j := 2) rfl
          go_wp2_with fail
          refine Calls.mono (last_any s t va L.length vc (s + L.length) rfl (by omega) (by omega) _) ?_
          rintro e w8 ⟨rfl, bx⟩
          have YBW := hid (below_via BW.out bx)
          have YEA := hid (EA.out.on bx)
          have YEB := hid (EB.out.on bx)
          have YXA := hid (XA.out.on bx XA.out.lt)
          have YXB := hid (XB.out.on bx XB.out.lt)
          clear bx BW EA EB XA XB zXA0_15 zXA1_15 zXA2_15 zXB0_15 zXB1_15 zXB2_15
          have BW := YBW
          have EA := YEA
          have EB := YEB
          have XA := YXA
          have XB := YXB
          clear YBW YEA YEB YXA YXB
          go_wp2
          go_ret
          exact ⟨by simp, BW.out⟩

theorem own : ownKnob Try.prog.godebug = none := by kernel_rfl
theorem laidOut : laidOutB Try.prog = true := by kernel_rfl
theorem rowed : varsRowed Try.prog Rows.fnLogsSpec.vars = true := by kernel_rfl
set_option maxRecDepth 1000000 in
theorem contract (H : Type) (enc : TypeId × Value → H) (W : World) (base : Nat) (args : Array Value) (ds gs : List (DataW H)) (before : List MemPlace)
    (hval : ∀ (j : Nat) t v, Try.f7.params[j]? = some t → args[j]? = some v → Value.okWide Try.prog W .any base t v)
    (hW : DataW.Whole enc Try.prog Try.f7.params.toList Rows.fnLogsSpec.vars false W args.toList ds gs before) (_hL : laidMetH Try.prog Rows.fnLogsRow.laid W) :
    Calls Try.prog 7 args W fun e W' => ∃ v, e = .returned v ∧ Rows.fnLogsSpec.post enc Try.prog Try.f7 false true false false W args v W' := by
  have hW' := hW
  obtain ⟨p, q, hA0, hV0, rfl, hfz, hnd⟩ := hW
  have hV : DataW.TrodVars enc Try.prog W (fun _ => true) Rows.fnLogsSpec.vars gs q := hV0
  have hA : DataW.TrodAll enc Try.prog W 0 (fun _ => true) true Try.f7.params.toList args.toList ds p := hA0
  rw [Try.params7] at hA hval
  obtain ⟨v0, vs0, d0, ds0, p0, q0, hargs0, rfl, rfl, h0, r0⟩ := trodAll_cons hA
  obtain ⟨rfl, rfl, rfl⟩ := trodAll_nil r0
  obtain rfl : args = #[v0] := by cases args; simp_all
  obtain ⟨a0, len0, cap0, rfl⟩ := okWide_slice Try.underlying44 (hval 0 44 v0 rfl rfl)
  have k0 := h0
  have lt0 : ∀ x ∈ p0, x.block < W.heap.size := by obtain ⟨m, hm⟩ := k0; exact DataW.trod_lt m _ _ _ hm
  have hb0 : len0 ≤ cap0 ∧ Bytes W a0 len0 := by
    obtain ⟨fuel, hf⟩ := h0
    rcases open_ints Try.underlying44 Try.underlying5 (by kernel_rfl) hf with ⟨hcs, _⟩ | ⟨x, l, c, zs, hcs, _, hl, hm, hz, _, hcell, hwz⟩
    · simp [Value.cells] at hcs
      obtain ⟨rfl, rfl, rfl⟩ := hcs
      exact ⟨Nat.le_refl _, fun h => by omega⟩
    · simp [Value.cells] at hcs
      obtain ⟨rfl, rfl, rfl⟩ := hcs
      refine ⟨hl, fun hp => ?_⟩
      have hzl : zs.length = cap0 := by simpa using hz
      obtain ⟨b, off, rfl, hc⟩ := ints_at hcell (by omega)
      refine ⟨b, off, rfl, fun j hj => ?_⟩
      have hjz : j < zs.length := by omega
      have hb8 := bounds_u8 (hwz (zs.getD j 0) (by simp [List.getD, hjz]))
      exact ⟨zs.getD j 0, hb8.1, hb8.2, hc j hjz⟩
  clear hA0 hV0
  obtain ⟨rfl, rfl⟩ := trodVars_none hV
  refine (walk a0 len0 cap0 hb0.1 W hb0.2).mono fun e W' ⟨he, bel⟩ => ?_
  subst he
  exact ⟨_, rfl, _, _, _, [], _, [], hW', trodAll_mk1 (shut_bool Try.underlying4 _), trodAll_cons_mk (Below.trod laidOut (by kernel_rfl) (of_decide_eq_true (by kernel_rfl)) k0 bel lt0) (trodAll_mk0), rfl, bel.frame _, fun h => by cases h⟩

def put (cs : Array Value) : Obj → Obj
  | .cells _ t frozen => .cells cs t frozen
  | o => o

/-- a world for the witness: the tables hold what their initialisers lay -/
def laidWorld (w : World) : World := { w with heap := w.heap }
theorem laid_met (os : Os) : laidMet Try.prog Rows.fnLogsRow.laid ((laidWorld (World.holding Try.prog os ⟨#[], #[], []⟩)).forCall (fun _ _ => 0) ⟨#[], #[.slice none 0 0], []⟩).memory :=
  laidMet_of_run' 8 (by kernel_rfl) (by kernel_rfl)
theorem reads (os : Os) {H : Type} (enc : TypeId × Value → H) : ∃ places, DataW.whole enc Try.prog ((laidWorld (World.holding Try.prog os ⟨#[], #[], []⟩)).forCall (fun _ _ => 0) ⟨#[], #[.slice none 0 0], []⟩).memory Try.f7.params.toList Rows.fnLogsSpec.vars false #[Value.slice none 0 0].toList 8 = some ([.nil], [], places) :=
  ⟨[], by kernel_rfl⟩

set_option maxRecDepth 1000000 in
theorem lifted (os : Os) (started : os.Started) (H : Type) (enc : TypeId × Value → H) (F : Stop.Interp) :
    ReturnsInHanded {} Try.checked os 7 .any ((OpenSpec.ofChange Rows.fnLogsSpec).preRow enc Try.prog Try.f7 Rows.fnLogsRow.domain false Rows.fnLogsRow.laid) (((OpenSpec.ofChange Rows.fnLogsSpec).at F).post enc Try.prog Try.f7 false true false false) := by
  obtain ⟨places, hx⟩ := reads os enc
  refine returnsInHanded_of_row (C := Try.checked) (s := OpenSpec.ofChange Rows.fnLogsSpec) own started (by kernel_rfl) Try.func7
    (witness_row_at (enc := enc) (C := Try.checked) false (laidWorld (World.holding Try.prog os ⟨#[], #[], []⟩)) #[.slice none 0 0] rfl (by kernel_rfl) (by kernel_rfl) (by kernel_rfl)
      (OpenSpec.preRow_of_cond 8 hx (by kernel_rfl) (fun k hk => by cases hk) (by kernel_rfl) (laid_met os))) ?_
  intro W base args ds gs before hval hW _ _ _ hL _ _
  exact contract H enc W base args ds gs before hval hW hL

theorem said : Rows.FnLogsSaid :=
  OpenClaim.holds_of_cond 7 Try.f7 rfl rfl rfl rfl rfl rfl rfl ⟨rfl, rfl, rfl, rfl, rfl⟩ rfl rfl rfl rfl rfl (by kernel_rfl) Try.func7 (by kernel_rfl)
    (of_decide_eq_true (by kernel_rfl)) (by unfold Func.isWrapper; first | (rw [if_pos (by decide +kernel)]; kernel_rfl) | (rw [if_neg (by decide +kernel)]; exact ⟨rfl, rfl⟩))
    (fun os started H enc _ F => by rw [OpenClaim.pre_eq_preRow]; exact lifted os started H enc F)

end Go.Proofs.Ytjkgjnpifdafaaa.fnLogs
