/-
  The walks of impl.textReader's methods unseal and conf.
-/
import Derived.Test.YtggogiepebnckaaDoorJoint21
import Derived.Test.YtggogiepebnckaaDoorJoint1
import Derived.Test.YtggogiepebnckaaDoorJoint24
import Derived.Test.YtggogiepebnckaaDoorJoint29
namespace Go.Proofs.YtggogiepebnckaaDoor
open Go.RowKit Go.Sort

set_option maxRecDepth 1000000 in
set_option maxHeartbeats 1000000 in
theorem unseal_yes (b : Nat) (s : ByteArray) (k : Nat) (hu : Uns s) (h2 : s.size ≤ 20000) (w : World) (hr : RdIs w b s k) (ht : Steps w) :
    Calls Tryd.prog 71 #[.pointer (some ⟨b, 0, none⟩)] w fun e w' => e = .returned (.tuple #[]) ∧ RdIs w' b (s.extract 0 (s.size - 4)) k ∧ w.grownBy w' (some b) := by
  have HR := hid hr
  have HT := hid ht
  have HU := hid hu
  have c0 := hr.cell (j := 0) rfl
  have h20 : (s.size : Int) ≤ 20000 := by omega
  clear hr ht hu
  go_enter Tryd.func71, Tryd.ntmps71
  go_wp2_with fail
  refine (need_yes _ _).mono ?_
  rintro e w1 ⟨rfl, hw⟩
  rw [hw]
  clear hw w1
  go_wp2_with fail
  refine (implUnsealed_any s (by omega) _ HT.out).mono ?_
  rintro e w1 ⟨(⟨_, rfl⟩ | ⟨hn, _⟩), b1⟩
  · have X1 : Hid (RdIs w1 b s k) := HR.out.on b1 HR.out.lt
    have G1 := hid (grown_of_below b1 (some b))
    have d0 := X1.out.cell (j := 0) rfl
    have f0 := X1.out.thaw 0
    obtain ⟨T, hT⟩ : ∃ T, s.extract 0 (s.size - 4) = T := ⟨_, rfl⟩
    rw [hT]
    have HTT := hid hT
    clear b1 c0 hT
    go_wp2_with fail
    refine (need_yes _ _).mono ?_
    rintro e w2 ⟨rfl, hw⟩
    rw [hw]
    clear hw w2
    go_wp2
    go_end0
    exact ⟨rfl, by rw [HTT.out]; exact X1.out.set 0 _, G1.out.trans (grownBy_set _ _ _ _)⟩
  · exact absurd HU.out hn

set_option maxRecDepth 1000000 in
set_option maxHeartbeats 1000000 in
theorem unseal_no (b : Nat) (s : ByteArray) (k : Nat) (hs : s.size ≤ 1048576) (hu : ¬ (Uns s ∧ s.size ≤ 20000)) (w : World) (hr : RdIs w b s k) (ht : Steps w) :
    Calls Tryd.prog 71 #[.pointer (some ⟨b, 0, none⟩)] w fun e w' => e = .panicked [misreadP] ∧ w.grownBy w' (some b) := by
  have HT := hid ht
  have HU := hid hu
  have c0 := hr.cell (j := 0) rfl
  clear hr ht hu
  by_cases h20 : (s.size : Int) ≤ 20000
  · go_enter Tryd.func71, Tryd.ntmps71
    go_wp2_with fail
    refine (need_yes _ _).mono ?_
    rintro e w1 ⟨rfl, hw⟩
    rw [hw]
    clear hw w1
    go_wp2_with fail
    refine (implUnsealed_any s (by omega) _ HT.out).mono ?_
    rintro e w1 ⟨(⟨hn, _⟩ | ⟨_, rfl⟩), b1⟩
    · exact absurd ⟨hn, by omega⟩ HU.out
    · have G1 := hid (grown_of_below b1 (some b))
      clear b1 c0
      go_wp2_with fail
      refine (need_no _ _).mono ?_
      rintro e w2 ⟨rfl, hw⟩
      rw [hw]
      clear hw w2
      go_wp2
      exact ⟨rfl, rfl, G1.out⟩
  · go_enter Tryd.func71, Tryd.ntmps71
    go_wp2_with fail
    refine (need_no _ _).mono ?_
    rintro e w1 ⟨rfl, hw⟩
    rw [hw]
    clear hw w1
    go_wp2
    exact ⟨rfl, rfl, World.grownBy.refl _ _⟩

set_option maxRecDepth 1000000 in
set_option maxHeartbeats 1000000 in
theorem conf_yes (b : Nat) (s : ByteArray) (k x y : Nat) (hs : s.size ≤ 1048576) (h : rs s (k : Int) = some (x, y)) (hc : confOk (intsOf (s.extract x y).data.toList) = true) (w : World) (hr : RdIs w b s k) :
    Calls Tryd.prog 73 #[.pointer (some ⟨b, 0, none⟩)] w fun e w' => ∃ v, e = .returned v ∧ w'.ownsRow w.heap.size 3 1 v (intsOf (s.extract x y).data.toList).length (intCells (intsOf (s.extract x y).data.toList)) ∧ RdIs w' b s y ∧ w.grownBy w' (some b) := by
  have HR := hid hr
  have cS := hid (fun w hr => short_yes b s k x y hs h w hr)
  clear hr h
  obtain ⟨T, hT⟩ : ∃ T, s.extract x y = T := ⟨_, rfl⟩
  rw [hT] at cS hc ⊢
  have HC := hid hc
  clear hc hT
  go_enter Tryd.func73, Tryd.ntmps73
  go_wp2_with fail
  refine (cS.out _ HR.out).mono ?_
  rintro e w1 ⟨rfl, hr1, hg1⟩
  have R1 := hid hr1
  have G1 := hid hg1
  clear hr1 hg1 cS HR
  go_wp2_with fail
  refine (implReadConf_any T _).mono ?_
  rintro e w2 ⟨v, rfl, ho, b2⟩
  rw [readConf_yes HC.out] at ho ⊢
  have R2 : Hid (RdIs w2 b s y) := R1.out.on b2 R1.out.lt
  have HO := hid (row_down ho G1.out.size)
  have G2 := hid (G1.out.trans (grown_of_below b2 (some b)))
  clear ho b2 R1 G1
  go_wp2_with fail
  refine (need_yes _ _).mono ?_
  rintro e w3 ⟨rfl, hw⟩
  rw [hw]
  clear hw w3
  go_wp2
  go_ret
  exact ⟨v, rfl, HO.out, R2.out, G2.out⟩

set_option maxRecDepth 1000000 in
set_option maxHeartbeats 1000000 in
theorem conf_none (b : Nat) (s : ByteArray) (k : Nat) (hs : s.size ≤ 1048576) (h : rs s (k : Int) = none) (w : World) (hr : RdIs w b s k) :
    Calls Tryd.prog 73 #[.pointer (some ⟨b, 0, none⟩)] w fun e w' => e = .panicked [misreadP] ∧ w.grownBy w' (some b) := by
  have HR := hid hr
  have cS := hid (fun w hr => short_no b s k hs h w hr)
  clear hr h
  go_enter Tryd.func73, Tryd.ntmps73
  go_wp2_with fail
  refine (cS.out _ HR.out).mono ?_
  rintro e w1 ⟨rfl, hg1⟩
  have G1 := hid hg1
  clear hg1 cS HR
  go_wp2
  exact ⟨rfl, rfl, G1.out⟩

set_option maxRecDepth 1000000 in
set_option maxHeartbeats 1000000 in
theorem conf_no (b : Nat) (s : ByteArray) (k x y : Nat) (hs : s.size ≤ 1048576) (h : rs s (k : Int) = some (x, y)) (hc : confOk (intsOf (s.extract x y).data.toList) = false) (w : World) (hr : RdIs w b s k) :
    Calls Tryd.prog 73 #[.pointer (some ⟨b, 0, none⟩)] w fun e w' => e = .panicked [misreadP] ∧ w.grownBy w' (some b) := by
  have HR := hid hr
  have cS := hid (fun w hr => short_yes b s k x y hs h w hr)
  clear hr h
  obtain ⟨T, hT⟩ : ∃ T, s.extract x y = T := ⟨_, rfl⟩
  rw [hT] at cS hc
  have HC := hid hc
  clear hc hT
  go_enter Tryd.func73, Tryd.ntmps73
  go_wp2_with fail
  refine (cS.out _ HR.out).mono ?_
  rintro e w1 ⟨rfl, _, hg1⟩
  have G1 := hid hg1
  clear hg1 cS HR
  go_wp2_with fail
  refine (implReadConf_any T _).mono ?_
  rintro e w2 ⟨v, rfl, _, b2⟩
  rw [readConf_no HC.out]
  have G2 := hid (G1.out.trans (grown_of_below b2 (some b)))
  clear b2 G1
  go_wp2_with fail
  refine (need_no _ _).mono ?_
  rintro e w3 ⟨rfl, hw⟩
  rw [hw]
  clear hw w3
  go_wp2
  exact ⟨rfl, rfl, G2.out⟩

end Go.Proofs.YtggogiepebnckaaDoor
