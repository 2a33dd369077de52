/-
  The walks of impl.textReader's methods unseal and conf.
  The walk of impl.textReader's method snap.
-/
import Derived.Test.YtoanhjjigbjecaaGreatDoorJoint45
import Derived.Test.YtoanhjjigbjecaaGreatDoorJoint1
import Derived.Test.YtoanhjjigbjecaaGreatDoorJoint44
namespace Go.Proofs.YtoanhjjigbjecaaGreatDoor
open Go.RowKit Go.Sort

set_option maxRecDepth 1000000 in
set_option maxHeartbeats 1000000 in
theorem unseal_yes (b : Nat) (s : ByteArray) (k : Nat) (hu : Uns s) (h2 : s.size ≤ 20000) (w : World) (hr : RdIs w b s k) (ht : Steps w) :
    Calls Tryz.prog 66 #[.pointer (some ⟨b, 0, none⟩)] w fun e w' => e = .returned (.tuple #[]) ∧ RdIs w' b (s.extract 0 (s.size - 4)) k ∧ w.grownBy w' (some b) := by
  have HR := hid hr
  have HT := hid ht
  have HU := hid hu
  have c0 := hr.cell (j := 0) rfl
  have h20 : (s.size : Int) ≤ 20000 := by omega
  clear hr ht hu
  go_enter Tryz.func66, Tryz.ntmps66
  go_wp2_with fail
  refine (need_yes _ _).mono ?_
  rintro e w1 ⟨rfl, hw⟩
  rw [hw]
  clear hw w1
  go_wp2_with fail
  refine (implUnsealed_any s (by omega) _ HT.out).mono ?_
  rintro e w1 ⟨(⟨_, rfl⟩ | ⟨hn, _⟩), b1⟩
  · have X1 : Hid (RdIs w1 b s k) := HR.out.on b1 HR.out.lt
    have G1 := hid (grown_of_below b1 (some b))
    have d0 := X1.out.cell (j := 0) rfl
    have f0 := X1.out.thaw 0
    obtain ⟨T, hT⟩ : ∃ T, s.extract 0 (s.size - 4) = T := ⟨_, rfl⟩
    rw [hT]
    have HTT := hid hT
    clear b1 c0 hT
    go_wp2_with fail
    refine (need_yes _ _).mono ?_
    rintro e w2 ⟨rfl, hw⟩
    rw [hw]
    clear hw w2
    go_wp2
    go_end0
    exact ⟨rfl, by rw [HTT.out]; exact X1.out.set 0 _, G1.out.trans (grownBy_set _ _ _ _)⟩
  · exact absurd HU.out hn

set_option maxRecDepth 1000000 in
set_option maxHeartbeats 1000000 in
theorem unseal_no (b : Nat) (s : ByteArray) (k : Nat) (hs : s.size ≤ 1048576) (hu : ¬ (Uns s ∧ s.size ≤ 20000)) (w : World) (hr : RdIs w b s k) (ht : Steps w) :
    Calls Tryz.prog 66 #[.pointer (some ⟨b, 0, none⟩)] w fun e w' => e = .panicked [misreadP] ∧ w.grownBy w' (some b) := by
  have HT := hid ht
  have HU := hid hu
  have c0 := hr.cell (j := 0) rfl
  clear hr ht hu
  by_cases h20 : (s.size : Int) ≤ 20000
  · go_enter Tryz.func66, Tryz.ntmps66
    go_wp2_with fail
    refine (need_yes _ _).mono ?_
    rintro e w1 ⟨rfl, hw⟩
    rw [hw]
    clear hw w1
    go_wp2_with fail
    refine (implUnsealed_any s (by omega) _ HT.out).mono ?_
    rintro e w1 ⟨(⟨hn, _⟩ | ⟨_, rfl⟩), b1⟩
    · exact absurd ⟨hn, by omega⟩ HU.out
    · have G1 := hid (grown_of_below b1 (some b))
      clear b1 c0
      go_wp2_with fail
      refine (need_no _ _).mono ?_
      rintro e w2 ⟨rfl, hw⟩
      rw [hw]
      clear hw w2
      go_wp2
      exact ⟨rfl, rfl, G1.out⟩
  · go_enter Tryz.func66, Tryz.ntmps66
    go_wp2_with fail
    refine (need_no _ _).mono ?_
    rintro e w1 ⟨rfl, hw⟩
    rw [hw]
    clear hw w1
    go_wp2
    exact ⟨rfl, rfl, World.grownBy.refl _ _⟩

set_option maxRecDepth 1000000 in
set_option maxHeartbeats 1000000 in
theorem conf_yes (b : Nat) (s : ByteArray) (k x y : Nat) (hs : s.size ≤ 1048576) (h : rs s (k : Int) = some (x, y)) (hc : confOk (intsOf (s.extract x y).data.toList) = true) (w : World) (hr : RdIs w b s k) :
    Calls Tryz.prog 68 #[.pointer (some ⟨b, 0, none⟩)] w fun e w' => ∃ v, e = .returned v ∧ w'.ownsRow w.heap.size 3 1 v (intsOf (s.extract x y).data.toList).length (intCells (intsOf (s.extract x y).data.toList)) ∧ RdIs w' b s y ∧ w.grownBy w' (some b) := by
  have HR := hid hr
  have cS := hid (fun w hr => short_yes b s k x y hs h w hr)
  clear hr h
  obtain ⟨T, hT⟩ : ∃ T, s.extract x y = T := ⟨_, rfl⟩
  rw [hT] at cS hc ⊢
  have HC := hid hc
  clear hc hT
  go_enter Tryz.func68, Tryz.ntmps68
  go_wp2_with fail
  refine (cS.out _ HR.out).mono ?_
  rintro e w1 ⟨rfl, hr1, hg1⟩
  have R1 := hid hr1
  have G1 := hid hg1
  clear hr1 hg1 cS HR
  go_wp2_with fail
  refine (implReadConf_any T _).mono ?_
  rintro e w2 ⟨v, rfl, ho, b2⟩
  rw [readConf_yes HC.out] at ho ⊢
  have R2 : Hid (RdIs w2 b s y) := R1.out.on b2 R1.out.lt
  have HO := hid (row_down ho G1.out.size)
  have G2 := hid (G1.out.trans (grown_of_below b2 (some b)))
  clear ho b2 R1 G1
  go_wp2_with fail
  refine (need_yes _ _).mono ?_
  rintro e w3 ⟨rfl, hw⟩
  rw [hw]
  clear hw w3
  go_wp2
  go_ret
  exact ⟨v, rfl, HO.out, R2.out, G2.out⟩

set_option maxRecDepth 1000000 in
set_option maxHeartbeats 1000000 in
theorem conf_none (b : Nat) (s : ByteArray) (k : Nat) (hs : s.size ≤ 1048576) (h : rs s (k : Int) = none) (w : World) (hr : RdIs w b s k) :
    Calls Tryz.prog 68 #[.pointer (some ⟨b, 0, none⟩)] w fun e w' => e = .panicked [misreadP] ∧ w.grownBy w' (some b) := by
  have HR := hid hr
  have cS := hid (fun w hr => short_no b s k hs h w hr)
  clear hr h
  go_enter Tryz.func68, Tryz.ntmps68
  go_wp2_with fail
  refine (cS.out _ HR.out).mono ?_
  rintro e w1 ⟨rfl, hg1⟩
  have G1 := hid hg1
  clear hg1 cS HR
  go_wp2
  exact ⟨rfl, rfl, G1.out⟩

set_option maxRecDepth 1000000 in
set_option maxHeartbeats 1000000 in
theorem conf_no (b : Nat) (s : ByteArray) (k x y : Nat) (hs : s.size ≤ 1048576) (h : rs s (k : Int) = some (x, y)) (hc : confOk (intsOf (s.extract x y).data.toList) = false) (w : World) (hr : RdIs w b s k) :
    Calls Tryz.prog 68 #[.pointer (some ⟨b, 0, none⟩)] w fun e w' => e = .panicked [misreadP] ∧ w.grownBy w' (some b) := by
  have HR := hid hr
  have cS := hid (fun w hr => short_yes b s k x y hs h w hr)
  clear hr h
  obtain ⟨T, hT⟩ : ∃ T, s.extract x y = T := ⟨_, rfl⟩
  rw [hT] at cS hc
  have HC := hid hc
  clear hc hT
  go_enter Tryz.func68, Tryz.ntmps68
  go_wp2_with fail
  refine (cS.out _ HR.out).mono ?_
  rintro e w1 ⟨rfl, _, hg1⟩
  have G1 := hid hg1
  clear hg1 cS HR
  go_wp2_with fail
  refine (implReadConf_any T _).mono ?_
  rintro e w2 ⟨v, rfl, _, b2⟩
  rw [readConf_no HC.out]
  have G2 := hid (G1.out.trans (grown_of_below b2 (some b)))
  clear b2 G1
  go_wp2_with fail
  refine (need_no _ _).mono ?_
  rintro e w3 ⟨rfl, hw⟩
  rw [hw]
  clear hw w3
  go_wp2
  exact ⟨rfl, rfl, G2.out⟩

end Go.Proofs.YtoanhjjigbjecaaGreatDoor

namespace Go.Proofs.YtoanhjjigbjecaaGreatDoor
open Go.RowKit Go.Sort

/-- a conf at a place, and the place behind it -/
def confAt (t : ByteArray) (k : Nat) : Option (List Int × Nat) := (txtAt t k).bind fun p => if confOk (intsOf p.1.data.toList) = true then some (intsOf p.1.data.toList, p.2) else none
def confAtDid (o : Option (List Int × Nat)) (s : ByteArray) (b : Nat) (w : World) (e : Ending) (w' : World) : Prop := match o with
  | none => e = .panicked [misreadP] ∧ w.grownBy w' (some b)
  | some (zs, k) => ∃ v, e = .returned v ∧ w'.ownsRow w.heap.size 3 1 v zs.length (intCells zs) ∧ RdIs w' b s k ∧ w.grownBy w' (some b)
theorem conf_at (b : Nat) (s : ByteArray) (k : Nat) (hs : s.size ≤ 1048576) (w : World) (hr : RdIs w b s k) :
    Calls Tryz.prog 68 #[.pointer (some ⟨b, 0, none⟩)] w fun e w' => confAtDid (confAt s k) s b w e w' := by
  unfold confAt txtAt
  cases h : rs s (k : Int) with
  | none => exact conf_none b s k hs h w hr
  | some p =>
    obtain ⟨x, y⟩ := p
    simp only [Option.bind_some]
    cases hc : confOk (intsOf (s.extract x y).data.toList) with
    | false =>
      rw [if_neg (by simp)]
      exact conf_no b s k x y hs h hc w hr
    | true =>
      rw [if_pos rfl]
      exact conf_yes b s k x y hs h hc w hr
theorem confAt_fits {s : ByteArray} {k k' : Nat} {zs : List Int} (hk : k ≤ s.size) (h : confAt s k = some (zs, k')) : k' ≤ s.size := by
  unfold confAt at h
  cases h1 : txtAt s k with
  | none => rw [h1] at h; cases h
  | some p =>
    rw [h1] at h
    simp only [Option.bind_some] at h
    have := (txtAt_fits hk h1).2.2.1
    split at h
    · cases h; exact this
    · cases h
/-- what the method reads: a snapshot, the text that was sealed, the place behind it -/
def snapIn16 (t : ByteArray) : Option (SnapD × ByteArray × Nat) := (numAt t 1000000 0).bind fun p0 => (fun (x0 : Nat) (k1 : Nat) => (numAt t 100000 k1).bind fun p1 => (fun (x1 : Nat) (k2 : Nat) => (confAt t k2).bind fun p2 => (fun (x2 : List Int) (k3 : Nat) => (txtAt t k3).bind fun p3 => (fun (x3 : ByteArray) (k4 : Nat) => some (⟨x0, x1, x2, x3⟩, t, k4)) p3.1 p3.2) p2.1 p2.2) p1.1 p1.2) p0.1 p0.2
def snapAt (s : ByteArray) : Option (SnapD × ByteArray × Nat) := if snapSealed s = true then snapIn16 (s.extract 0 (s.size - 4)) else none
theorem readSnap_in16 (t : ByteArray) : readSnapIn t = (snapIn16 t).bind fun p => if p.2.2 = p.2.1.size then some p.1 else none := by
  unfold readSnapIn snapIn16 numAt confAt txtAt
  cases rv (t.data.toList.drop 0) with
  | none => rfl
  | some p0 =>
    obtain ⟨ix, c1⟩ := p0
    dsimp only
    by_cases hi : 1000000 < ix
    · rw [if_pos hi, if_neg (by omega)]; rfl
    · rw [if_neg hi, if_pos (by omega), Nat.zero_add]
      simp only [Option.bind_some]
      cases rv (t.data.toList.drop c1) with
      | none => rfl
      | some p1 =>
        obtain ⟨tm, c2⟩ := p1
        dsimp only
        by_cases hm : 100000 < tm
        · rw [if_pos hm, if_neg (by omega)]; rfl
        · rw [if_neg hm, if_pos (by omega)]
          simp only [Option.bind_some]
          cases rs t ((c1 + c2 : Nat) : Int) with
          | none => rfl
          | some p2 =>
            obtain ⟨x, y⟩ := p2
            simp only [Option.bind_some]
            by_cases hc : confOk (intsOf (t.extract x y).data.toList) = true
            · rw [if_pos hc, if_pos hc]
              simp only [Option.bind_some]
              cases rs t (y : Int) with
              | none => rfl
              | some p3 => rfl
            · rw [if_neg hc, if_neg hc]; rfl
theorem readSnap_at (s : ByteArray) : readSnap s = (snapAt s).bind fun p => if p.2.2 = p.2.1.size then some p.1 else none := by
  unfold readSnap snapAt
  split
  · exact readSnap_in16 _
  · rfl
def snapAtDid (o : Option (SnapD × ByteArray × Nat)) (b : Nat) (w : World) (e : Ending) (w' : World) : Prop := match o with
  | none => e = .panicked [misreadP] ∧ w.grownBy w' (some b)
  | some (d, t, k) => ∃ va vc, e = .returned (.agg #[.int .i64 d.ix, .int .i64 d.tm, .slice va d.conf.length vc, .string d.body]) ∧ w'.ownsRow w.heap.size 3 1 (.slice va d.conf.length vc) d.conf.length (intCells d.conf) ∧ RdIs w' b t k ∧ w.grownBy w' (some b)
theorem snapAt_fits {s t : ByteArray} {k : Nat} {d : SnapD} (hs : s.size ≤ 1048576) (h : snapAt s = some (d, t, k)) : t.size ≤ 1048576 ∧ k ≤ t.size := by
  unfold snapAt at h
  by_cases hq : snapSealed s = true
  · rw [if_pos hq] at h
    have hts : (s.extract 0 (s.size - 4)).size ≤ 1048576 := by rw [ByteArray.size_extract]; omega
    obtain ⟨t', ht'⟩ : ∃ t, s.extract 0 (s.size - 4) = t := ⟨_, rfl⟩
    rw [ht'] at h hts
    unfold snapIn16 at h
    have hk0 := Nat.zero_le t'.size
    cases h0 : numAt t' 1000000 0 with
    | none => rw [h0] at h; cases h
    | some p0 =>
    obtain ⟨x0, k1⟩ := p0
    have hk1 := (numAt_fits hk0 h0).2.2.2.1
    rw [h0] at h
    simp only [Option.bind_some] at h
    cases h1 : numAt t' 100000 k1 with
    | none => rw [h1] at h; cases h
    | some p1 =>
    obtain ⟨x1, k2⟩ := p1
    have hk2 := (numAt_fits hk1 h1).2.2.2.1
    rw [h1] at h
    simp only [Option.bind_some] at h
    cases h2 : confAt t' k2 with
    | none => rw [h2] at h; cases h
    | some p2 =>
    obtain ⟨x2, k3⟩ := p2
    have hk3 := confAt_fits hk2 h2
    rw [h2] at h
    simp only [Option.bind_some] at h
    cases h3 : txtAt t' k3 with
    | none => rw [h3] at h; cases h
    | some p3 =>
    obtain ⟨x3, k4⟩ := p3
    have hk4 := (txtAt_fits hk3 h3).2.2.1
    rw [h3] at h
    simp only [Option.bind_some] at h
    cases h
    exact ⟨hts, hk4⟩
  · rw [if_neg hq] at h
    cases h

set_option maxRecDepth 1000000 in
set_option maxHeartbeats 4000000 in
theorem snap_at (b : Nat) (s : ByteArray) (hs : s.size ≤ 1048576) (w : World) (hr : RdIs w b s 0) (ht : Steps w) :
    Calls Tryz.prog 33 #[.pointer (some ⟨b, 0, none⟩)] w fun e w' => snapAtDid (snapAt s) b w e w' := by
  have HT := hid ht
  have hX := below_more (Below.refl w.heap.size w) (.cells #[.int .i64 0, .int .i64 0, .slice none 0 0, .string ⟨#[]⟩] 29)
  have hb := BlockIs.lt hr
  have P0 : Hid (BlockIs (w.alloc (.cells #[.int .i64 0, .int .i64 0, .slice none 0 0, .string ⟨#[]⟩] 29)) w.heap.size 29 [.int .i64 0, .int .i64 0, .slice none 0 0, .string ⟨#[]⟩]) := heap_alloc_new w _
  have R0 : Hid (RdIs _ b s 0) := BlockIs.on hr hX hb
  have G0 := hid (grown_of_below hX (some b))
  have T0 := hid (steps_on ht hX)
  clear hX hr ht
  obtain ⟨w0, hw0⟩ : ∃ W, w.alloc (.cells #[.int .i64 0, .int .i64 0, .slice none 0 0, .string ⟨#[]⟩] 29) = W := ⟨_, rfl⟩
  rw [hw0] at P0 R0 G0 T0
  by_cases hu : Uns s ∧ s.size ≤ 20000
  rotate_left
  · have HR : Hid (snapAt s = none) := (show _ = _ by unfold snapAt; exact if_neg (fun q => hu (snapSealed_iff.1 q)))
    go_enter Tryz.func33, Tryz.ntmps33
    go_wp2_with fail
    refine (unseal_no b s 0 hs hu _ R0.out T0.out).mono ?_
    rintro e w1 ⟨rfl, hg⟩
    clear hw0
    go_wp2
    rw [HR.out]
    exact And.intro rfl (And.intro rfl (G0.out.trans hg))
  have HRS : Hid (snapAt s = snapIn16 (s.extract 0 (s.size - 4))) := (show _ = _ by unfold snapAt; exact if_pos (snapSealed_iff.2 hu))
  have hts : (s.extract 0 (s.size - 4)).size ≤ 1048576 := by rw [ByteArray.size_extract]; omega
  go_enter Tryz.func33, Tryz.ntmps33
  go_wp2_with fail
  refine (unseal_yes b s 0 hu.1 hu.2 _ R0.out T0.out).mono ?_
  rintro e w1 ⟨rfl, hr, hg⟩
  have P1 := hid (blk_grown P0.out hg (by omega))
  have R1 := hid hr
  have G1 := hid (G0.out.trans hg)
  clear hr hg P0 R0 G0 T0 hw0 hu hs HT
  obtain ⟨t, ht⟩ : ∃ t, s.extract 0 (s.size - 4) = t := ⟨_, rfl⟩
  rw [ht] at R1 HRS hts
  clear ht
  have hk0 := Nat.zero_le t.size
  go_wp2_with fail
  refine (number_at b t 0 1000000 hts hk0 _ R1.out _ rfl).mono ?_
  intro e w2 hd
  cases h0 : numAt t 1000000 0 with
  | none =>
    rw [h0] at hd
    obtain ⟨rfl, hg⟩ := hd
    have HR : Hid (snapAt s = none) := (show _ = _ by rw [HRS.out]; simp [snapIn16, h0])
    clear h0
    go_wp2
    rw [HR.out]
    exact And.intro rfl (And.intro rfl (G1.out.trans hg))
  | some p =>
  obtain ⟨x0, k1⟩ := p
  rw [h0] at hd
  obtain ⟨rfl, hr, hg⟩ := hd
  have hk1 : k1 ≤ t.size := (numAt_fits hk0 h0).2.2.2.1
  have P2 := hid (blk_grown P1.out hg (by omega))
  have R2 := hid hr
  have G2 := hid (G1.out.trans hg)
  have H0 := hid h0
  clear h0 hr hg P1 R1 G1
  go_wp2_with fail
  refine (number_at b t k1 100000 hts hk1 _ R2.out _ rfl).mono ?_
  intro e w3 hd
  cases h1 : numAt t 100000 k1 with
  | none =>
    rw [h1] at hd
    obtain ⟨rfl, hg⟩ := hd
    have HR : Hid (snapAt s = none) := (show _ = _ by rw [HRS.out]; simp [snapIn16, h1, H0.out])
    clear h1
    go_wp2
    rw [HR.out]
    exact And.intro rfl (And.intro rfl (G2.out.trans hg))
  | some p =>
  obtain ⟨x1, k2⟩ := p
  rw [h1] at hd
  obtain ⟨rfl, hr, hg⟩ := hd
  have hk2 : k2 ≤ t.size := (numAt_fits hk1 h1).2.2.2.1
  have P3 := hid (blk_grown P2.out hg (by omega))
  have R3 := hid hr
  have G3 := hid (G2.out.trans hg)
  have H1 := hid h1
  clear h1 hr hg P2 R2 G2
  go_wp2_with fail
  refine (conf_at b t k2 hts _ R3.out).mono ?_
  intro e w4 hd
  cases h2 : confAt t k2 with
  | none =>
    rw [h2] at hd
    obtain ⟨rfl, hg⟩ := hd
    have HR : Hid (snapAt s = none) := (show _ = _ by rw [HRS.out]; simp [snapIn16, h2, H0.out, H1.out])
    clear h2
    go_wp2
    rw [HR.out]
    exact And.intro rfl (And.intro rfl (G3.out.trans hg))
  | some p =>
  obtain ⟨x2, k3⟩ := p
  rw [h2] at hd
  obtain ⟨v, rfl, hro, hr, hg⟩ := hd
  obtain ⟨va, vc, rfl⟩ := row_shape hro
  have O4 := hid (row_down hro (show w.heap.size ≤ _ from G3.out.size))
  clear hro
  obtain ⟨nz, hnz⟩ : ∃ n, x2.length = n := ⟨_, rfl⟩
  have HNZ := hid hnz
  rw [hnz] at O4 ⊢
  clear hnz
  have hk3 : k3 ≤ t.size := confAt_fits hk2 h2
  have P4 := hid (blk_grown P3.out hg (by omega))
  have R4 := hid hr
  have G4 := hid (G3.out.trans hg)
  have H2 := hid h2
  clear h2 hr hg P3 R3 G3
  go_wp2_with fail
  refine (short_at b t k3 hts _ R4.out).mono ?_
  intro e w5 hd
  cases h3 : txtAt t k3 with
  | none =>
    rw [h3] at hd
    obtain ⟨rfl, hg⟩ := hd
    have HR : Hid (snapAt s = none) := (show _ = _ by rw [HRS.out]; simp [snapIn16, h3, H0.out, H1.out, H2.out])
    clear h3
    go_wp2
    rw [HR.out]
    exact And.intro rfl (And.intro rfl (G4.out.trans hg))
  | some p =>
  obtain ⟨x3, k4⟩ := p
  rw [h3] at hd
  obtain ⟨rfl, hr, hg⟩ := hd
  have O5 := hid (own_grown O4.out hg R4.out (by decide))
  clear O4
  have hk4 : k4 ≤ t.size := (txtAt_fits hk3 h3).2.2.1
  have P5 := hid (blk_grown P4.out hg (by omega))
  have R5 := hid hr
  have G5 := hid (G4.out.trans hg)
  have H3 := hid h3
  clear h3 hr hg P4 R4 G4
  have HR : Hid (snapAt s = some (⟨x0, x1, x2, x3⟩, t, k4)) := (show _ = _ by rw [HRS.out]; simp [snapIn16, H0.out, H1.out, H2.out, H3.out])
  have c0 := P5.out.cell (j := 0) rfl
  have f0 := P5.out.thaw 0
  have c1 := P5.out.cell (j := 1) rfl
  have f1 := P5.out.thaw 1
  have c2 := P5.out.cell (j := 2) rfl
  have f2 := P5.out.thaw 2
  have c3 := P5.out.cell (j := 3) rfl
  have f3 := P5.out.thaw 3
  go_wp2
  have PZ := ((((P5.out.set 0 (.int .i64 (x0 : Int))).set 1 (.int .i64 (x1 : Int))).set 2 (.slice va nz vc)).set 3 (.string x3))
  have d0 := PZ.cell (j := 0) rfl
  have d1 := PZ.cell (j := 1) rfl
  have d2 := PZ.cell (j := 2) rfl
  have d3 := PZ.cell (j := 3) rfl
  refine bodyPost_ret (v := .agg #[.int .i64 (x0 : Int), .int .i64 (x1 : Int), .slice va nz vc, .string x3]) (by simp [results, Tryz.results33, go_sem, d0, d1, d2, d3]) rfl ?_
  rw [HR.out, ← HNZ.out]
  have HO := (own_put (own_put (own_put (own_put O5.out P5.out (by decide) (j := 0) (u := .int .i64 (x0 : Int))) (P5.out.set 0 (.int .i64 (x0 : Int))) (by decide) (j := 1) (u := .int .i64 (x1 : Int))) ((P5.out.set 0 (.int .i64 (x0 : Int))).set 1 (.int .i64 (x1 : Int))) (by decide) (j := 2) (u := .slice va nz vc)) (((P5.out.set 0 (.int .i64 (x0 : Int))).set 1 (.int .i64 (x1 : Int))).set 2 (.slice va nz vc)) (by decide) (j := 3) (u := .string x3))
  skip
  refine ⟨va, vc, rfl, ?_, ?_, ?_⟩
  · show World.ownsRow _ _ _ _ _ x2.length _
    rw [HNZ.out]
    exact HO
  · rw [HNZ.out]; exact (BlockIs.far (BlockIs.far (BlockIs.far (BlockIs.far R5.out (b := w.heap.size) (j := 0) (by omega) (.int .i64 (x0 : Int))) (b := w.heap.size) (j := 1) (by omega) (.int .i64 (x1 : Int))) (b := w.heap.size) (j := 2) (by omega) (.slice va nz vc)) (b := w.heap.size) (j := 3) (by omega) (.string x3))
  · rw [HNZ.out]; exact (grown_put (grown_put (grown_put (grown_put G5.out (Nat.le_refl w.heap.size) (j := 0) (.int .i64 (x0 : Int))) (Nat.le_refl w.heap.size) (j := 1) (.int .i64 (x1 : Int))) (Nat.le_refl w.heap.size) (j := 2) (.slice va nz vc)) (Nat.le_refl w.heap.size) (j := 3) (.string x3))
end Go.Proofs.YtoanhjjigbjecaaGreatDoor
