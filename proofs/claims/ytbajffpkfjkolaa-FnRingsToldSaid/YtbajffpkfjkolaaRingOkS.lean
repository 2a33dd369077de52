/-
  The walk of spec.RingOk: what a right ring is.
-/
import Derived.Test.YtbajffpkfjkolaaPlainRing
import Derived.Test.YtbajffpkfjkolaaInS
namespace Go.Proofs.Ytbajffpkfjkolaa
open Go.RowKit

theorem text_not_empty {t : ByteArray} (h : ¬ t = ByteArray.empty) : t.toList.isEmpty = false := by
  cases e : t.toList.isEmpty with
  | false => rfl
  | true =>
    have h0 : t.toList = [] := List.isEmpty_iff.1 e
    have h1 : t.data.toList = [] := by rw [← h0]; exact (ByteArray.toList_eq t).symm
    exact absurd (ByteArray.ext (by rw [← Array.toList_inj]; exact h1)) h
theorem slot_text_small {l : List SlotD} (h : ∀ f ∈ l, slotOne f ≤ 1048576) (p : Nat) (hp : p < l.length) : (l[p].text.size : Int) ≤ 1048576 := h l[p] (List.getElem_mem hp)
/-- where no round is: how many slots Head and Tail leave to the card, by numbers -/
theorem ring_rem {n h t : Nat} (hh : h < n) (ht : t < n) : ((h + n - t) % n = 0 ↔ h = t) ∧ ((h : Int) - t + n) % n = ((h + n - t) % n : Nat) := by
  have e : ((h : Int) - t + n) = ((h + n - t : Nat) : Int) := by omega
  refine ⟨?_, by rw [e]; rfl⟩
  by_cases hle : t ≤ h
  · rw [show h + n - t = (h - t) + n by omega, Nat.add_mod_right, Nat.mod_eq_of_lt (by omega)]
    omega
  · rw [Nat.mod_eq_of_lt (by omega)]
    omega

set_option maxRecDepth 1000000 in
set_option maxHeartbeats 1000000 in
theorem specRingOk_in (h t : Nat) (ao : Option Addr) (l : List SlotD) (cap : Nat) (hp : ringPlaces l h t) (hsm : ∀ f ∈ l, slotOne f ≤ 1048576) (w : World) (ha : SlotsAt w ao l) :
    Calls Try.prog 16 #[.agg #[.slice ao l.length cap, .int .i64 h, .int .i64 t]] w fun e w' => e = .returned (.bool (ringAll l h t l.length)) ∧ Below w.heap.size w w' := by
  have C := hid (fun x a b w => l01In_any x a b w)
  obtain ⟨⟨p0, p1⟩, ⟨p2, p3⟩, p4, p5⟩ := hp
  have q3 : h < l.length := by omega
  have q5 : t < l.length := by omega
  clear p2 p4
  have HSM := hid hsm
  clear hsm
  have HB := hid (below_more (Below.refl w.heap.size w) (.cells #[.slice ao l.length cap, .int .i64 h, .int .i64 t] 26))
  have HX := hid (show BlockIs (w.alloc (.cells #[.slice ao l.length cap, .int .i64 h, .int .i64 t] 26)) w.heap.size 26 [.slice ao l.length cap, .int .i64 h, .int .i64 t] from heap_alloc_new w _)
  have HA := hid (ha.on HB.out)
  obtain ⟨W0, hW0⟩ : ∃ W0, w.alloc (.cells #[.slice ao l.length cap, .int .i64 h, .int .i64 t] 26) = W0 := ⟨_, rfl⟩
  rw [hW0] at HB HX HA
  have x0 := HX.out.cell (j := 0) rfl
  have x1 := HX.out.cell (j := 1) rfl
  have x2 := HX.out.cell (j := 2) rfl
  obtain ⟨b, off, rfl, hc0⟩ := HA.out (by intro e; rw [e] at q3; simp at q3)
  obtain ⟨z0, _⟩ := hc0 h q3
  clear ha hc0
  obtain ⟨hQ0, hQ1⟩ := ring_rem q3 q5
  have e1 : within (l.length : Int) 1 8 = true := by simp [within]; omega
  have e2 : within (h : Int) 0 ((l.length : Int) - 1) = true := by simp [within]; omega
  have e3 : within (t : Int) 0 ((l.length : Int) - 1) = true := by simp [within]; omega
  have E1 := hid e1
  have E2 := hid e2
  have E3 := hid e3
  clear e1 e2 e3
  go_enter Try.func16, Try.ntmps16
  go_wp2_with fail
  refine (C.out _ _ _ _).mono ?_
  rintro e w1 ⟨rfl, hw⟩
  rw [hw, E1.out]; clear hw w1
  go_wp2_with fail
  refine (C.out _ _ _ _).mono ?_
  rintro e w1 ⟨rfl, hw⟩
  rw [hw, E2.out]; clear hw w1
  go_wp2_with fail
  refine (C.out _ _ _ _).mono ?_
  rintro e w1 ⟨rfl, hw⟩
  rw [hw, E3.out]; clear hw w1
  by_cases hht : h = t
  · by_cases hown : l[h].own = 1
    · have hQ1 : ((h : Int) - t + l.length) % l.length = 0 := by rw [hQ1, hQ0.2 hht]; rfl
      have HH : Hid (ringHeld l h t = l.length) := by show _ = _; unfold ringHeld; rw [if_pos ⟨hht, by subst hht; rw [slotAt_eq q3]; exact hown⟩]
      have hne : ¬ l = [] := by intro e; rw [e] at q3; simp at q3
      clear hQ0 hht
      go_wp2
      go_loopg [5] l.length (fun g i wr => ∃ (k : Nat), k + g = l.length ∧ i = .int .i64 k ∧ ringAll l h t k = true ∧ Hid (Below W0.heap.size W0 wr))
      case atStart => exact ⟨0, by omega, rfl, rfl, (show Below _ _ _ from Below.refl _ _)⟩
      case round =>
        obtain ⟨k, hkg, rfl, hall, BR⟩ := hrel
        have HBR := hid (HB.out.trans (BR.out.mono HB.out.size))
        cases gk with
        | zero =>
          have hlt : ¬ (k : Int) < (l.length : Int) := by omega
          obtain rfl : k = l.length := by omega
          have HALL := hid hall
          clear hall
          go_wp2
          go_ret
          exact ⟨by rw [HALL.out]; rfl, HBR.out⟩
        | succ g =>
          have hlt : k < l.length := by omega
          have hlt' : (k : Int) < (l.length : Int) := by omega
          have hlt2 : k < 8 := by omega
          have HX1 := HX.out.on BR.out HX.out.lt
          have x0 := HX1.cell (j := 0) rfl
          have x1 := HX1.cell (j := 1) rfl
          have x2 := HX1.cell (j := 2) rfl
          clear HX1
          obtain ⟨P, hP⟩ : ∃ P, (t + k) % l.length = P := ⟨_, rfl⟩
          have hPl : P < l.length := by rw [← hP]; exact Nat.mod_lt _ (by omega)
          have hP1 : ((t : Int) + (k : Int)) % (l.length : Int) = (P : Int) := by rw [← hP]; rfl
          obtain ⟨b1, off1, hbo, hc⟩ := HA.out.on BR.out (by intro e; rw [e] at hlt; simp at hlt)
          cases hbo
          obtain ⟨y0, y1⟩ := hc P hPl
          have HG : Hid (ringGood l h t k = if k < l.length then isPosted l[P] else isFree l[P]) := by
            unfold ringGood
            rw [HH.out, hP, slotAt_eq hPl]
            rfl
          have HS := hid (ringAll_succ l h t k)
          have HNO := hid (fun hg => ringAll_no (l := l) (h := h) (t := t) hlt hg)
          have HALL := hid hall
          have hPl' : (P : Int) < (l.length : Int) := by omega
          have hts := slot_text_small HSM.out P hPl
          have HBN := hid (fun o => below_more (Below.refl wr.heap.size wr) o)
          have HBD : Hid (∀ o, Below wr.heap.size wr (wr.alloc o).drew) := fun o => below_drewN (HBN.out o) 1
          have HX2 := HX.out.on (BR.out.trans ((HBN.out (.cells #[.int .i64 0, .string ⟨#[]⟩] 42)).mono BR.out.size)) HX.out.lt
          have xa0 := HX2.cell (j := 0) rfl
          have xa1 := HX2.cell (j := 1) rfl
          have xa2 := HX2.cell (j := 2) rfl
          have ya0 := ((HBN.out (.cells #[.int .i64 0, .string ⟨#[]⟩] 42)).cell (p := ⟨b, off + P * 2, none⟩) (World.block_lt_of_cell? wr _ y0)).trans y0
          have ya1 := ((HBN.out (.cells #[.int .i64 0, .string ⟨#[]⟩] 42)).cell (p := ⟨b, off + P * 2 + 1, none⟩) (World.block_lt_of_cell? wr _ y1)).trans y1
          clear hc hP hall HX2
          by_cases hk : (k : Int) < (l.length : Int)
          · have hk' : k < l.length := by omega
            have hge : ¬ (l.length : Int) ≤ (k : Int) := by omega
            by_cases ho : l[P].own = 1
            · obtain ⟨Z, hZ⟩ : ∃ Z, l[P].text.size = Z := ⟨_, rfl⟩
              have HZ := hid hZ
              rw [hZ] at hts
              go_wp2
              go_region
              all_goals
                go_wp2_with fail
                refine (C.out _ _ _ _).mono ?_
                rintro e w1 ⟨rfl, hw⟩
                rw [hw]; clear hw w1
                by_cases hz : 1 ≤ Z ∧ Z ≤ 100
                · have hwi : within (Z : Int) 1 100 = true := by simp [within]; omega
                  rw [hwi]
                  clear hwi
                  go_wp2
                  go_roundg g
                  case measure => omega
                  case rel => exact ⟨k + 1, by omega, by go_num, by rw [HS.out, HG.out, HALL.out, if_pos hk']; simp [isPosted, ho, HZ.out, hz], hid (BR.out.trans ((HBD.out _).mono BR.out.size))⟩
                · have hwi : within (Z : Int) 1 100 = false := by simp [within]; omega
                  rw [hwi]
                  clear hwi
                  go_wp2
                  go_ret
                  exact ⟨by rw [HNO.out (by rw [HG.out, if_pos hk']; simp [isPosted, ho, HZ.out]; omega)]; rfl, HBR.out.trans ((HBD.out _).mono HBR.out.size)⟩
            · go_wp2
              go_region
              all_goals
                go_wp2
                go_ret
                exact ⟨by rw [HNO.out (by rw [HG.out, if_pos hk']; simp [isPosted, ho])]; rfl, HBR.out.trans ((HBD.out _).mono HBR.out.size)⟩
          · exact absurd hlt' hk
    · have hown2 : (l[h].own == 1) = false := by simpa using hown
      have hQ1 : ((h : Int) - t + l.length) % l.length = 0 := by rw [hQ1, hQ0.2 hht]; rfl
      have HH : Hid (ringHeld l h t = 0) := by show _ = _; unfold ringHeld; rw [if_neg (fun x => hown (by have := x.2; subst hht; rw [slotAt_eq q3] at this; exact this))]; exact hQ0.2 hht
      have hne : ¬ l = [] := by intro e; rw [e] at q3; simp at q3
      clear hQ0 hht
      go_wp2
      go_loopg [5] l.length (fun g i wr => ∃ (k : Nat), k + g = l.length ∧ i = .int .i64 k ∧ ringAll l h t k = true ∧ Hid (Below W0.heap.size W0 wr))
      case atStart => exact ⟨0, by omega, rfl, rfl, (show Below _ _ _ from Below.refl _ _)⟩
      case round =>
        obtain ⟨k, hkg, rfl, hall, BR⟩ := hrel
        have HBR := hid (HB.out.trans (BR.out.mono HB.out.size))
        cases gk with
        | zero =>
          have hlt : ¬ (k : Int) < (l.length : Int) := by omega
          obtain rfl : k = l.length := by omega
          have HALL := hid hall
          clear hall
          go_wp2
          go_ret
          exact ⟨by rw [HALL.out]; rfl, HBR.out⟩
        | succ g =>
          have hlt : k < l.length := by omega
          have hlt' : (k : Int) < (l.length : Int) := by omega
          have hlt2 : k < 8 := by omega
          have HX1 := HX.out.on BR.out HX.out.lt
          have x0 := HX1.cell (j := 0) rfl
          have x1 := HX1.cell (j := 1) rfl
          have x2 := HX1.cell (j := 2) rfl
          clear HX1
          obtain ⟨P, hP⟩ : ∃ P, (t + k) % l.length = P := ⟨_, rfl⟩
          have hPl : P < l.length := by rw [← hP]; exact Nat.mod_lt _ (by omega)
          have hP1 : ((t : Int) + (k : Int)) % (l.length : Int) = (P : Int) := by rw [← hP]; rfl
          obtain ⟨b1, off1, hbo, hc⟩ := HA.out.on BR.out (by intro e; rw [e] at hlt; simp at hlt)
          cases hbo
          obtain ⟨y0, y1⟩ := hc P hPl
          have HG : Hid (ringGood l h t k = if k < 0 then isPosted l[P] else isFree l[P]) := by
            unfold ringGood
            rw [HH.out, hP, slotAt_eq hPl]
            rfl
          have HS := hid (ringAll_succ l h t k)
          have HNO := hid (fun hg => ringAll_no (l := l) (h := h) (t := t) hlt hg)
          have HALL := hid hall
          have hPl' : (P : Int) < (l.length : Int) := by omega
          have hts := slot_text_small HSM.out P hPl
          have HBN := hid (fun o => below_more (Below.refl wr.heap.size wr) o)
          have HBD : Hid (∀ o, Below wr.heap.size wr (wr.alloc o).drew) := fun o => below_drewN (HBN.out o) 1
          have HX2 := HX.out.on (BR.out.trans ((HBN.out (.cells #[.int .i64 0, .string ⟨#[]⟩] 42)).mono BR.out.size)) HX.out.lt
          have xa0 := HX2.cell (j := 0) rfl
          have xa1 := HX2.cell (j := 1) rfl
          have xa2 := HX2.cell (j := 2) rfl
          have ya0 := ((HBN.out (.cells #[.int .i64 0, .string ⟨#[]⟩] 42)).cell (p := ⟨b, off + P * 2, none⟩) (World.block_lt_of_cell? wr _ y0)).trans y0
          have ya1 := ((HBN.out (.cells #[.int .i64 0, .string ⟨#[]⟩] 42)).cell (p := ⟨b, off + P * 2 + 1, none⟩) (World.block_lt_of_cell? wr _ y1)).trans y1
          clear hc hP hall HX2
          by_cases hk : (k : Int) < (0 : Int)
          · exact absurd hk (by omega)
          · have hk' : ¬ k < 0 := by omega
            have hge : (0 : Int) ≤ (k : Int) := by omega
            by_cases ho : l[P].own = 0
            · by_cases hte : l[P].text = ByteArray.empty
              · have hts0 : l[P].text.size = 0 := by rw [hte]; rfl
                have HT0 := hid hts0
                have hem : l[P].text.toList.isEmpty = true := by rw [hte, ByteArray.toList_eq]; rfl
                clear hts0
                go_wp2
                go_region
                all_goals
                  go_wp2
                  go_roundg g
                  case measure => omega
                  case rel => exact ⟨k + 1, by omega, by go_num, by rw [HS.out, HG.out, HALL.out, if_neg hk']; simp [isFree, ho, HT0.out], hid (BR.out.trans ((HBD.out _).mono BR.out.size))⟩
              · have hem : l[P].text.toList.isEmpty = false := text_not_empty hte
                have HT0 : Hid (l[P].text.size ≠ 0) := fun h0 => hte (ByteArray.size_eq_zero_iff.1 h0)
                go_wp2
                go_region
                all_goals
                  go_wp2
                  go_ret
                  exact ⟨by rw [HNO.out (by rw [HG.out, if_neg hk']; simp [isFree, ho]; first | exact HT0.out | exact hte)]; rfl, HBR.out.trans ((HBD.out _).mono HBR.out.size)⟩
            · go_wp2
              go_region
              all_goals
                go_wp2
                go_ret
                exact ⟨by rw [HNO.out (by rw [HG.out, if_neg hk']; simp [isFree, ho])]; rfl, HBR.out.trans ((HBD.out _).mono HBR.out.size)⟩
  · obtain ⟨Q, hQ⟩ : ∃ Q, (h + l.length - t) % l.length = Q := ⟨_, rfl⟩
    rw [hQ] at hQ0 hQ1
    have hQne : ¬ (Q : Int) = 0 := fun e => hht (hQ0.1 (by omega))
    have HH : Hid (ringHeld l h t = Q) := by show _ = _; unfold ringHeld; rw [if_neg (fun x => hht x.1), hQ]
    have hne : ¬ l = [] := by intro e; rw [e] at q3; simp at q3
    clear hQ0
    go_wp2
    go_loopg [5] l.length (fun g i wr => ∃ (k : Nat), k + g = l.length ∧ i = .int .i64 k ∧ ringAll l h t k = true ∧ Hid (Below W0.heap.size W0 wr))
    case atStart => exact ⟨0, by omega, rfl, rfl, (show Below _ _ _ from Below.refl _ _)⟩
    case round =>
      obtain ⟨k, hkg, rfl, hall, BR⟩ := hrel
      have HBR := hid (HB.out.trans (BR.out.mono HB.out.size))
      cases gk with
      | zero =>
        have hlt : ¬ (k : Int) < (l.length : Int) := by omega
        obtain rfl : k = l.length := by omega
        have HALL := hid hall
        clear hall
        go_wp2
        go_ret
        exact ⟨by rw [HALL.out]; rfl, HBR.out⟩
      | succ g =>
        have hlt : k < l.length := by omega
        have hlt' : (k : Int) < (l.length : Int) := by omega
        have hlt2 : k < 8 := by omega
        have HX1 := HX.out.on BR.out HX.out.lt
        have x0 := HX1.cell (j := 0) rfl
        have x1 := HX1.cell (j := 1) rfl
        have x2 := HX1.cell (j := 2) rfl
        clear HX1
        obtain ⟨P, hP⟩ : ∃ P, (t + k) % l.length = P := ⟨_, rfl⟩
        have hPl : P < l.length := by rw [← hP]; exact Nat.mod_lt _ (by omega)
        have hP1 : ((t : Int) + (k : Int)) % (l.length : Int) = (P : Int) := by rw [← hP]; rfl
        obtain ⟨b1, off1, hbo, hc⟩ := HA.out.on BR.out (by intro e; rw [e] at hlt; simp at hlt)
        cases hbo
        obtain ⟨y0, y1⟩ := hc P hPl
        have HG : Hid (ringGood l h t k = if k < Q then isPosted l[P] else isFree l[P]) := by
          unfold ringGood
          rw [HH.out, hP, slotAt_eq hPl]
          rfl
        have HS := hid (ringAll_succ l h t k)
        have HNO := hid (fun hg => ringAll_no (l := l) (h := h) (t := t) hlt hg)
        have HALL := hid hall
        have hPl' : (P : Int) < (l.length : Int) := by omega
        have hts := slot_text_small HSM.out P hPl
        have HBN := hid (fun o => below_more (Below.refl wr.heap.size wr) o)
        have HBD : Hid (∀ o, Below wr.heap.size wr (wr.alloc o).drew) := fun o => below_drewN (HBN.out o) 1
        have HX2 := HX.out.on (BR.out.trans ((HBN.out (.cells #[.int .i64 0, .string ⟨#[]⟩] 42)).mono BR.out.size)) HX.out.lt
        have xa0 := HX2.cell (j := 0) rfl
        have xa1 := HX2.cell (j := 1) rfl
        have xa2 := HX2.cell (j := 2) rfl
        have ya0 := ((HBN.out (.cells #[.int .i64 0, .string ⟨#[]⟩] 42)).cell (p := ⟨b, off + P * 2, none⟩) (World.block_lt_of_cell? wr _ y0)).trans y0
        have ya1 := ((HBN.out (.cells #[.int .i64 0, .string ⟨#[]⟩] 42)).cell (p := ⟨b, off + P * 2 + 1, none⟩) (World.block_lt_of_cell? wr _ y1)).trans y1
        clear hc hP hall HX2
        by_cases hk : (k : Int) < (Q : Int)
        · have hk' : k < Q := by omega
          have hge : ¬ (Q : Int) ≤ (k : Int) := by omega
          by_cases ho : l[P].own = 1
          · obtain ⟨Z, hZ⟩ : ∃ Z, l[P].text.size = Z := ⟨_, rfl⟩
            have HZ := hid hZ
            rw [hZ] at hts
            go_wp2
            go_region
            all_goals
              go_wp2_with fail
              refine (C.out _ _ _ _).mono ?_
              rintro e w1 ⟨rfl, hw⟩
              rw [hw]; clear hw w1
              by_cases hz : 1 ≤ Z ∧ Z ≤ 100
              · have hwi : within (Z : Int) 1 100 = true := by simp [within]; omega
                rw [hwi]
                clear hwi
                go_wp2
                go_roundg g
                case measure => omega
                case rel => exact ⟨k + 1, by omega, by go_num, by rw [HS.out, HG.out, HALL.out, if_pos hk']; simp [isPosted, ho, HZ.out, hz], hid (BR.out.trans ((HBD.out _).mono BR.out.size))⟩
              · have hwi : within (Z : Int) 1 100 = false := by simp [within]; omega
                rw [hwi]
                clear hwi
                go_wp2
                go_ret
                exact ⟨by rw [HNO.out (by rw [HG.out, if_pos hk']; simp [isPosted, ho, HZ.out]; omega)]; rfl, HBR.out.trans ((HBD.out _).mono HBR.out.size)⟩
          · go_wp2
            go_region
            all_goals
              go_wp2
              go_ret
              exact ⟨by rw [HNO.out (by rw [HG.out, if_pos hk']; simp [isPosted, ho])]; rfl, HBR.out.trans ((HBD.out _).mono HBR.out.size)⟩
        · have hk' : ¬ k < Q := by omega
          have hge : (Q : Int) ≤ (k : Int) := by omega
          by_cases ho : l[P].own = 0
          · by_cases hte : l[P].text = ByteArray.empty
            · have hts0 : l[P].text.size = 0 := by rw [hte]; rfl
              have HT0 := hid hts0
              have hem : l[P].text.toList.isEmpty = true := by rw [hte, ByteArray.toList_eq]; rfl
              clear hts0
              go_wp2
              go_region
              all_goals
                go_wp2
                go_roundg g
                case measure => omega
                case rel => exact ⟨k + 1, by omega, by go_num, by rw [HS.out, HG.out, HALL.out, if_neg hk']; simp [isFree, ho, HT0.out], hid (BR.out.trans ((HBD.out _).mono BR.out.size))⟩
            · have hem : l[P].text.toList.isEmpty = false := text_not_empty hte
              have HT0 : Hid (l[P].text.size ≠ 0) := fun h0 => hte (ByteArray.size_eq_zero_iff.1 h0)
              go_wp2
              go_region
              all_goals
                go_wp2
                go_ret
                exact ⟨by rw [HNO.out (by rw [HG.out, if_neg hk']; simp [isFree, ho]; first | exact HT0.out | exact hte)]; rfl, HBR.out.trans ((HBD.out _).mono HBR.out.size)⟩
          · go_wp2
            go_region
            all_goals
              go_wp2
              go_ret
              exact ⟨by rw [HNO.out (by rw [HG.out, if_neg hk']; simp [isFree, ho])]; rfl, HBR.out.trans ((HBD.out _).mono HBR.out.size)⟩

set_option maxRecDepth 1000000 in
theorem specRingOk_any (s t : Int) (_hs : -9223372036854775808 ≤ s ∧ s ≤ 9223372036854775807) (_ht : -9223372036854775808 ≤ t ∧ t ≤ 9223372036854775807) (ao : Option Addr) (l : List SlotD) (cap : Nat) (hl : l.length ≤ 1048576) (hsm : ∀ f ∈ l, slotOne f ≤ 1048576) (w : World) (ha : SlotsAt w ao l) :
    Calls Try.prog 16 #[.agg #[.slice ao l.length cap, .int .i64 s, .int .i64 t]] w fun e w' => e = .returned (.bool (ringOk l s t)) ∧ Below w.heap.size w w' := by
  by_cases hp : ringPlaces l s t
  · obtain ⟨h, rfl⟩ := Int.eq_ofNat_of_zero_le hp.2.1.1
    obtain ⟨u, rfl⟩ := Int.eq_ofNat_of_zero_le hp.2.2.1
    rw [ringOk_in hp]
    exact specRingOk_in h u ao l cap hp hsm w ha
  · rw [ringOk_not hp]
    have C := hid (fun x a b w => l01In_any x a b w)
    have HB := hid (below_more (Below.refl w.heap.size w) (.cells #[.slice ao l.length cap, .int .i64 s, .int .i64 t] 26))
    have HX := hid (show BlockIs (w.alloc (.cells #[.slice ao l.length cap, .int .i64 s, .int .i64 t] 26)) w.heap.size 26 [.slice ao l.length cap, .int .i64 s, .int .i64 t] from heap_alloc_new w _)
    obtain ⟨W0, hW0⟩ : ∃ W0, w.alloc (.cells #[.slice ao l.length cap, .int .i64 s, .int .i64 t] 26) = W0 := ⟨_, rfl⟩
    rw [hW0] at HB HX
    have x0 := HX.out.cell (j := 0) rfl
    have x1 := HX.out.cell (j := 1) rfl
    have x2 := HX.out.cell (j := 2) rfl
    clear ha
    by_cases h1 : 1 ≤ l.length ∧ l.length ≤ 8
    · have E1 : Hid (within (l.length : Int) 1 8 = true) := by show _ = _; simp [within]; omega
      by_cases h2 : 0 ≤ s ∧ s < l.length
      · have E2 : Hid (within s 0 ((l.length : Int) - 1) = true) := by show _ = _; simp [within]; omega
        have E3 : Hid (within t 0 ((l.length : Int) - 1) = false) := by
          have h3 : ¬ (0 ≤ t ∧ t < l.length) := fun x => hp ⟨h1, h2, x⟩
          show _ = _
          simp [within]; omega
        go_enter Try.func16, Try.ntmps16
        go_wp2_with fail
        refine (C.out _ _ _ _).mono ?_
        rintro e w1 ⟨rfl, hw⟩
        rw [hw, E1.out]; clear hw w1
        go_wp2_with fail
        refine (C.out _ _ _ _).mono ?_
        rintro e w1 ⟨rfl, hw⟩
        rw [hw, E2.out]; clear hw w1
        go_wp2_with fail
        refine (C.out _ _ _ _).mono ?_
        rintro e w1 ⟨rfl, hw⟩
        rw [hw, E3.out]; clear hw w1
        go_wp2
        go_ret
        exact ⟨rfl, HB.out⟩
      · have E2 : Hid (within s 0 ((l.length : Int) - 1) = false) := by show _ = _; simp [within]; omega
        go_enter Try.func16, Try.ntmps16
        go_wp2_with fail
        refine (C.out _ _ _ _).mono ?_
        rintro e w1 ⟨rfl, hw⟩
        rw [hw, E1.out]; clear hw w1
        go_wp2_with fail
        refine (C.out _ _ _ _).mono ?_
        rintro e w1 ⟨rfl, hw⟩
        rw [hw, E2.out]; clear hw w1
        go_wp2
        go_ret
        exact ⟨rfl, HB.out⟩
    · have E1 : Hid (within (l.length : Int) 1 8 = false) := by show _ = _; simp [within]; omega
      go_enter Try.func16, Try.ntmps16
      go_wp2_with fail
      refine (C.out _ _ _ _).mono ?_
      rintro e w1 ⟨rfl, hw⟩
      rw [hw, E1.out]; clear hw w1
      go_wp2
      go_ret
      exact ⟨rfl, HB.out⟩
end Go.Proofs.Ytbajffpkfjkolaa
