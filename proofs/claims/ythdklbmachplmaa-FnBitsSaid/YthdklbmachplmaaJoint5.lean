/-
  The walk of spec.l11Whole: what is put together of bits, and whether it is whole.
-/
import Derived.Test.YthdklbmachplmaaJoint1
import Derived.Laws.Concat
import Derived.BigQuiet
import Derived.Lib.QuietBelow
import Derived.Deep.QuietTactic
import Derived.Deep.LoopGhost
import Derived.WalkSmall
import Derived.WalkKit
namespace Go.Proofs.Ythdklbmachplmaa
open Go.RowKit

set_option maxRecDepth 1000000 in
set_option maxHeartbeats 4000000 in
theorem l11Whole_any (e : BitD) (ta : Option Addr) (tc : Nat) (aa : Option Addr) (ac : Nat) (hg : GoodB e) (w : World) (h1 : ValsAt w ta (st e.texts)) (h2 : ValsAt w aa (intCells e.ats)) :
    Calls Try.prog 34 #[.agg #[.int .i64 e.src, .int .i64 e.ident, .slice ta e.texts.length tc, .slice aa e.ats.length ac, .int .i64 e.total, .int .i64 e.lim]] w fun e' w' => e' = .returned (.tuple #[.string (wholeS e), .bool (decide (0 < e.total) && decide (((wholeS e).size : Int) = e.total))]) ∧ Below w.heap.size w w' := by
  have bx := below_more (Below.refl w.heap.size w) (.cells #[.int .i64 e.src, .int .i64 e.ident, .slice ta e.texts.length tc, .slice aa e.ats.length ac, .int .i64 e.total, .int .i64 e.lim] 35)
  have hx : BlockIs (w.alloc (.cells #[.int .i64 e.src, .int .i64 e.ident, .slice ta e.texts.length tc, .slice aa e.ats.length ac, .int .i64 e.total, .int .i64 e.lim] 35)) w.heap.size 35 [.int .i64 e.src, .int .i64 e.ident, .slice ta e.texts.length tc, .slice aa e.ats.length ac, .int .i64 e.total, .int .i64 e.lim] := heap_alloc_new w _
  have HT := hid (h1.on bx)
  have HA := hid (h2.on bx)
  obtain ⟨W0, hW0⟩ : ∃ W, w.alloc (.cells #[.int .i64 e.src, .int .i64 e.ident, .slice ta e.texts.length tc, .slice aa e.ats.length ac, .int .i64 e.total, .int .i64 e.lim] 35) = W := ⟨_, rfl⟩
  rw [hW0] at bx hx HT HA
  have c2 := hx.cell (j := 2) rfl
  have c3 := hx.cell (j := 3) rfl
  have c4 := hx.cell (j := 4) rfl
  have B0 := hid bx
  have HG := hid hg
  have HL := hid hg.len
  have hfew := hg.few
  have hmost := hg.most
  clear bx hx h1 h2 hg
  obtain ⟨n, hn⟩ : ∃ n, e.ats.length = n := ⟨_, rfl⟩
  have HN := hid hn
  rw [hn] at c3 hfew HL hW0 ⊢
  have hw : Hid (iterW e (n + 1) ⟨#[]⟩ = wholeS e) := (show _ = _ by rw [← hn]; rfl)
  rw [HL.out] at c2 hW0 ⊢
  clear hn
  go_enter Try.func34, Try.ntmps34
  go_wp2
  go_loopg [4, 5] (n + 1) (fun q a b wr => ∃ (k : Nat) (s : ByteArray), k + q = n + 1 ∧ b = .int .i64 k ∧ a = .string s ∧ s.size ≤ 1200 ∧ Hid (iterW e q s = wholeS e) ∧ wr = W0)
  case atStart => exact ⟨0, ⟨#[]⟩, by omega, rfl, rfl, Nat.zero_le _, hw, rfl⟩
  case round =>
    obtain ⟨k, s, hkq, rfl, rfl, hs, HI, rfl⟩ := hrel
    clear hW0 hw
    cases gk with
    | zero =>
      have hk : ¬ (k : Int) ≤ (n : Int) := by omega
      have HE : Hid (s = wholeS e) := HI.out
      clear HI
      have c4r := cell_regrown c4
      by_cases t0 : (0 : Int) < e.total
      · by_cases t1 : (s.size : Int) = e.total
        · have HV : Hid ((decide (0 < e.total) && decide ((s.size : Int) = e.total)) = true) := (show _ = _ by simp [t0, t1])
          have t2 : decide ((s.size : Int) = e.total) = true := by simpa using t1
          have t3 : ((s.size : Int) == e.total) = true := by simpa using t1
          clear t1
          go_wp2
          refine wp_region_quiet_below (by kernel_rfl) (by kernel_rfl) ?_
          repeat (first | go_big_quiet_step (fail) | quiet_step (fail))
          refine wpQuiet_nil ?_
          intro _ hw'
          obtain ⟨⟨dq, osq⟩, hw''⟩ := hw'
          subst hw''
          have BL := hid (below_via B0.out (below_regrown wr dq osq))
          generalize Go.Sort.grow (redrawn wr dq) osq = w3 at BL ⊢
          go_wp2
          go_ret2
          exact ⟨by rw [← HE.out, HV.out]; rfl, BL.out⟩
        · have HV : Hid ((decide (0 < e.total) && decide ((s.size : Int) = e.total)) = false) := (show _ = _ by simp [t1])
          have t3 : ((s.size : Int) == e.total) = false := by simpa using t1
          go_wp2
          refine wp_region_quiet_below (by kernel_rfl) (by kernel_rfl) ?_
          repeat (first | go_big_quiet_step (fail) | quiet_step (fail))
          refine wpQuiet_nil ?_
          intro _ hw'
          obtain ⟨⟨dq, osq⟩, hw''⟩ := hw'
          subst hw''
          have BL := hid (below_via B0.out (below_regrown wr dq osq))
          generalize Go.Sort.grow (redrawn wr dq) osq = w3 at BL ⊢
          go_wp2
          go_ret2
          exact ⟨by rw [← HE.out, HV.out]; rfl, BL.out⟩
      · have HV : Hid ((decide (0 < e.total) && decide ((s.size : Int) = e.total)) = false) := (show _ = _ by simp [t0])
        have t4 : decide ((0 : Int) < e.total) = false := by simpa using t0
        go_wp2
        refine wp_region_quiet_below (by kernel_rfl) (by kernel_rfl) ?_
        repeat (first | go_big_quiet_step (fail) | quiet_step (fail))
        refine wpQuiet_nil ?_
        intro _ hw'
        obtain ⟨⟨dq, osq⟩, hw''⟩ := hw'
        subst hw''
        have BL := hid (below_via B0.out (below_regrown wr dq osq))
        generalize Go.Sort.grow (redrawn wr dq) osq = w3 at BL ⊢
        go_wp2
        go_ret2
        exact ⟨by rw [← HE.out, HV.out]; rfl, BL.out⟩
    | succ q =>
      have hk : (k : Int) ≤ (n : Int) := by omega
      by_cases hlt : (s.size : Int) < e.total
      · have HI2 : Hid (iterW e q (partW e s) = wholeS e) := (show _ = _ by have := HI.out; simp only [iterW, if_pos hlt] at this; exact this)
        clear HI
        go_wp2
        go_loopg [4, 6] n (fun r a b wx => (∃ j : Nat, j + r = n ∧ b = .int .i64 j ∧ a = .string s ∧ Hid (∀ i (hi : i < e.ats.length), i < j → e.ats[i] ≠ (s.size : Int)) ∧ wx = wr) ∨ (b = .int .i64 ((n : Int) + 1) ∧ a = .string (partW e s) ∧ wx = wr))
        case atStart => exact Or.inl ⟨0, by omega, rfl, rfl, fun i _ h => by omega, rfl⟩
        case round =>
          rcases hrel with ⟨j, hjr, rfl, rfl, HNO, rfl⟩ | ⟨rfl, rfl, rfl⟩
          · cases gk with
            | zero =>
              have hjn : ¬ (j : Int) < (n : Int) := by omega
              have HP : Hid (partW e s = s) := partW_none (firstAt_none_of fun i hi => HNO.out i hi (by have := HN.out; omega))
              go_wp2
              go_roundg q
              case measure => omega
              case rel => exact ⟨k + 1, s, by omega, by go_num, rfl, hs, by rw [← HP.out]; exact HI2, rfl⟩
            | succ r =>
              have hjn : (j : Int) < (n : Int) := by omega
              have hja : j < e.ats.length := by have := HN.out; omega
              have hjt : j < e.texts.length := by have := HL.out; omega
              obtain ⟨ab, ao, rfl, hac⟩ := HA.out (by intro h; have h9 := congrArg List.length h; rw [intCells_length] at h9; simp at h9; rw [h9] at hja; simp at hja)
              have ca := hac j (by rw [intCells_length]; exact hja)
              obtain ⟨tb, to, rfl, htc⟩ := HT.out (by intro h; have h9 := congrArg List.length h; rw [st_length] at h9; simp at h9; rw [h9] at hjt; simp at hjt)
              have ct := htc j (by rw [st_length]; exact hjt)
              have ea : (intCells e.ats)[j]'(by rw [intCells_length]; exact hja) = .int .i64 e.ats[j] := by simp [intCells]
              have et : (st e.texts)[j]'(by rw [st_length]; exact hjt) = .string e.texts[j] := by simp [st]
              rw [ea] at ca
              rw [et] at ct
              clear hac htc ea et
              obtain ⟨z, hz⟩ : ∃ z, e.ats[j] = z := ⟨_, rfl⟩
              obtain ⟨t, ht⟩ : ∃ t, e.texts[j] = t := ⟨_, rfl⟩
              have htb : textB e j = t := by rw [← ht]; simp [textB, hjt]
              have hts := textB_good HG.out hja
              rw [htb] at hts
              rw [hz] at ca
              rw [ht] at ct
              by_cases hzs : z = (s.size : Int)
              · have HP : Hid (partW e s = s ++ t) := (show _ = _ by rw [partW_some (firstAt_some_of hja (hz.trans hzs) fun i hi => HNO.out i (by omega) hi), htb])
                obtain ⟨U, hU⟩ : ∃ U, s ++ t = U := ⟨_, rfl⟩
                have hadd : ∀ w, (Op.stringOp .add s t).run Try.prog w = .ok (.string U) w := fun w => by rw [run_string_add_sum w _ _ (by omega), hU]
                have HU := hid hU
                subst hzs
                clear hz ht htb hU HNO
                go_wp2
                go_roundg 0
                case measure => omega
                case rel => exact Or.inr ⟨by go_num, by rw [HP.out, HU.out], rfl⟩
              · have hz2 : (z == (s.size : Int)) = false := by simpa using hzs
                have HNO2 : Hid (∀ i (hi : i < e.ats.length), i < j + 1 → e.ats[i] ≠ (s.size : Int)) := fun i hi h => by
                  by_cases hij : i = j
                  · subst hij; rw [hz]; exact hzs
                  · exact HNO.out i hi (by omega)
                clear hz ht htb HNO
                go_wp2
                go_roundg r
                case measure => omega
                case rel => exact Or.inl ⟨j + 1, by omega, by go_num, rfl, HNO2, rfl⟩
          · have hpz := partW_size HG.out s
            obtain ⟨U, hU⟩ : ∃ U, partW e s = U := ⟨_, rfl⟩
            rw [hU] at hpz HI2 ⊢
            clear hU
            go_wp2
            go_roundg q
            case measure => omega
            case rel => exact ⟨k + 1, U, by omega, by go_num, rfl, by omega, HI2, rfl⟩
      · have HE : Hid (s = wholeS e) := (show _ = _ by have := HI.out; simp only [iterW, if_neg hlt] at this; exact this)
        clear HI
        have c4r := cell_regrown c4
        by_cases t0 : (0 : Int) < e.total
        · by_cases t1 : (s.size : Int) = e.total
          · have HV : Hid ((decide (0 < e.total) && decide ((s.size : Int) = e.total)) = true) := (show _ = _ by simp [t0, t1])
            have t2 : decide ((s.size : Int) = e.total) = true := by simpa using t1
            have t3 : ((s.size : Int) == e.total) = true := by simpa using t1
            clear t1
            go_wp2
            refine wp_region_quiet_below (by kernel_rfl) (by kernel_rfl) ?_
            repeat (first | go_big_quiet_step (fail) | quiet_step (fail))
            refine wpQuiet_nil ?_
            intro _ hw'
            obtain ⟨⟨dq, osq⟩, hw''⟩ := hw'
            subst hw''
            have BL := hid (below_via B0.out (below_regrown wr dq osq))
            generalize Go.Sort.grow (redrawn wr dq) osq = w3 at BL ⊢
            go_wp2
            go_ret2
            exact ⟨by rw [← HE.out, HV.out]; rfl, BL.out⟩
          · have HV : Hid ((decide (0 < e.total) && decide ((s.size : Int) = e.total)) = false) := (show _ = _ by simp [t1])
            have t3 : ((s.size : Int) == e.total) = false := by simpa using t1
            go_wp2
            refine wp_region_quiet_below (by kernel_rfl) (by kernel_rfl) ?_
            repeat (first | go_big_quiet_step (fail) | quiet_step (fail))
            refine wpQuiet_nil ?_
            intro _ hw'
            obtain ⟨⟨dq, osq⟩, hw''⟩ := hw'
            subst hw''
            have BL := hid (below_via B0.out (below_regrown wr dq osq))
            generalize Go.Sort.grow (redrawn wr dq) osq = w3 at BL ⊢
            go_wp2
            go_ret2
            exact ⟨by rw [← HE.out, HV.out]; rfl, BL.out⟩
        · have HV : Hid ((decide (0 < e.total) && decide ((s.size : Int) = e.total)) = false) := (show _ = _ by simp [t0])
          have t4 : decide ((0 : Int) < e.total) = false := by simpa using t0
          go_wp2
          refine wp_region_quiet_below (by kernel_rfl) (by kernel_rfl) ?_
          repeat (first | go_big_quiet_step (fail) | quiet_step (fail))
          refine wpQuiet_nil ?_
          intro _ hw'
          obtain ⟨⟨dq, osq⟩, hw''⟩ := hw'
          subst hw''
          have BL := hid (below_via B0.out (below_regrown wr dq osq))
          generalize Go.Sort.grow (redrawn wr dq) osq = w3 at BL ⊢
          go_wp2
          go_ret2
          exact ⟨by rw [← HE.out, HV.out]; rfl, BL.out⟩
end Go.Proofs.Ythdklbmachplmaa
