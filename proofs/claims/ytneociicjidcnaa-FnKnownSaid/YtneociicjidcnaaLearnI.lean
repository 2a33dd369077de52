/-
  The walk of impl.Learn: what it answers.
-/
import Derived.Test.YtneociicjidcnaaLearnDid
import Derived.Test.YtneociicjidcnaaAddrI
namespace Go.Proofs.Ytneociicjidcnaa
open Go.RowKit

set_option maxRecDepth 1000000 in
set_option maxHeartbeats 4000000 in
theorem implLearn_any (ao : Option Addr) (l : List KnownD) (cap : Nat) (a c : Int) (hl : l.length ≤ 1048576) (w : World) (ha : KnownsAt w ao l) :
    Calls Try.prog 8 #[.slice ao l.length cap, .int .i64 a, .int .i64 c] w fun e w' => LearnDid (learn l a c) w e w' := by
  have HA := hid ha
  have hb0 := below_more (Below.refl w.heap.size w) (.cells #[] 30)
  have hr0 := knownR_nil w w.heap.size (Nat.le_refl _)
  obtain ⟨W0, hW0⟩ : ∃ W0, w.alloc (.cells #[] 30) = W0 := ⟨_, rfl⟩
  rw [hW0] at hb0 hr0
  have B0 := hid hb0
  have R0 := hid hr0
  have hbs : w.heap.size ≤ W0.heap.size := hb0.size
  clear hb0 hr0 ha
  have m0 := fun w => isAddress_any a w
  have m1 := fun w => isAddress_any c w
  have no : Hid (learn l a c = l → (within a 1 99 = false ∨ (within a 1 99 = true ∧ within c 1 99 = false)) → Calls Try.prog 8 #[.slice ao l.length cap, .int .i64 a, .int .i64 c] w fun e w' => LearnDid (learn l a c) w e w') := by
    intro hno hor
    rw [hno]
    have HAW := HA.out.on B0.out
    have hR := R0.out
    clear hno
    rcases hor with h0 | ⟨h0, h1⟩
    · rw [h0] at m0
      have n0 := hid m0
      clear m0 m1 h0
      go_enter Try.func8, Try.ntmps8
      go_wp2_with (first | (go_at_call 23; with_reducible refine Calls.mono (n0.out _) ?_; rintro e w1 ⟨rfl, hw⟩; rw [hw]; clear hw w1) | (at_builtin; refine wpList_append_knowns rfl (.tmp 18) (.tmp 19) rfl rfl (base := w.heap.size) (L := []) (M := l) (N := l.length) rfl rfl rfl (by simp) (by omega) hbs hR HAW ?_))
      intro va vc w1 hrow hgr
      have hb1 := knownR_down B0.out R0.out hgr (Nat.le_refl _) hbs
      go_wp2
      go_ret
      exact ⟨va, vc, rfl, by simpa using row_cap hrow, off_of_row (by simpa using hrow), hb1⟩
    · rw [h0] at m0
      rw [h1] at m1
      have n0 := hid m0
      have n1 := hid m1
      clear m0 m1 h0 h1
      go_enter Try.func8, Try.ntmps8
      go_wp2_with (first | (go_at_call 23; with_reducible refine Calls.mono (n0.out _) ?_; rintro e w1 ⟨rfl, hw⟩; rw [hw]; clear hw w1) | (go_at_call 23; with_reducible refine Calls.mono (n1.out _) ?_; rintro e w1 ⟨rfl, hw⟩; rw [hw]; clear hw w1) | (at_builtin; refine wpList_append_knowns rfl (.tmp 18) (.tmp 19) rfl rfl (base := w.heap.size) (L := []) (M := l) (N := l.length) rfl rfl rfl (by simp) (by omega) hbs hR HAW ?_))
      intro va vc w1 hrow hgr
      have hb1 := knownR_down B0.out R0.out hgr (Nat.le_refl _) hbs
      go_wp2
      go_ret
      exact ⟨va, vc, rfl, by simpa using row_cap hrow, off_of_row (by simpa using hrow), hb1⟩
  cases h0 : within a 1 99 with
  | false => exact no.out (learn_no (Or.inl h0)) (Or.inl h0)
  | true =>
    cases h1 : within c 1 99 with
    | false => exact no.out (learn_no (Or.inr h1)) (Or.inr ⟨h0, h1⟩)
    | true =>
      rw [learn_yes h0 h1]
      rw [h0] at m0
      rw [h1] at m1
      have n0 := hid m0
      have n1 := hid m1
      clear m0 m1 h0 h1 no
      go_enter Try.func8, Try.ntmps8
      go_wp2_with (first | (go_at_call 23; with_reducible refine Calls.mono (n0.out _) ?_; rintro e w1 ⟨rfl, hw⟩; rw [hw]; clear hw w1) | (go_at_call 23; with_reducible refine Calls.mono (n1.out _) ?_; rintro e w1 ⟨rfl, hw⟩; rw [hw]; clear hw w1))
      go_loopg [7, 24] l.length (fun g v i wr => ∃ (k : Nat), k + g = l.length ∧ i = .int .i64 k ∧ ∃ va vc, v = .slice va (others (l.take k) a).length vc ∧ Hid (Below w.heap.size w wr) ∧ Hid (wr.ownsRow w.heap.size 30 2 (.slice va (others (l.take k) a).length vc) (others (l.take k) a).length (knownCells (others (l.take k) a))))
      case atStart => exact ⟨0, by omega, rfl, _, _, rfl, B0, R0⟩
      case round =>
        obtain ⟨k, hkg, rfl, va, vc, rfl, BR, RR⟩ := hrel
        clear B0 R0 hW0
        have hol := others_length (l.take k) a
        rw [List.length_take] at hol
        have hwz : w.heap.size ≤ wr.heap.size := BR.out.size
        cases gk with
        | zero =>
          have hlt : ¬ (k : Int) < (l.length : Int) := by omega
          rw [List.take_of_length_le (show l.length ≤ k by omega)] at RR hol ⊢
          obtain ⟨L, hL⟩ : ∃ L, others l a = L := ⟨_, rfl⟩
          have HLD : Hid (learned l a c = L ++ [⟨a, c⟩]) := by show _ = _; rw [learned, hL]
          rw [hL] at RR hol ⊢
          clear hL
          obtain ⟨i0, hi, hz0, hz1, hz2⟩ := info_parts toKnown_info
          have hnew := knownR_new wr ⟨a, c⟩
          have hone := knownR_one ⟨a, c⟩
          have bb := below_more (Below.refl wr.heap.size wr) (.cells #[.int .i64 (⟨a, c⟩ : KnownD).addr, .int .i64 (⟨a, c⟩ : KnownD).card] 30)
          have B3 := hid (below_via BR.out bb)
          have hrow := knownR_below RR.out bb
          have hbase : w.heap.size ≤ (wr.alloc (.cells #[.int .i64 (⟨a, c⟩ : KnownD).addr, .int .i64 (⟨a, c⟩ : KnownD).card] 30)).heap.size := B3.out.size
          clear bb BR RR
          go_wp2_with (at_builtin; refine wpList_append_own _ rfl (.tmp 37) (.tmp 41) 26 rfl w.heap.size 30 i0 _ 2 16 Try.underlying26 hi hz0 hz1 hz2 rfl (by decide) _ _ _ rfl hrow ⟨wr.heap.size, 0, none⟩ 1 1 (knownEnc ⟨a, c⟩) rfl rfl hnew hone (by unfold maxLen; omega) (by omega) hbase ?_)
          intro v' w4 hown hgrow _
          obtain ⟨va', vc', rfl⟩ := row_shape hown
          rw [← knownR_snoc] at hown
          have B4 := hid (knownR_down B3.out hrow hgrow (Nat.le_refl _) hbase)
          obtain ⟨M, hM⟩ : ∃ M, L ++ [⟨a, c⟩] = M := ⟨_, rfl⟩
          have hML : M.length = L.length + 1 := by rw [← hM]; simp
          rw [hM] at hown HLD
          rw [← hML] at hown ⊢
          have R4 := hid hown
          have hm2 : M.length ≤ 1048577 := by omega
          have hm1 : 1 ≤ M.length := by omega
          clear hM hML hown hgrow hrow hbase B3 hnew hone hol
          obtain ⟨g, rfl, hc1, hc2, hoff⟩ := own_rest (k := M.length - 4) (by omega) R4.out
          have hdl : (M.drop (M.length - 4)).length = M.length - (M.length - 4) := List.length_drop
          rw [← hdl] at hoff
          change OwnOff w4 30 (knownCells (lastFour M)) (lastFour M).length _ _ _ at hoff
          change (lastFour M).length = _ at hdl
          have HO := hid hoff
          have HD := hid hdl
          unfold maxLen at hc2
          clear hoff hdl R4
          by_cases h4 : (M.length : Int) - 4 < 0
          · have hk0 : M.length - 4 = 0 := by omega
            rw [hk0] at HO HD
            go_wp2
            go_ret
            rw [HLD.out]
            have hl4 : (lastFour M).length = M.length := by have := HD.out; omega
            refine ⟨some ⟨g, 0, none⟩, _, by rw [hl4]; rfl, by omega, ?_, B4.out⟩
            have := HO.out
            rw [Nat.zero_mul] at this
            exact this
          · obtain ⟨m, hm⟩ : ∃ m, M.length = m + 4 := ⟨M.length - 4, by omega⟩
            have hmk : M.length - 4 = m := by omega
            rw [hmk] at HO HD
            go_wp2
            go_ret
            rw [HLD.out]
            have hl4 : (lastFour M).length = 4 := by have := HD.out; omega
            exact ⟨some ⟨g, m * 2, none⟩, vc' - m, by rw [hl4]; rfl, by omega, HO.out, B4.out⟩
        | succ q =>
          have hlt : k < l.length := by omega
          have hlt' : (k : Int) < (l.length : Int) := by omega
          have hne : l ≠ [] := by intro e; rw [e] at hlt; simp at hlt
          have HST := hid (others_take l a k hlt)
          obtain ⟨b, off, rfl, hc⟩ := HA.out.on BR.out hne
          obtain ⟨x0, x1⟩ := hc k hlt
          clear hc
          obtain ⟨L, hL⟩ : ∃ L, others (l.take k) a = L := ⟨_, rfl⟩
          rw [hL] at RR HST hol ⊢
          clear hL
          have BX := hid (fun o => below_more BR.out o)
          have RX := hid (fun o => knownR_below RR.out (below_more (Below.refl wr.heap.size wr) o))
          by_cases he : l[k].addr = a
          · rw [if_pos he, List.append_nil] at HST
            go_wp2
            go_roundg q
            case measure => omega
            case rel => exact ⟨k + 1, by omega, by go_num, va, vc, by rw [HST.out], BX.out _, by rw [HST.out]; exact RX.out _⟩
          · rw [if_neg he] at HST
            obtain ⟨i0, hi, hz0, hz1, hz2⟩ := info_parts toKnown_info
            have hxw : BlockIs (wr.alloc (.cells #[.int .i64 l[k].addr, .int .i64 l[k].card] 30)) wr.heap.size 30 [.int .i64 l[k].addr, .int .i64 l[k].card] := heap_alloc_new wr _
            have bx := BX.out (.cells #[.int .i64 l[k].addr, .int .i64 l[k].card] 30)
            have rx := RX.out (.cells #[.int .i64 l[k].addr, .int .i64 l[k].card] 30)
            obtain ⟨W1, hW1⟩ : ∃ W, wr.alloc (.cells #[.int .i64 l[k].addr, .int .i64 l[k].card] 30) = W := ⟨_, rfl⟩
            rw [hW1] at hxw bx rx
            have y0 := hxw.cell (j := 0) rfl
            have y1 := hxw.cell (j := 1) rfl
            have hnew := knownR_new W1 l[k]
            have hone := knownR_one l[k]
            have bb := below_more (Below.refl W1.heap.size W1) (.cells #[.int .i64 l[k].addr, .int .i64 l[k].card] 30)
            have B3 := hid (below_via bx bb)
            have hrow := knownR_below rx bb
            have hbase : w.heap.size ≤ (W1.alloc (.cells #[.int .i64 l[k].addr, .int .i64 l[k].card] 30)).heap.size := B3.out.size
            clear bb BR RR BX RX hxw bx rx
            go_wp2_with (at_builtin; refine wpList_append_own _ rfl (.tmp 32) (.tmp 34) 26 rfl w.heap.size 30 i0 _ 2 16 Try.underlying26 hi hz0 hz1 hz2 rfl (by decide) _ _ _ rfl hrow ⟨W1.heap.size, 0, none⟩ 1 1 (knownEnc l[k]) rfl rfl hnew hone (by unfold maxLen; omega) (by omega) hbase ?_)
            intro v' w4 hown hgrow _
            obtain ⟨va', vc', rfl⟩ := row_shape hown
            rw [← knownR_snoc] at hown
            have B4 := hid (knownR_down B3.out hrow hgrow (Nat.le_refl _) hbase)
            have R4 := hid hown
            have HL2 : Hid ((L ++ [l[k]]).length = L.length + 1) := by show _ = _; simp
            clear hown hgrow hrow hbase B3 hnew hone y0 y1 hW1
            go_wp2
            go_roundg q
            case measure => omega
            case rel =>
              refine ⟨k + 1, by omega, by go_num, va', vc', by rw [HST.out, HL2.out], B4, ?_⟩
              rw [HST.out, HL2.out]
              exact R4
end Go.Proofs.Ytneociicjidcnaa
