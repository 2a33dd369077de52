/-
  The walks of laws.markActS, heldActS over a list of acts that the call's answer owns.
-/
import Derived.Test.YtbifkpkhpaellaaGreatDoorJoint1
import Derived.Test.YtbifkpkhpaellaaGreatDoorJoint30
import Derived.Test.YtbifkpkhpaellaaGreatDoorJoint28
import Derived.Test.YtbifkpkhpaellaaGreatDoorJoint4
import Derived.Test.YtbifkpkhpaellaaGreatDoorJoint7
import Derived.Lib.QuietBelow
namespace Go.Proofs.YtbifkpkhpaellaaGreatDoor
open Go.RowKit Go.Sort

theorem set_fourB (p : List Value) (a b c d x y z u : Value) (r : List Value) : ((((p ++ x :: y :: z :: u :: r).set p.length a).set (p.length + 1) b).set (p.length + 2) c).set (p.length + 3) d = p ++ a :: b :: c :: d :: r := by
  rw [List.set_append_right _ _ (Nat.le_refl _), List.set_append_right _ _ (by omega), List.set_append_right _ _ (by omega), List.set_append_right _ _ (by omega)]
  simp
def markB (m k : Nat) : ActD := ⟨((m + 4 * k : Nat) : Int), mtx (m + 4 * k + 1), mtx (m + 4 * k + 2), mtx (m + 4 * k + 3)⟩
def marksB (m n : Nat) : List ActD := (List.range n).map (markB m)
theorem marksB_length (m n : Nat) : (marksB m n).length = n := by simp [marksB]
theorem marksB_succ (m n : Nat) : marksB m (n + 1) = marksB m n ++ [markB m n] := by simp [marksB, List.range_succ]
def markedR (m k : Nat) (acts : List ActD) (r : List Value) : List Value := actCells (marksB m k) ++ (actCells (acts.drop k) ++ r)
theorem markedR_split (m k : Nat) (acts : List ActD) (r : List Value) (hk : k < acts.length) :
    markedR m k acts r = actCells (marksB m k) ++ .int .i64 acts[k].kind :: .string acts[k].name :: .string acts[k].text :: .string acts[k].to :: (actCells (acts.drop (k + 1)) ++ r) := by
  rw [markedR, List.drop_eq_getElem_cons hk]
  rfl
theorem markedR_step (m k : Nat) (acts : List ActD) (r : List Value) (hk : k < acts.length) :
    ((((markedR m k acts r).set (k * 4) (.int .i64 ((m + 4 * k : Nat) : Int))).set (k * 4 + 1) (.string (mtx (m + 4 * k + 1)))).set (k * 4 + 2) (.string (mtx (m + 4 * k + 2)))).set (k * 4 + 3) (.string (mtx (m + 4 * k + 3))) = markedR m (k + 1) acts r := by
  have e4 := set_fourB (actCells (marksB m k)) (.int .i64 ((m + 4 * k : Nat) : Int)) (.string (mtx (m + 4 * k + 1))) (.string (mtx (m + 4 * k + 2))) (.string (mtx (m + 4 * k + 3))) (.int .i64 acts[k].kind) (.string acts[k].name) (.string acts[k].text) (.string acts[k].to) (actCells (acts.drop (k + 1)) ++ r)
  rw [actCells_length, marksB_length] at e4
  rw [markedR_split m k acts r hk, e4, markedR, marksB_succ]
  simp [actCells, actEnc, markB]
theorem markedR_at (m k : Nat) (acts : List ActD) (r : List Value) (hk : k < acts.length) :
    (markedR m k acts r)[k * 4]? = some (.int .i64 acts[k].kind) ∧ (markedR m k acts r)[k * 4 + 1]? = some (.string acts[k].name) ∧ (markedR m k acts r)[k * 4 + 2]? = some (.string acts[k].text) ∧ (markedR m k acts r)[k * 4 + 3]? = some (.string acts[k].to) := by
  have hlen : (actCells (marksB m k)).length = k * 4 := by rw [actCells_length, marksB_length]
  rw [markedR_split m k acts r hk]
  refine ⟨?_, ?_, ?_, ?_⟩
  · rw [List.getElem?_append_right (by omega), hlen, Nat.sub_self]; rfl
  · rw [List.getElem?_append_right (by omega), hlen, show k * 4 + 1 - k * 4 = 1 by omega]; rfl
  · rw [List.getElem?_append_right (by omega), hlen, show k * 4 + 2 - k * 4 = 2 by omega]; rfl
  · rw [List.getElem?_append_right (by omega), hlen, show k * 4 + 3 - k * 4 = 3 by omega]; rfl

set_option maxRecDepth 1000000 in
set_option maxHeartbeats 1000000 in
theorem markActS_more (g : Nat) (acts : List ActD) (r : List Value) (cap m : Nat) (hm : m ≤ 10000000) (hl : acts.length ≤ 1048576) (w : World) (hb : BlockIs w g 57 (actCells acts ++ r)) :
    Calls Tryz.prog 13 #[.slice (some ⟨g, 0, none⟩) acts.length cap, .int .i64 m] w fun e w' => e = .returned (.int .i64 ((m + 4 * acts.length : Nat) : Int)) ∧ BlockIs w' g 57 (actCells (marksB m acts.length) ++ r) ∧ w.grownBy w' (some g) := by
  have HB := (show Hid (BlockIs w g 57 (markedR m 0 acts r)) from hb)
  clear hb
  go_enter Tryz.func13, Tryz.ntmps13
  go_wp2
  go_loopg [1, 5] acts.length (fun q y i wr => ∃ (k : Nat), k + q = acts.length ∧ i = .int .i64 k ∧ y = .int .i64 ((m + 4 * k : Nat) : Int) ∧ Hid (BlockIs wr g 57 (markedR m k acts r)) ∧ Hid (w.grownBy wr (some g)))
  case atStart => exact ⟨0, by omega, rfl, rfl, HB, World.grownBy.refl _ _⟩
  case round =>
    obtain ⟨k, hkg, rfl, rfl, FB, GR⟩ := hrel
    clear HB
    cases gk with
    | zero =>
      have hlt : ¬ (k : Int) < (acts.length : Int) := by omega
      obtain rfl : k = acts.length := by omega
      have FE : Hid (BlockIs wr g 57 (actCells (marksB m acts.length) ++ r)) := by
        have := FB.out
        rw [markedR, List.drop_length] at this
        exact this
      clear FB
      go_wp2
      go_ret
      exact ⟨rfl, FE.out, GR.out⟩
    | succ q =>
      have hlt : k < acts.length := by omega
      have hlt' : (k : Int) < (acts.length : Int) := by omega
      have hat := hid (markedR_at m k acts r hlt)
      have hstep := hid (markedR_step m k acts r hlt)
      have C1 := hid (fun w => markText_any (m + 4 * k + 1) (by omega) w)
      have C2 := hid (fun w => markText_any (m + 4 * k + 2) (by omega) w)
      have C3 := hid (fun w => markText_any (m + 4 * k + 3) (by omega) w)
      obtain ⟨K, hK⟩ : ∃ K, m + 4 * k = K := ⟨_, rfl⟩
      have hKl : K ≤ 20000000 := by omega
      rw [hK] at C1 C2 C3 hstep ⊢
      have x0 := FB.out.cell hat.out.1
      have f0 := FB.out.thaw (k * 4)
      have E0 := hid (FB.out.set (k * 4) (.int .i64 ((K : Nat) : Int)))
      have G0 := hid (GR.out.trans (grownBy_set _ g (k * 4) (.int .i64 ((K : Nat) : Int))))
      go_wp2_with fail
      refine (C1.out _).mono ?_
      rintro e w1 ⟨rfl, b1⟩
      have D1 := E0.out.on b1 E0.out.lt
      have G1 := hid (G0.out.trans (grown_of_below b1 (some g)))
      have x1 := D1.cell (set_other (v := .int .i64 ((K : Nat) : Int)) hat.out.2.1 (by omega))
      have f1 := D1.thaw (k * 4 + 1)
      have E1 := hid (D1.set (k * 4 + 1) (.string (mtx (K + 1))))
      clear b1 FB GR D1 E0 G0 x0 f0
      go_wp2_with fail
      refine (C2.out _).mono ?_
      rintro e w2 ⟨rfl, b2⟩
      have D2 := E1.out.on b2 E1.out.lt
      have G2 := hid ((G1.out.trans (grownBy_set _ g (k * 4 + 1) _)).trans (grown_of_below b2 (some g)))
      have x2 := D2.cell (set_other (v := .string (mtx (K + 1))) (set_other (v := .int .i64 ((K : Nat) : Int)) hat.out.2.2.1 (by omega)) (by omega))
      have f2 := D2.thaw (k * 4 + 2)
      have E2 := hid (D2.set (k * 4 + 2) (.string (mtx (K + 2))))
      clear b2 E1 D2 G1 x1 f1
      go_wp2_with fail
      refine (C3.out _).mono ?_
      rintro e w3 ⟨rfl, b3⟩
      have D3 := E2.out.on b3 E2.out.lt
      have G3 := hid (((G2.out.trans (grownBy_set _ g (k * 4 + 2) _)).trans (grown_of_below b3 (some g))).trans (grownBy_set _ g (k * 4 + 3) (.string (mtx (K + 3)))))
      have x3 := D3.cell (set_other (v := .string (mtx (K + 2))) (set_other (v := .string (mtx (K + 1))) (set_other (v := .int .i64 ((K : Nat) : Int)) hat.out.2.2.2 (by omega)) (by omega)) (by omega))
      have f3 := D3.thaw (k * 4 + 3)
      have E3 := hid (D3.set (k * 4 + 3) (.string (mtx (K + 3))))
      rw [hstep.out] at E3
      clear b3 E2 D3 G2 x2 f2 hat hstep C1 C2 C3
      go_wp2
      go_roundg q
      case measure => omega
      case rel => exact ⟨k + 1, by omega, by go_num, by rw [← show K + 4 = m + 4 * (k + 1) by omega]; go_num, E3, G3⟩

set_option maxRecDepth 1000000 in
theorem markActS_nil (va : Option Addr) (vc m : Nat) (w : World) : Calls Tryz.prog 13 #[.slice va 0 vc, .int .i64 m] w fun e w' => e = .returned (.int .i64 m) ∧ w' = w := by
  go_enter Tryz.func13, Tryz.ntmps13
  go_wp2
  go_loopg [1, 5] 0 (fun _ y i wr => wr = w ∧ i = .int .i64 0 ∧ y = .int .i64 m)
  case atStart => exact ⟨rfl, rfl, rfl⟩
  case round =>
    obtain ⟨rfl, rfl, rfl⟩ := hrel
    go_wp2
    go_ret
    exact ⟨rfl, rfl⟩
theorem OwnAt.acts {w : World} {A : List ActD} {va : Option Addr} {lo hi : Nat} (h : OwnAt w 57 (actCells A) A.length va lo hi) : ActsAt w va A := by
  rcases h with h | ⟨g, r, rfl, _, _, h⟩
  · intro h0
    exact absurd (List.length_eq_zero_iff.1 h) h0
  · exact actsAt_of h
theorem own_acts {w : World} {base cap : Nat} {va : Option Addr} {A : List ActD} (h : w.ownsRow base 57 4 (.slice va A.length cap) A.length (actCells A)) : OwnAt w 57 (actCells A) A.length va base w.heap.size := by
  rcases h.2 with ⟨hv, hn⟩ | ⟨g, cp, cur, hv, hgb, hh, hle, hmx, hsz, ht⟩
  · exact Or.inl hn
  · simp only [Value.slice.injEq] at hv
    obtain ⟨rfl, _, rfl⟩ := hv
    have hc : BlockIs w g 57 (actCells A ++ cur.toList.drop (A.length * 4)) := by
      unfold BlockIs
      rw [hh]
      have : actCells A ++ cur.toList.drop (A.length * 4) = cur.toList := by rw [← ht, List.take_append_drop]
      rw [this]
    exact Or.inr ⟨g, _, rfl, hgb, hc.lt, hc⟩
theorem markActS_own (va : Option Addr) (vc : Nat) (A : List ActD) (lo hi m : Nat) (hm : m ≤ 10000000) (hl : A.length ≤ 1048576) (w : World) (hw : lo ≤ w.heap.size) (h : OwnAt w 57 (actCells A) A.length va lo hi) :
    Calls Tryz.prog 13 #[.slice va A.length vc, .int .i64 m] w fun e w' => e = .returned (.int .i64 ((m + 4 * A.length : Nat) : Int)) ∧ ActsAt w' va (marksB m A.length) ∧ KeptBut lo hi w w' ∧ Below lo w w' := by
  rcases h with h | ⟨g, r, rfl, h1, h2, h3⟩
  · have e : A = [] := List.eq_nil_of_length_eq_zero h
    subst e
    refine (markActS_nil va vc m w).mono ?_
    rintro e w' ⟨rfl, rfl⟩
    exact ⟨rfl, fun h => absurd rfl h, fun _ _ _ _ h => h, Below.refl _ _⟩
  · refine (markActS_more g A r vc m hm hl w h3).mono ?_
    rintro e w' ⟨rfl, hr, hg⟩
    exact ⟨rfl, actsAt_of hr, fun j t cs hj hb => blk_grown hb hg (by omega), below_grown (Below.refl _ _) hg h1 hw⟩

set_option maxRecDepth 1000000 in
set_option maxHeartbeats 2000000 in
theorem heldActS_any (ao : Option Addr) (n cap m : Nat) (hm : m ≤ 10000000) (hl : n ≤ 1048576) (w : World) (ha : ActsAt w ao (marksB m n)) :
    Calls Tryz.prog 15 #[.slice ao n cap, .int .i64 m] w fun e w' => e = .returned (.int .i64 ((m + 4 * n : Nat) : Int)) ∧ Below w.heap.size w w' := by
  have HA := hid ha
  clear ha
  go_enter Tryz.func15, Tryz.ntmps15
  go_wp2
  go_loopg [1, 5] n (fun q y i wr => ∃ (k : Nat), k + q = n ∧ i = .int .i64 k ∧ y = .int .i64 ((m + 4 * k : Nat) : Int) ∧ Hid (Below w.heap.size w wr))
  case atStart => exact ⟨0, by omega, rfl, rfl, (show Below _ _ _ from Below.refl _ _)⟩
  case round =>
    obtain ⟨k, hkg, rfl, rfl, BR⟩ := hrel
    cases gk with
    | zero =>
      have hlt : ¬ (k : Int) < (n : Int) := by omega
      obtain rfl : k = n := by omega
      go_wp2
      go_ret
      exact ⟨rfl, BR.out⟩
    | succ q =>
      have hlt : k < n := by omega
      have hlt' : (k : Int) < (n : Int) := by omega
      have hkm : k < (marksB m n).length := by rw [marksB_length]; exact hlt
      have hne : marksB m n ≠ [] := by intro e; rw [e] at hkm; simp at hkm
      have hmk : (marksB m n)[k] = markB m k := by simp [marksB]
      obtain ⟨b, off, rfl, hc⟩ := HA.out.on BR.out hne
      obtain ⟨x0, x1, x2, x3⟩ := hc k hkm
      rw [hmk] at x0 x1 x2 x3
      simp only [markB] at x0 x1 x2 x3
      clear hmk hne hkm hc
      obtain ⟨K, hK⟩ : ∃ K, m + 4 * k = K := ⟨_, rfl⟩
      have hKl : K ≤ 20000000 := by omega
      rw [hK] at x0 x1 x2 x3 ⊢
      have X1 := cell_regrown x1
      have C1 := hid (fun d os => Calls.regrown_of (w := wr) (d := d) (os := os) (markText_any (K + 1) (by omega) _))
      go_wp2
      refine wp_region_quiet_below (by kernel_rfl) (by kernel_rfl) ?_
      repeat (first | go_big_quiet_step (first | (go_at_call 32; exact C1.out _ _) | fail) | quiet_step (first | (go_at_call 32; exact C1.out _ _) | fail))
      refine wpQuiet_nil ?_
      intro _ hw'
      obtain ⟨⟨dq, osq⟩, hw''⟩ := hw'
      subst hw''
      have b1 := below_regrown wr dq osq
      generalize grow (redrawn wr dq) osq = w1 at b1 ⊢
      have B1 := hid (below_via BR.out b1)
      have y2 := (b1.cell (p := ⟨b, off + k * 4 + 2, none⟩) (World.block_lt_of_cell? wr _ x2)).trans x2
      have y3 := (b1.cell (p := ⟨b, off + k * 4 + 3, none⟩) (World.block_lt_of_cell? wr _ x3)).trans x3
      clear x0 x1 x2 x3 X1 C1 b1 BR
      have Y2 := cell_regrown y2
      have C2 := hid (fun d os => Calls.regrown_of (w := w1) (d := d) (os := os) (markText_any (K + 2) (by omega) _))
      go_wp2
      refine wp_region_quiet_below (by kernel_rfl) (by kernel_rfl) ?_
      repeat (first | go_big_quiet_step (first | (go_at_call 32; exact C2.out _ _) | fail) | quiet_step (first | (go_at_call 32; exact C2.out _ _) | fail))
      refine wpQuiet_nil ?_
      intro _ hw'
      obtain ⟨⟨dq, osq⟩, hw''⟩ := hw'
      subst hw''
      have b2 := below_regrown w1 dq osq
      generalize grow (redrawn w1 dq) osq = w2 at b2 ⊢
      have B2 := hid (below_via B1.out b2)
      have z3 := (b2.cell (p := ⟨b, off + k * 4 + 3, none⟩) (World.block_lt_of_cell? w1 _ y3)).trans y3
      clear y2 y3 Y2 C2 b2 B1
      have Z3 := cell_regrown z3
      have C3 := hid (fun d os => Calls.regrown_of (w := w2) (d := d) (os := os) (markText_any (K + 3) (by omega) _))
      go_wp2
      refine wp_region_quiet_below (by kernel_rfl) (by kernel_rfl) ?_
      repeat (first | go_big_quiet_step (first | (go_at_call 32; exact C3.out _ _) | fail) | quiet_step (first | (go_at_call 32; exact C3.out _ _) | fail))
      refine wpQuiet_nil ?_
      intro _ hw'
      obtain ⟨⟨dq, osq⟩, hw''⟩ := hw'
      subst hw''
      have b3 := below_regrown w2 dq osq
      generalize grow (redrawn w2 dq) osq = w3 at b3 ⊢
      have B3 := hid (below_via B2.out b3)
      clear z3 Z3 C3 b3 B2
      go_wp2
      go_roundg q
      case measure => omega
      case rel => exact ⟨k + 1, by omega, by go_num, by rw [← show K + 4 = m + 4 * (k + 1) by omega]; go_num, B3⟩
end Go.Proofs.YtbifkpkhpaellaaGreatDoor
