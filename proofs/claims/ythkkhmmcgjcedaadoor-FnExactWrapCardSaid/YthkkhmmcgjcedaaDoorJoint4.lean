/-
  The walks of the law's own helpers over lists of texts: compared, marked, looked at again.
-/
import Derived.Test.YthkkhmmcgjcedaaDoorJoint3
namespace Go.Proofs.YthkkhmmcgjcedaaDoor
open Go.RowKit Go.Sort

set_option maxRecDepth 1000000 in
set_option maxHeartbeats 1000000 in
/-- two rows that hold the same texts are told to be alike -/
theorem eqStringS_same {base base' : Nat} {v v' : Value} {ts : List ByteArray} {w : World} (hl : ts.length ≤ 1000000) (h1 : w.ownsRow base 9 1 v ts.length (st ts)) (h2 : w.ownsRow base' 9 1 v' ts.length (st ts)) :
    Calls Tryd.prog 8 #[v, v'] w fun e w' => e = .returned (.bool true) ∧ Below w.heap.size w w' := by
  obtain ⟨_, a1, c1, rfl, f1⟩ := row_lie h1
  obtain ⟨_, a2, c2, rfl, f2⟩ := row_lie h2
  have F1 := (show Hid _ from f1)
  have F2 := (show Hid _ from f2)
  clear f1 f2 h1 h2
  go_enter Tryd.func8, Tryd.ntmps8
  go_wp2
  go_loopw [5] (fun i wr => ∃ (k nq : Nat), k ≤ ts.length ∧ i = .int .i64 k ∧ wr = w.drewN nq) (fun i _ => ts.length - (intOf i).toNat)
  case atStart => exact ⟨0, 0, Nat.zero_le _, rfl, rfl⟩
  case round =>
    obtain ⟨k, nq, hk, rfl, rfl⟩ := hrel
    by_cases hlt : k < ts.length
    · obtain ⟨g1, rfl, _, _, _, _, d1, _⟩ := F1.out (by omega)
      obtain ⟨g2, rfl, _, _, _, _, d2, _⟩ := F2.out (by omega)
      have e1 := d1 k _ (st_at ts k hlt)
      have e2 := d2 k _ (st_at ts k hlt)
      clear d1 d2
      go_wp2
      go_quiet (fail)
      go_wp2
      go_roundw
      case rel => exact ⟨k + 1, _, by omega, by go_num, rfl⟩
      case measure => simp [intOf]; omega
    · go_wp2
      go_ret
      exact ⟨rfl, below_drewN (Below.refl _ _) _⟩

/-- the first k texts are marks, the others as they were -/
def marked (m k : Nat) (ts : List ByteArray) : List ByteArray := (List.range k).map (fun i => mtx (m + i)) ++ ts.drop k

theorem marked_length (m k : Nat) (ts : List ByteArray) (h : k ≤ ts.length) : (marked m k ts).length = ts.length := by
  simp [marked]; omega
theorem marked_set (m k : Nat) (ts : List ByteArray) (h : k < ts.length) : (st (marked m k ts)).set k (.string (mtx (m + k))) = st (marked m (k + 1) ts) := by
  have e : ts.drop k = ts[k] :: ts.drop (k + 1) := List.drop_eq_getElem_cons h
  simp only [marked, st, e, List.map_append, List.map_cons]
  rw [List.set_append_right _ _ (by simp)]
  simp [List.range_succ]

set_option maxRecDepth 1000000 in
set_option maxHeartbeats 1000000 in
/-- a row is marked: only its own block is written -/
theorem markStringS_any {base : Nat} {v : Value} {ts : List ByteArray} {w : World} (m : Nat) (hm : m ≤ 1000000) (hl : ts.length ≤ 1000000) (h1 : w.ownsRow base 9 1 v ts.length (st ts)) :
    Calls Tryd.prog 9 #[v, .int .i64 m] w fun e w' => e = .returned (.int .i64 ((m + ts.length : Nat) : Int)) ∧ w'.ownsRow base 9 1 v ts.length (st (marked m ts.length ts)) ∧ w.grownBy w' v.ownBlock := by
  obtain ⟨_, a1, c1, hv, f1⟩ := row_lie h1
  have F1 := (show Hid _ from f1)
  clear f1
  subst hv
  go_enter Tryd.func9, Tryd.ntmps9
  go_wp2
  go_loopw [1, 5] (fun q i wr => ∃ (k : Nat), k ≤ ts.length ∧ i = .int .i64 k ∧ q = .int .i64 ((m + k : Nat) : Int) ∧ wr.ownsRow base 9 1 (.slice a1 ts.length c1) ts.length (st (marked m k ts)) ∧ w.grownBy wr (Value.slice a1 ts.length c1).ownBlock) (fun _ i _ => ts.length - (intOf i).toNat)
  case atStart => exact ⟨0, Nat.zero_le _, rfl, rfl, by simpa [marked] using h1, World.grownBy.refl _ _⟩
  case round =>
    obtain ⟨k, hk, rfl, rfl, hown, hgr⟩ := hrel
    by_cases hlt : k < ts.length
    · obtain ⟨g1, rfl, hbase, _, hcap, _, _, _⟩ := F1.out (by omega)
      go_wp2_with (go_at_call 19; refine (markText_any (m + k) (by omega) _).mono ?_; rintro e w2 ⟨rfl, hb2⟩; have hown2 := hown.kept (grown_of_below hb2 none) (Or.inr (by simp [Value.ownBlock])); obtain ⟨u0, hc0, hz0⟩ := at_row hown2 k hlt)
      have HO := (show Hid _ from ownsRow_set hown2 (g := g1) rfl k (.string (mtx (m + k))))
      have HG := (show Hid _ from (hgr.trans (grown_of_below hb2 _)).trans (grownBy_set w2 g1 k (.string (mtx (m + k)))))
      clear hown2 hown hgr hb2
      go_roundw
      case rel => exact ⟨k + 1, by omega, by go_num, by go_num, by rw [← marked_set m k ts hlt]; exact HO.out, HG.out⟩
      case measure => simp [intOf]; omega
    · have HE : Hid (k = ts.length) := by show _ = _; omega
      go_wp2
      go_ret
      exact ⟨ret_i64 (by have := HE.out; omega), by rw [HE.out] at hown; exact hown, hgr⟩

theorem marked_at (m k : Nat) (ts : List ByteArray) (h : k < ts.length) : (st (marked m ts.length ts))[k]? = some (.string (mtx (m + k))) := by
  simp [st, marked, h]

set_option maxRecDepth 1000000 in
set_option maxHeartbeats 1000000 in
/-- a row that is marked is found so -/
theorem heldStringS_any {base : Nat} {v : Value} {ts : List ByteArray} {w : World} (m : Nat) (hm : m ≤ 1000000) (hl : ts.length ≤ 1000000) (h1 : w.ownsRow base 9 1 v ts.length (st (marked m ts.length ts))) :
    Calls Tryd.prog 10 #[v, .int .i64 m] w fun e w' => e = .returned (.int .i64 ((m + ts.length : Nat) : Int)) ∧ Below w.heap.size w w' := by
  obtain ⟨_, a1, c1, hv, f1⟩ := row_lie h1
  have F1 := (show Hid _ from f1)
  clear f1 h1
  subst hv
  go_enter Tryd.func10, Tryd.ntmps10
  go_wp2
  go_loopw [1, 5] (fun q i wr => ∃ (k : Nat), k ≤ ts.length ∧ i = .int .i64 k ∧ q = .int .i64 ((m + k : Nat) : Int) ∧ Below w.heap.size w wr) (fun _ i _ => ts.length - (intOf i).toNat)
  case atStart => exact ⟨0, Nat.zero_le _, rfl, rfl, Below.refl _ _⟩
  case round =>
    obtain ⟨k, hk, rfl, rfl, hb⟩ := hrel
    by_cases hlt : k < ts.length
    · obtain ⟨g1, rfl, _, hg, hcap, _, hc, _⟩ := F1.out (by omega)
      have d1 : wr.cell? ⟨g1, k, none⟩ = some (.string (mtx (m + k))) := (hb.cell (p := ⟨g1, k, none⟩) hg).trans (hc k _ (marked_at m k ts hlt))
      have k1 := cell_regrown d1
      have cV : ∀ d os, Calls Tryd.prog 19 #[.int .i64 ((m : Int) + (k : Int))] (grow (redrawn wr d) os) fun e w'' => e = .returned (.string (mtx (m + k))) ∧ ∃ p : Regrown, w'' = grow (redrawn wr p.d) p.os := by
        intro d os
        have := Calls.regrown_of (markText_any (m + k) (by omega) (grow (redrawn wr d) os))
        rw [Int.natCast_add] at this
        exact this
      have CV := (show Hid _ from cV)
      clear hc cV
      go_wp2
      refine wp_region_quiet_below (by kernel_rfl) (by kernel_rfl) ?_
      repeat (first | go_big_quiet_step (exact CV.out _ _) | quiet_step (exact CV.out _ _))
      refine wpQuiet_nil ?_
      intro _ hw'
      obtain ⟨⟨dq, osq⟩, hw''⟩ := hw'
      subst hw''
      have hbq := below_regrown wr dq osq
      have HB := (show Hid _ from hb.trans (hbq.mono hb.size))
      clear hbq hb d1 k1
      go_wp2
      go_roundw
      case rel => exact ⟨k + 1, by omega, by go_num, by go_num, HB.out⟩
      case measure => simp [intOf]; omega
    · have HE : Hid (k = ts.length) := by show _ = _; omega
      go_wp2
      go_ret
      exact ⟨ret_i64 (by have := HE.out; omega), hb⟩
end Go.Proofs.YthkkhmmcgjcedaaDoor
