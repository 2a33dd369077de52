/-
  The walks of impl.entriesBehind, impl.copiedEntries: the entries behind an index, and a copy of entries in memory of its own.
-/
import Derived.Test.YtglibbpigmpanaaJoint1
import Derived.OwnWalk
import Derived.Test.YtglibbpigmpanaaJoint26
import Derived.Laws.CopyOwn
namespace Go.Proofs.Ytglibbpigmpanaa
open Go.RowKit

set_option maxRecDepth 1000000 in
set_option maxHeartbeats 1000000 in
theorem entriesBehind_any (s t i : Int) (k : Nat) (ao : Option Addr) (l : List EntD) (cap : Nat) (hik : i - s = (k : Int)) (hk : k ≤ l.length) (hl : l.length ≤ 1048576) (hcap : l.length ≤ cap) (w : World) (ha : EntsAt w ao l) :
    Calls Try.prog 60 #[.agg #[.int .i64 s, .int .i64 t, .slice ao l.length cap], .int .i64 i] w fun e w' => ∃ vo, e = .returned (.slice vo (l.drop k).length (l.drop k).length) ∧ EntsAt w' vo (l.drop k) ∧ Below w.heap.size w w' := by
  have HB := hid (below_more (Below.refl w.heap.size w) (.cells #[.int .i64 s, .int .i64 t, .slice ao l.length cap] 32))
  have hx : BlockIs (w.alloc (.cells #[.int .i64 s, .int .i64 t, .slice ao l.length cap] 32)) w.heap.size 32 [.int .i64 s, .int .i64 t, .slice ao l.length cap] := heap_alloc_new w _
  have hE := hid (ha.on HB.out)
  obtain ⟨W, hW⟩ : ∃ W, w.alloc (.cells #[.int .i64 s, .int .i64 t, .slice ao l.length cap] 32) = W := ⟨_, rfl⟩
  rw [hW] at HB hx hE
  have c0 := hx.cell (j := 0) rfl
  have c2 := hx.cell (j := 2) rfl
  clear hx ha
  have hlen : (l.drop k).length = l.length - k := by simp
  rw [hlen]
  by_cases hkl : k = l.length
  · have hnil : l.drop k = [] := List.length_eq_zero_iff.1 (by omega)
    rw [hnil, show l.length - k = 0 by omega]
    clear hnil hlen
    go_enter Try.func60, Try.ntmps60
    go_wp2
    go_ret
    exact ⟨_, rfl, fun h => absurd rfl h, HB.out⟩
  · obtain ⟨b, off, rfl, hc⟩ := hE.out (by intro e; rw [e] at hkl hk; simp at hk; exact hkl (by simpa using hk))
    have HD := hid (hE.out.drop k)
    clear hc hlen
    go_enter Try.func60, Try.ntmps60
    go_wp2
    go_ret
    exact ⟨_, rfl, HD.out, HB.out⟩

/-- elements of several cells each go over by copy -/
theorem run_copy_many {P : Program} (w : World) (dT sT ty elem : TypeId) (g dLen dCap : Nat) (a : Addr) (sLen sCap size : Nat) (cur : Array Value) (t : TypeId) (cs : List Value)
    (hu : P.underlying dT = some (.slice elem)) (hs : (P.info? elem).map (·.size) = some size) (hg : w.heap[g]? = some (.cells cur t (0, 0))) (hn : cs.length = Nat.min sLen dLen * size)
    (hsrc : ∀ j v, cs[j]? = some v → w.cell? (a.add j) = some v) (hfit : cs.length = cur.size) (h1 : ∀ v ∈ cs, v.oneCell' = true) :
    (Builtin.copy_ #[dT, sT] ty #[.slice (some ⟨g, 0, none⟩) dLen dCap, .slice (some a) sLen sCap]).run P w = .ok (goInt (Nat.min sLen dLen)) (w.setRow g cs.toArray) := by
  have hl := run_loadCells_list (P := P) w a cs hsrc
  have hst := run_storeCells_at P g 0 t cs 0 cur w hg (by omega) h1
  have hdrop : cur.toList.drop cs.length = [] := by rw [hfit]; simp
  rw [Nat.zero_add, Nat.zero_add, hdrop, List.take_zero, List.nil_append, List.append_nil] at hst
  cases hq : P.info? elem with
  | none => simp [hq] at hs
  | some i =>
    have hi : i.size = size := by simpa [hq] using hs
    simp [Builtin.copy_, run_underlying hu, Builtin.lenOf, Builtin.firstCells, sizeOf, typeInfo, hq, hi, ← hn, hl, hst]
theorem run_copy_zero {P : Program} (w : World) (dT sT ty elem : TypeId) (d a : Option Addr) (dLen dCap sLen sCap size : Nat) (hu : P.underlying dT = some (.slice elem)) (hs : (P.info? elem).map (·.size) = some size) (hn : Nat.min sLen dLen = 0) :
    (Builtin.copy_ #[dT, sT] ty #[.slice d dLen dCap, .slice a sLen sCap]).run P w = .ok (goInt 0) w := by
  cases hq : P.info? elem with
  | none => simp [hq] at hs
  | some i =>
    have hl : ∀ (x : Addr), (loadCells x 0).run P w = .ok #[] w := fun x => by simpa using run_loadCells_list (P := P) w x [] (by simp)
    cases d <;> cases a <;> simp [Builtin.copy_, run_underlying hu, Builtin.lenOf, Builtin.firstCells, sizeOf, typeInfo, hq, hn, storeCells, hl]

/-- what a copy leaves -/
theorem copy_ents {w w1 : World} {ao : Option Addr} {l : List EntD} {cap : Nat} (h1 : BlockIs w1 w.heap.size 69 (madeCells (Value.agg #[.int .i64 0, .int .i64 0, .string ByteArray.empty]).cells (l.length * 3)).toList) (hb : Below w.heap.size w w1) (ha : EntsAt w ao l) :
    ∃ W2, (Builtin.copy_ #[30, 30] 3 #[.slice (some ⟨w.heap.size, 0, none⟩) l.length l.length, .slice ao l.length cap]).run Try.prog w1 = .ok (goInt l.length) W2 ∧ BlockIs W2 w.heap.size 69 (entCells l) ∧ Below w.heap.size w W2 := by
  obtain ⟨i0, hi, hz0, hz1, hz2⟩ := info_parts toEnt_info
  have hsz : (Try.prog.info? 69).map (·.size) = some 3 := by rw [hi]; simp [hz1]
  by_cases h0 : l = []
  · subst h0
    refine ⟨w1, run_copy_zero w1 _ _ _ 69 _ _ _ _ _ _ 3 Try.underlying30 hsz rfl, ?_, hb⟩
    have e : (madeCells (Value.agg #[.int .i64 0, .int .i64 0, .string ByteArray.empty]).cells (0 * 3)).toList = [] := by simp [madeCells]
    rw [show (([] : List EntD).length) = 0 from rfl, e] at h1
    exact h1
  · obtain ⟨b, off, rfl, hc⟩ := ha.on hb h0
    have hr := run_copy_many w1 30 30 3 69 w.heap.size l.length l.length ⟨b, off, none⟩ l.length cap 3 _ 69 (entCells l) Try.underlying30 hsz h1 (by rw [entCells_length]; simp) (ents_cells hc) (by rw [entCells_length]; simpa using (made_ents l.length).symm) (entCells_one l)
    rw [show Nat.min l.length l.length = l.length from Nat.min_self _] at hr
    refine ⟨_, hr, ?_, below_setRow hb (Nat.le_refl _) _⟩
    unfold BlockIs
    exact setRow_heap w1 w.heap.size _ _ _ _ h1

set_option maxRecDepth 1000000 in
set_option maxHeartbeats 1000000 in
theorem copiedEntries_any (ao : Option Addr) (l : List EntD) (cap : Nat) (hl : l.length ≤ 1048576) (hs : ∀ f ∈ l, f.data.size ≤ 1048576) (w : World) (ha : EntsAt w ao l) :
    Calls Try.prog 56 #[.slice ao l.length cap] w fun e w' => e = .returned (.slice (some ⟨w.heap.size, 0, none⟩) l.length l.length) ∧ BlockIs w' w.heap.size 69 (entCells l) ∧ Below w.heap.size w w' := by
  obtain ⟨i0, hi, hz0, hz1, hz2⟩ := info_parts toEnt_info
  have HA := hid ha
  have HS := hid hs
  clear ha hs
  go_enter Try.func56, Try.ntmps56
  go_wp2_with (at_make; refine wpList_make_full _ rfl (.tmp 6) (.tmp 6) 30 rfl w.heap.size 69 i0 (.agg #[.int .i64 0, .int .i64 0, .string ByteArray.empty]) 3 Try.underlying30 hi hz0 hz1 _ _ _ _ l.length rfl rfl rfl rfl ?b2 ?b3 ?b4 ?_)
  case b2 => rw [hz2]; omega
  case b3 => unfold maxLen; omega
  case b4 => exact Nat.le_refl _
  intro w1 hown hgrow
  have hB1 := (Below.refl w.heap.size w).grown hgrow (Nat.le_refl _) (fun k h => by cases h)
  obtain ⟨W2, hcp, hb2, hbel⟩ := copy_ents (cap := cap) (BlockIs.made hown) hB1 HA.out
  have HM := hid hb2
  have B2 := hid hbel
  clear hown hgrow hB1 hb2 hbel
  go_wp2
  go_loopg [4, 13] l.length (fun g _ i wr => ∃ (k : Nat), k + g = l.length ∧ i = .int .i64 k ∧ Hid (Below w.heap.size w wr) ∧ Hid (BlockIs wr w.heap.size 69 (entCells l)))
  case atStart => exact ⟨0, by omega, rfl, B2, HM⟩
  case round =>
    obtain ⟨k, hkg, rfl, BR, FP⟩ := hrel
    clear HM B2 hcp
    cases gk with
    | zero =>
      have hlt : ¬ (k : Int) < (l.length : Int) := by omega
      go_wp2
      go_ret
      exact ⟨rfl, FP.out, BR.out⟩
    | succ g =>
      have hlt : k < l.length := by omega
      have hlt' : (k : Int) < (l.length : Int) := by omega
      have hat : (entCells l)[k * 3 + 2]? = some (.string l[k].data) := by
        have := row_at entEnc 3 (fun _ => rfl) l [] k 2 hlt (by omega)
        rw [List.append_nil] at this
        exact this
      have HAT := hid hat
      have x2 := FP.out.cell hat
      have C := hid (fun w => clone_any l[k].data (by have := HS.out _ (List.getElem_mem hlt); omega) w)
      clear hat
      go_wp2_with fail
      refine (C.out _).mono ?_
      rintro e w2 ⟨rfl, b2⟩
      have F2 := FP.out.on b2 FP.out.lt
      have y2 := F2.cell HAT.out
      have f2 := F2.thaw (k * 3 + 2)
      have F3 := hid (F2.set (k * 3 + 2) (.string l[k].data))
      rw [set_same HAT.out] at F3
      have B3 := hid ((below_via BR.out b2).setCell (p := ⟨w.heap.size, k * 3 + 2, none⟩) (Nat.le_refl _) (.string l[k].data))
      clear x2 C b2 F2 FP BR
      go_wp2
      go_roundg g
      case measure => omega
      case rel => exact ⟨k + 1, by omega, by go_num, B3, F3⟩
end Go.Proofs.Ytglibbpigmpanaa
