/-
  The walk of slices.Delete over early texts: one of them is taken out, in place.
-/
import Derived.Test.YtngcldjkpcmidaaJoint1
import Derived.Deep.RegionLaw
import Derived.Lib.SliceRun
import Derived.WalkKit
import Derived.Test.YtngcldjkpcmidaaRows
namespace Go.Proofs.Ytngcldjkpcmidaa
open Go.RowKit

/-- cells written one behind the other -/
def setAll : List Value → Nat → List Value → List Value
  | cs, _, [] => cs
  | cs, o, v :: vs => setAll (cs.set o v) (o + 1) vs
theorem setAll_eq : ∀ (vs cs : List Value) (o : Nat), o + vs.length ≤ cs.length → setAll cs o vs = cs.take o ++ vs ++ cs.drop (o + vs.length)
  | [], cs, o, _ => by simp [setAll]
  | v :: vs, cs, o, h => by
    rw [List.length_cons] at h
    rw [setAll, setAll_eq vs (cs.set o v) (o + 1) (by rw [List.length_set]; omega)]
    have h1 : (cs.set o v).take (o + 1) = cs.take o ++ [v] := by
      rw [List.take_succ_eq_append_getElem (by rw [List.length_set]; omega), List.getElem_set_self, List.take_set_of_le (Nat.le_refl _)]
    have h2 : (cs.set o v).drop (o + 1 + vs.length) = cs.drop (o + (v :: vs).length) := by
      rw [List.drop_set_of_lt (by omega), List.length_cons, show o + 1 + vs.length = o + (vs.length + 1) by omega]
    rw [h1, h2, List.append_assoc, List.append_assoc, List.append_assoc]
    rfl
theorem block_setCells {b : Nat} {t : TypeId} : ∀ (vs cs : List Value) (o : Nat) (w : World), BlockIs w b t cs → BlockIs (w.setCells b o vs) b t (setAll cs o vs)
  | [], _, _, _, h => h
  | v :: vs, cs, o, w, h => block_setCells vs (cs.set o v) (o + 1) (w.setCell ⟨b, o, none⟩ v) (h.set o v)
theorem far_setCells {b g : Nat} {t : TypeId} {cs : List Value} (hne : b ≠ g) : ∀ (vs : List Value) (o : Nat) (w : World), BlockIs w g t cs → BlockIs (w.setCells b o vs) g t cs
  | [], _, _, h => h
  | v :: vs, o, w, h => far_setCells hne vs (o + 1) (w.setCell ⟨b, o, none⟩ v) (h.far hne v)
theorem below_setCells {m b : Nat} (hb : m ≤ b) {w0 : World} : ∀ (vs : List Value) (o : Nat) (w : World), Below m w0 w → Below m w0 (w.setCells b o vs)
  | [], _, _, h => h
  | v :: vs, o, w, h => below_setCells hb vs (o + 1) (w.setCell ⟨b, o, none⟩ v) (h.setCell hb v)
theorem size_setCells (b : Nat) : ∀ (vs : List Value) (o : Nat) (w : World), (w.setCells b o vs).heap.size = w.heap.size
  | [], _, _ => rfl
  | v :: vs, o, w => (size_setCells b vs (o + 1) (w.setCell ⟨b, o, none⟩ v)).trans (World.size_setCell _ _ _)
/-- one element is cleared -/
theorem clear_late (w : World) (ty : TypeId) (b o c : Nat) (h0 : w.cell? ⟨b, o, none⟩ ≠ none) (h1 : w.cell? ⟨b, o + 1, none⟩ ≠ none) (f0 : w.frozen? ⟨b, o, none⟩ = false) (f1 : w.frozen? ⟨b, o + 1, none⟩ = false) :
    (Builtin.clear_ #[29] ty #[.slice (some ⟨b, o, none⟩) 1 c]).run Try.prog w = .ok (.tuple #[]) (w.setCells b o [.int .i64 0, .string ⟨#[]⟩]) := by
  have hzc : (Builtin.zeroCells (Value.agg #[.int .i64 0, .string ⟨#[]⟩]).cells 1).toList = [.int .i64 0, .string ⟨#[]⟩] := by
    simp [Builtin.zeroCells, Value.cells]
    rfl
  have hst := run_storeCells_cells (P := Try.prog) b o [.int .i64 0, .string ⟨#[]⟩] 0 w (by
    intro j hj
    have : j = 0 ∨ j = 1 := by simp at hj; omega
    rcases this with rfl | rfl
    · exact Option.isSome_iff_ne_none.2 h0
    · exact Option.isSome_iff_ne_none.2 h1) (by
    intro j hj
    have : j = 0 ∨ j = 1 := by simp at hj; omega
    rcases this with rfl | rfl
    · exact f0
    · exact f1) (by intro v hv; simp at hv; rcases hv with rfl | rfl <;> rfl)
  simp only [Nat.add_zero] at hst
  simp [Builtin.clear_, run_underlying Try.underlying29, hzc, hst]
theorem cells_take (l : List LateD) (t : Nat) (r : List Value) (h : t ≤ l.length) : (lateCells l ++ r).take (t * 2) = lateCells (l.take t) := by
  have h1 : lateCells l = lateCells (l.take t) ++ lateCells (l.drop t) := by rw [← lateR_append, List.take_append_drop]
  have h2 : (lateCells (l.take t)).length = t * 2 := by rw [lateCells_length, List.length_take, Nat.min_eq_left h]
  rw [h1, List.append_assoc, List.take_append_of_le_length (by omega), List.take_of_length_le (by omega)]
/-- what slices.Delete leaves of the cells -/
theorem delete_cells {l : List LateD} {t : Nat} (r : List Value) (h : t < l.length) :
    ∃ q : List Value, setAll (setAll (lateCells l ++ r) (t * 2) (lateCells (l.drop (t + 1)))) ((l.length - 1) * 2) q = lateCells (l.eraseIdx t) ++ (q ++ r) ∧ q = [.int .i64 0, .string ⟨#[]⟩] := by
  refine ⟨[.int .i64 0, .string ⟨#[]⟩], ?_, rfl⟩
  have hn : (lateCells l ++ r).length = l.length * 2 + r.length := by rw [List.length_append, lateCells_length]
  have hd : (lateCells (l.drop (t + 1))).length = (l.length - (t + 1)) * 2 := by rw [lateCells_length, List.length_drop]
  have h1 : setAll (lateCells l ++ r) (t * 2) (lateCells (l.drop (t + 1))) = lateCells (l.eraseIdx t) ++ (lateCells l ++ r).drop ((l.length - 1) * 2) := by
    rw [setAll_eq _ _ _ (by omega), cells_take l t r (by omega), ← lateR_append, ← erase_split, hd, show t * 2 + (l.length - (t + 1)) * 2 = (l.length - 1) * 2 by omega]
  have he : (lateCells (l.eraseIdx t)).length = (l.length - 1) * 2 := by rw [lateCells_length, List.length_eraseIdx_of_lt h]
  have hdr : ((lateCells l ++ r).drop ((l.length - 1) * 2)).length = 2 + r.length := by rw [List.length_drop, hn]; omega
  rw [h1, setAll_eq _ _ _ (by rw [List.length_append, he, hdr]; simp), List.take_append_of_le_length (by omega), List.take_of_length_le (by omega), List.append_assoc]
  congr 2
  rw [List.drop_append, List.drop_of_length_le (by simp only [List.length_cons, List.length_nil]; omega), List.nil_append, he]
  simp only [List.length_cons, List.length_nil]
  rw [List.drop_drop, show (l.length - 1) * 2 + ((l.length - 1) * 2 + (0 + 1 + 1) - (l.length - 1) * 2) = l.length * 2 by omega, List.drop_append_of_le_length (by rw [lateCells_length]; omega), List.drop_of_length_le (by rw [lateCells_length]; omega), List.nil_append]
set_option maxRecDepth 1000000 in
set_option maxHeartbeats 4000000 in
theorem deleteLate_any (b : Nat) (l : List LateD) (cap t : Nat) (r : List Value) (ht : t < l.length) (hl : l.length ≤ 100) (hcap : l.length ≤ cap) (hcm : cap ≤ 9223372036854775807) (w : World) (hb : BlockIs w b 61 (lateCells l ++ r)) :
    Calls Try.prog 70 #[.slice (some ⟨b, 0, none⟩) l.length cap, .int .i64 (t : Int), .int .i64 ((t + 1 : Nat) : Int)] w fun e w' => e = .returned (.slice (some ⟨b, 0, none⟩) (l.length - 1) cap) ∧ ∃ q : List Value, q.length = 2 ∧ BlockIs w' b 61 (lateCells (l.eraseIdx t) ++ (q ++ r)) ∧ (∀ p ty cs, p ≠ b → BlockIs w p ty cs → BlockIs w' p ty cs) ∧ (∀ m, m ≤ b → Below m w w') := by
  obtain ⟨i0, hi0, hz0, hz1, hz2⟩ := info_parts toLate_info
  obtain ⟨news, hnews⟩ : ∃ news, news = lateCells (l.drop (t + 1)) := ⟨_, rfl⟩
  obtain ⟨n, hn⟩ : ∃ n, l.length = n := ⟨_, rfl⟩
  have hnl : news.length = (n - (t + 1)) * 2 := by rw [hnews, lateCells_length, List.length_drop, hn]
  have hbd : BlockIs w.drew b 61 (lateCells l ++ r) := hb
  have hcell : ∀ j u, (lateCells l)[j]? = some u → w.drew.cell? ⟨b, j, none⟩ = some u := by
    intro j u hu
    have hlt := (List.getElem?_eq_some_iff.1 hu).1
    exact hbd.cell (by rw [List.getElem?_append_left hlt]; exact hu)
  obtain ⟨A, hA, hsrc⟩ : ∃ A : Addr, (if cap = t + 1 then some (⟨b, 0, none⟩ : Addr) else some ⟨b, (t + 1) * 2, none⟩) = some A ∧ Hid (∀ j u, news[j]? = some u → w.drew.cell? (A.add j) = some u) := by
    by_cases h : cap = t + 1
    · refine ⟨⟨b, 0, none⟩, by simp [h], fun j u hu => ?_⟩
      have h0 : news.length = 0 := by rw [hnl]; omega
      rw [List.length_eq_zero_iff.1 h0] at hu
      simp at hu
    · refine ⟨⟨b, (t + 1) * 2, none⟩, by simp [h], fun j u hu => ?_⟩
      rw [Addr.add_lit]
      refine hcell _ u ?_
      have h1 : lateCells l = lateCells (l.take (t + 1)) ++ news := by rw [hnews, ← lateR_append, List.take_append_drop]
      have h2 : (lateCells (l.take (t + 1))).length = (t + 1) * 2 := by rw [lateCells_length, List.length_take, Nat.min_eq_left (by omega)]
      rw [h1, List.getElem?_append_right (by omega), h2, Nat.add_sub_cancel_left]
      exact hu
  have s1 : Hid (news.length = (n - (t + 1)) * 2) := hnl
  have s2 : Hid (∀ u ∈ news, u.oneCell' = true) := by
    intro u hu
    rw [hnews] at hu
    exact lateR_all _ u hu
  have hlen : (lateCells l ++ r).length = n * 2 + r.length := by rw [List.length_append, lateCells_length, hn]
  have s3 : Hid (∀ j, j < news.length → (w.drew.cell? ⟨b, 0 + t * 2 + j, none⟩).isSome = true ∧ w.drew.frozen? ⟨b, 0 + t * 2 + j, none⟩ = false) := by
    intro j hj
    rw [hnl] at hj
    have hlt : 0 + t * 2 + j < (lateCells l ++ r).length := by omega
    exact ⟨by rw [hbd.cell (List.getElem?_eq_getElem hlt)]; rfl, hbd.thaw _⟩
  obtain ⟨W1, hW1⟩ : ∃ W1, W1 = w.drew.setCells b (0 + t * 2) news := ⟨_, rfl⟩
  have hb1 : BlockIs W1 b 61 (setAll (lateCells l ++ r) (t * 2) news) := by rw [hW1, Nat.zero_add]; exact block_setCells _ _ _ _ hbd
  have hlen1 : (setAll (lateCells l ++ r) (t * 2) news).length = n * 2 + r.length := by
    rw [setAll_eq _ _ _ (by omega), List.length_append, List.length_append, List.length_take, List.length_drop]
    omega
  have hcl : ∀ ty, (Builtin.clear_ #[29] ty #[.slice (some ⟨b, (n - 1) * 2, none⟩) 1 (cap - (n - 1))]).run Try.prog W1 = .ok (.tuple #[]) (W1.setCells b ((n - 1) * 2) [.int .i64 0, .string ⟨#[]⟩]) := by
    intro ty
    have l0 : (n - 1) * 2 < (setAll (lateCells l ++ r) (t * 2) news).length := by omega
    have l1 : (n - 1) * 2 + 1 < (setAll (lateCells l ++ r) (t * 2) news).length := by omega
    exact clear_late W1 ty b ((n - 1) * 2) _ (by rw [hb1.cell (List.getElem?_eq_getElem l0)]; simp) (by rw [hb1.cell (List.getElem?_eq_getElem l1)]; simp) (hb1.thaw _) (hb1.thaw _)
  have HW : Hid (W1 = w.drew.setCells b (0 + t * 2) news) := hW1
  have HFIN : Hid (BlockIs (W1.setCells b ((n - 1) * 2) [.int .i64 0, .string ⟨#[]⟩]) b 61 (lateCells (l.eraseIdx t) ++ ([.int .i64 0, .string ⟨#[]⟩] ++ r)) ∧ (∀ p ty cs, p ≠ b → BlockIs w p ty cs → BlockIs (W1.setCells b ((n - 1) * 2) [.int .i64 0, .string ⟨#[]⟩]) p ty cs) ∧ (∀ m, m ≤ b → Below m w (W1.setCells b ((n - 1) * 2) [.int .i64 0, .string ⟨#[]⟩]))) := by
    refine ⟨?_, fun p ty cs hp hk => ?_, fun m hm => ?_⟩
    · have h1 := block_setCells [.int .i64 0, .string ⟨#[]⟩] _ ((n - 1) * 2) W1 hb1
      obtain ⟨q, hq, rfl⟩ := delete_cells r ht
      rw [hn, ← hnews] at hq
      rw [hq] at h1
      exact h1
    · refine far_setCells (fun e => hp e.symm) _ _ _ ?_
      rw [hW1]
      exact far_setCells (fun e => hp e.symm) _ _ _ (show BlockIs w.drew p ty cs from hk)
    · refine below_setCells hm _ _ _ ?_
      rw [hW1]
      exact below_setCells hm _ _ _ (below_drewN (Below.refl _ _) 1)
  have hic : t ≤ cap := by omega
  rw [hn] at hcap hl ht ⊢
  obtain ⟨j, hj⟩ : ∃ j, t + 1 = j := ⟨_, rfl⟩
  have e1 : t + (n - j) = n - 1 := by omega
  have e2 : n - (n - 1) = 1 := by omega
  have hcl2 : ∀ ty, (Builtin.clear_ #[29] ty #[.slice (some ⟨b, (t + (n - j)) * 2, none⟩) (n - (t + (n - j))) (cap - (t + (n - j)))]).run Try.prog W1 = .ok (.tuple #[]) (W1.setCells b ((n - 1) * 2) [.int .i64 0, .string ⟨#[]⟩]) := by
    rw [e1, e2]
    exact hcl
  have HE1 := hid e1
  rw [hj] at hA s1 ⊢
  have hjc : j ≤ cap := by omega
  have hjn : j ≤ n := by omega
  have htj : t ≤ j := by omega
  have hk1 : t + (n - j) ≤ n := by omega
  have hk2 : ¬ cap = t + (n - j) := by omega
  have hneq : ((t : Int) == (j : Int)) = false := by rw [beq_eq_false_iff_ne]; omega
  clear hcl hW1 hb1 hcell hbd hb hnews hnl hlen hlen1 e1 e2
  go_enter Try.func70, Try.ntmps70
  go_wp2_with fail
  go_region_law (first | (refine step_append_room rfl (.tmp 22) (.tmp 25) 29 rfl 61 i0 2 Try.underlying29 hi0 hz1 b 0 t cap (by simp [Act.eval, Act.put]) A (n - j) (cap - j) news (by simp [Act.eval, Act.put]) s1.out hsrc.out s2.out (by omega) s3.out ?_; rw [← HW.out]))
  go_wp2
  go_ret
  exact ⟨by rw [← HE1.out]; rfl, _, rfl, HFIN.out⟩
end Go.Proofs.Ytngcldjkpcmidaa
