/-
  What a pile's parts have; the walk of impl.textAt.
  What JoinBits answers, plainly; the boxes of its own.
-/
import Derived.Test.YthdklbmachplmaaJoint37
import Derived.WalkSmall
import Derived.Test.YthdklbmachplmaaJoint38
import Derived.Test.YthdklbmachplmaaJoint1
namespace Go.Proofs.Ythdklbmachplmaa
open Go.RowKit Go.Maps
set_option maxRecDepth 1000000 in
theorem textAt_any (e : BitD) (ta : Option Addr) (tc : Nat) (av : Value) (i : Nat) (w : World) (ht : ValsAt w ta (st e.texts)) :
    Calls Try.prog 51 #[.agg #[.int .i64 e.src, .int .i64 e.ident, .slice ta e.texts.length tc, av, .int .i64 e.total, .int .i64 e.lim], .int .i64 (i : Int)] w fun e' w' => e' = .returned (.string (textB e i)) ∧ Below w.heap.size w w' := by
  have bx := below_more (Below.refl w.heap.size w) (.cells #[.int .i64 e.src, .int .i64 e.ident, .slice ta e.texts.length tc, av, .int .i64 e.total, .int .i64 e.lim] 35)
  have hx : BlockIs (w.alloc (.cells #[.int .i64 e.src, .int .i64 e.ident, .slice ta e.texts.length tc, av, .int .i64 e.total, .int .i64 e.lim] 35)) w.heap.size 35 [.int .i64 e.src, .int .i64 e.ident, .slice ta e.texts.length tc, av, .int .i64 e.total, .int .i64 e.lim] := heap_alloc_new w _
  have HT := hid (ht.on bx)
  obtain ⟨W0, hW0⟩ : ∃ W, w.alloc (.cells #[.int .i64 e.src, .int .i64 e.ident, .slice ta e.texts.length tc, av, .int .i64 e.total, .int .i64 e.lim] 35) = W := ⟨_, rfl⟩
  rw [hW0] at bx hx HT
  have c2 := hx.cell (j := 2) rfl
  have B0 := hid bx
  clear bx hx ht
  by_cases h : i < e.texts.length
  · have hlt : ¬ (e.texts.length : Int) ≤ (i : Int) := by omega
    have hlt2 : (i : Int) < (e.texts.length : Int) := by omega
    obtain ⟨b, off, hta, hc⟩ := HT.out (by intro q; rw [← List.length_eq_zero_iff, st_length] at q; omega)
    have x0 := hc i (by rw [st_length]; omega)
    have hgt : (st e.texts)[i]'(by rw [st_length]; omega) = .string e.texts[i] := by simp [st]
    rw [hgt] at x0
    have HR : Hid (textB e i = e.texts[i]) := (show _ = _ by simp [textB, h])
    obtain ⟨S, hS⟩ : ∃ S, e.texts[i] = S := ⟨_, rfl⟩
    rw [hS] at x0 HR
    subst hta
    clear hc hgt hS HT
    go_enter Try.func51, Try.ntmps51
    go_wp2
    go_ret
    exact ⟨by rw [HR.out]; rfl, B0.out⟩
  · have hlt : (e.texts.length : Int) ≤ (i : Int) := by omega
    have HR : Hid (textB e i = ⟨#[]⟩) := (show _ = _ by simp [textB, List.getElem?_eq_none (Nat.le_of_not_lt h)])
    clear HT
    go_enter Try.func51, Try.ntmps51
    go_wp2
    go_ret
    exact ⟨by rw [HR.out]; rfl, B0.out⟩
end Go.Proofs.Ythdklbmachplmaa

namespace Go.Proofs.Ythdklbmachplmaa
open Go.RowKit Go.Maps
theorem leftN_take {α : Type} {im : Nat → Option Nat} (l m : List α) : ∀ k, k ≤ l.length → leftN im (l ++ m) k = leftN im l k
  | 0, _ => rfl
  | k + 1, h => by rw [leftN, leftN, leftN_take l m k (by omega), List.getElem?_append_left (by omega)]
theorem leftN_append {α : Type} {im : Nat → Option Nat} (l m : List α) : ∀ n, leftN im (l ++ m) (l.length + n) = leftL im l ++ leftN (fun j => im (l.length + j)) m n
  | 0 => by rw [Nat.add_zero, leftN_take l m _ (Nat.le_refl _)]; simp [leftN, leftL]
  | n + 1 => by
    rw [← Nat.add_assoc, leftN, leftN_append l m n, leftN, List.getElem?_append_right (by omega), Nat.add_sub_cancel_left, List.append_assoc]
theorem leftL_append {α : Type} (im : Nat → Option Nat) (l m : List α) : leftL im (l ++ m) = leftL im l ++ leftL (fun j => im (l.length + j)) m := by
  rw [leftL, List.length_append, leftN_append]; rfl
theorem leftL_all {α : Type} {im : Nat → Option Nat} {l : List α} (h : ∀ j, j < l.length → (im j).isSome = true) : leftL im l = l := by
  have go : ∀ k, k ≤ l.length → leftN im l k = l.take k := by
    intro k
    induction k with
    | zero => intro _; simp [leftN]
    | succ k ih => intro hk; rw [leftN_in (by omega) (h k (by omega)), ih (by omega), List.take_succ_eq_append_getElem (by omega)]
  rw [leftL, go _ (Nat.le_refl _), List.take_length]
theorem leftL_one {α : Type} {im : Nat → Option Nat} {a : α} (h : im 0 = none) : leftL im [a] = [] := by simp [leftL, leftN, h]
/-- just one place is gone -/
theorem leftL_but {α : Type} {im : Nat → Option Nat} {l m : List α} {a : α} (h : ∀ j, j < (l ++ a :: m).length → j ≠ l.length → (im j).isSome = true) (h0 : im l.length = none) : leftL im (l ++ a :: m) = l ++ m := by
  have hl : (l ++ a :: m).length = l.length + 1 + m.length := by simp; omega
  rw [leftL_append, leftL_all (fun j hj => h j (by omega) (by omega)), show a :: m = [a] ++ m from rfl, leftL_append, leftL_one (by simpa using h0), List.nil_append, leftL_all (fun j hj => h _ (by simp; omega) (by simp))]
/-- what placeFor has found, or made -/
structure AtJoin (l : List BitD) (d : DgramD) (now : Int) (L1 : List BitD) (e : BitD) (L2 : List BitD) (im : Nat → Option Nat) : Prop where
  el : e = (joinAt l d now).2.1
  stay : ∀ x, leftL im (L1 ++ x :: L2) = (joinAt l d now).1 ++ x :: (joinAt l d now).2.2
  gone : ∀ x, leftL (fun j => if j = L1.length then none else im j) (L1 ++ x :: L2) = (joinAt l d now).1 ++ (joinAt l d now).2.2
theorem atJoin_found {l : List BitD} {d : DgramD} {now : Int} {k : Nat} (hf : foundB l d = some k) {im : Nat → Option Nat} (hal : ∀ j, (im j).isSome = true ↔ j < l.length) (hk : k < l.length) : AtJoin l d now (l.take k) l[k] (l.drop (k + 1)) im := by
  have ej : joinAt l d now = (l.take k, l[k], l.drop (k + 1)) := by simp [joinAt, hf, hk]
  have hlk : (l.take k).length = k := by rw [List.length_take]; omega
  have hll : ∀ x : BitD, (l.take k ++ x :: l.drop (k + 1)).length = l.length := fun x => by simp; omega
  refine ⟨by rw [ej], fun x => ?_, fun x => ?_⟩
  · rw [ej, leftL_all (fun j hj => (hal j).2 (by rw [hll] at hj; exact hj))]
  · rw [ej, leftL_but (fun j hj hne => ?_) (by simp)]
    rw [hll] at hj
    simp only [if_neg hne]
    exact (hal j).2 hj
theorem atJoin_new {l : List BitD} {d : DgramD} {now : Int} (hf : foundB l d = none) {im : Nat → Option Nat} (hal : ∀ j, (im j).isSome = true ↔ (j < l.length + 1 ∧ ¬ (3 < l.length + 1 ∧ j = 0))) : AtJoin l d now l (newB d now) [] im := by
  by_cases h3 : 3 < l.length + 1
  · have ej : joinAt l d now = (l.drop 1, newB d now, []) := by simp [joinAt, hf, h3]
    obtain ⟨a, r, rfl⟩ : ∃ a r, l = a :: r := by cases l with
      | nil => simp at h3
      | cons a r => exact ⟨a, r, rfl⟩
    have h0 : im 0 = none := by
      cases h : im 0 with
      | none => rfl
      | some g => exact absurd ⟨h3, rfl⟩ ((hal 0).1 (by rw [h]; rfl)).2
    refine ⟨by rw [ej], fun x => ?_, fun x => ?_⟩
    · rw [ej, show (a :: r) ++ [x] = [a] ++ (r ++ [x]) from rfl, leftL_append, leftL_one h0, leftL_all (fun j hj => (hal _).2 ⟨by simp at hj ⊢; omega, fun q => by simp at q⟩)]
      rfl
    · rw [ej, show (a :: r) ++ [x] = [a] ++ (r ++ x :: []) from rfl, leftL_append, leftL_one (by simp [h0]), leftL_but (fun j hj hne => ?_) (by simp; omega)]
      · simp
      · rw [if_neg (by simp; omega)]
        exact (hal _).2 ⟨by simp at hj ⊢; omega, fun q => by simp at q⟩
  · have ej : joinAt l d now = (l, newB d now, []) := by simp [joinAt, hf, h3]
    refine ⟨by rw [ej], fun x => ?_, fun x => ?_⟩
    · rw [ej, leftL_all (fun j hj => (hal j).2 ⟨by simpa using hj, fun q => h3 q.1⟩)]
    · rw [ej, leftL_but (fun j hj hne => ?_) (by simp)]
      simp only [if_neg hne]
      exact (hal j).2 ⟨by simpa using hj, fun q => h3 q.1⟩
theorem take_small {e : BitD} {d : DgramD} (hs : SmallB e) (ht : e.total ≤ 1000000) (hd : dgramOk d = true) : ((takeD e d).texts.length ≤ 1048577 ∧ ∀ t ∈ (takeD e d).texts, t.size ≤ 1048576) ∧ (takeD e d).total ≤ 1000000 := by
  obtain ⟨_, _, _, h4, _, h6, _⟩ := dgramOk_bd hd
  unfold takeD
  split
  · exact ⟨⟨by have := hs.1; omega, hs.2.2⟩, ht⟩
  · refine ⟨⟨by have := hs.1; simp [addPart]; omega, fun t h => ?_⟩, ?_⟩
    · simp only [addPart, List.mem_append, List.mem_singleton] at h
      rcases h with h | h
      · exact hs.2.2 t h
      · subst h; omega
    · simp only [addPart]
      split <;> omega
theorem kept_six {W : World} {b : Nat} {cs : List Value} (h : BlockIs W b 26 cs) (v0 v1 v2 v3 v4 v5 : Value) : RowsKept W (sixth W b v0 v1 v2 v3 v4 v5) := by
  have h1 := h.set 0 v0
  have h2 := h1.set 1 v1
  have h3 := h2.set 2 v2
  have h4 := h3.set 3 v3
  have h5 := h4.set 4 v4
  exact (((((RowsKept.set h v0).trans (RowsKept.set h1 v1)).trans (RowsKept.set h2 v2)).trans (RowsKept.set h3 v3)).trans (RowsKept.set h4 v4)).trans (RowsKept.set h5 v5)
theorem PileSee.set {w : World} {pb : Nat} {l : List BitD} {im : Nat → Option Nat} {N : Nat} {va : Option Addr} {vc mb : Nat} {rs : List BitsD} (h : PileSee w pb l im N va vc mb rs) {b j : Nat} {cs : List Value} (hx : BlockIs w b 26 cs) (v : Value) : PileSee (w.setCell ⟨b, j, none⟩ v) pb l im N va vc mb rs := by
  have hk := RowsKept.set (j := j) hx v
  have hf := h.far _ hk
  exact ⟨h.blk.far (fun e => by subst e; exact absurd (block_one h.blk hx).1 (by decide)) _, hf.1, hf.2, h.outer.set hx v, fun w2 h2 => h.far w2 (hk.trans h2)⟩
def PlaceDid (l : List BitD) (d : DgramD) (now : Int) (pb mb lo : Nat) (w : World) (e' : Ending) (w' : World) : Prop := ∃ L1 e L2 im hi N va vc rs g, e' = .returned (.int .i64 (L1.length : Int)) ∧ PileAt w' pb (L1 ++ e :: L2) im lo hi N va vc mb rs ∧ im L1.length = some g ∧ N ≤ 4194305 ∧ SmallB e ∧ e.total ≤ 1000000 ∧ (L1 ++ e :: L2).length ≤ 1048577 ∧ AtJoin l d now L1 e L2 im ∧ Below lo w w'
theorem placeFor_did (pb : Nat) (l : List BitD) (im : Nat → Option Nat) (lo hi N : Nat) (va : Option Addr) (vc mb : Nat) (rs : List BitsD) (d : DgramD) (now : Int) (hl : l.length ≤ 1048576) (hN : N ≤ 4194304) (hn0 : 0 ≤ now) (hn1 : now ≤ 1000000000) (hs : ∀ e ∈ l, SmallB e) (ht : ∀ e ∈ l, e.total ≤ 1000000)
    (hal : ∀ j, (im j).isSome = true ↔ j < l.length) (w : World) (hp : PileAt w pb l im lo hi N va vc mb rs) :
    Calls Try.prog 28 #[.pointer (some ⟨pb, 0, none⟩), .agg #[.int .i64 d.src, .int .i64 d.dst, .int .i64 d.ident, .int .i64 d.place, .bool d.more, .string d.body], .int .i64 now] w fun e' w' => PlaceDid l d now pb mb lo w e' w' := by
  refine Calls.mono (placeFor_any pb l im lo hi N va vc mb rs d now hl hN hn0 hn1 hal w hp) ?_
  rintro e' w' ⟨hb, ⟨k, hf, rfl, hp'⟩ | ⟨hf, rfl, va', vc', im', hp', hal'⟩⟩
  · have hk : k < l.length := by
      rw [foundB] at hf
      exact (List.findIdx?_eq_some_iff_findIdx_eq.1 hf).1
    have hlk : (l.take k).length = k := by rw [List.length_take]; omega
    have hsp : l.take k ++ l[k] :: l.drop (k + 1) = l := by rw [List.getElem_cons_drop hk, List.take_append_drop]
    obtain ⟨g, hg⟩ := Option.isSome_iff_exists.1 ((hal k).2 hk)
    refine ⟨l.take k, l[k], l.drop (k + 1), im, hi, N, va, vc, rs, g, by rw [hlk], by rw [hsp]; exact hp', by rw [hlk]; exact hg, by omega, hs _ (List.getElem_mem hk), ht _ (List.getElem_mem hk), by rw [hsp]; omega, atJoin_found hf hal hk, hb⟩
  · obtain ⟨g, hg⟩ := Option.isSome_iff_exists.1 ((hal' l.length).2 ⟨by omega, fun q => by omega⟩)
    exact ⟨l, newB d now, [], im', _, N + 1, va', vc', _, g, rfl, hp', hg, by omega, ⟨Nat.zero_le _, Nat.zero_le _, fun t h => by simp [newB] at h⟩, by simp [newB], by simp; omega, atJoin_new hf hal', hb⟩
end Go.Proofs.Ythdklbmachplmaa
