/-
  Rows of files of a drawer's own: kept, written in place, appended to.
  Rows of numbers that grow while a cursor goes on.
-/
import Derived.Test.YtbbohfagnnobgaaJoint1
import Derived.Test.YtbbohfagnnobgaaJoint11
import Derived.Test.YtbbohfagnnobgaaJoint7
import Derived.Test.YtbbohfagnnobgaaJoint12
import Derived.Test.YtbbohfagnnobgaaJoint2
namespace Go.Proofs.Ytbbohfagnnobgaa
open Go.RowKit

/-- a file whose name and text are not long -/
def FileD.Mild (f : FileD) : Prop := f.name.size ≤ 100 ∧ f.text.size ≤ 30000
theorem block_one {w : World} {b : Nat} {t t' : TypeId} {cs cs' : List Value} (h : BlockIs w b t cs) (h' : BlockIs w b t' cs') : t = t' ∧ cs = cs' := by
  unfold BlockIs at h h'
  rw [h] at h'
  simp only [Option.some.injEq, Obj.cells.injEq] at h'
  exact ⟨h'.2.1, by simpa using h'.1⟩
theorem mild_mk {a b : ByteArray} {x : Int} (h1 : a.size ≤ 100) (h2 : b.size ≤ 30000) : FileD.Mild ⟨a, b, x⟩ := ⟨h1, h2⟩
theorem row_from {x y : World} {base size n : Nat} {t : TypeId} {v : Value} {xs : List Value} (h : x.ownsRow base t size v n xs) (hb : ∀ g cs, base ≤ g → BlockIs x g t cs → BlockIs y g t cs) : y.ownsRow base t size v n xs := by
  refine ⟨h.1, h.2.imp id ?_⟩
  rintro ⟨g, cap, cur, a, b, c, r⟩
  have := hb g cur.toList b (by unfold BlockIs; rw [c])
  unfold BlockIs at this
  exact ⟨g, cap, cur, a, b, by rw [this], r⟩
theorem row_below {x y : World} {base size n : Nat} {t : TypeId} {v : Value} {xs : List Value} (h : x.ownsRow base t size v n xs) (hb : Below x.heap.size x y) : y.ownsRow base t size v n xs := row_from h fun _ _ _ q => q.on hb q.lt
theorem row_past {x y : World} {base size n C : Nat} {t : TypeId} {v : Value} {xs : List Value} (h : x.ownsRow base t size v n xs) (hb : x.grownBy y (some C)) (hC : C < base) : y.ownsRow base t size v n xs := row_from h fun _ _ hg q => q.cur hb (by omega)
theorem row_set {x : World} {base size n b j : Nat} {t : TypeId} {v u : Value} {xs : List Value} (h : x.ownsRow base t size u n xs) (hb : b < base) : (x.setCell ⟨b, j, none⟩ v).ownsRow base t size u n xs := row_from h fun _ _ hg q => q.far (by omega) v
theorem row_block {w : World} {base size n j : Nat} {t : TypeId} {v : Value} {xs : List Value} (h : w.ownsRow base t size v n xs) (hj : v.ownBlock = some j) : ∃ cs, BlockIs w j t cs ∧ base ≤ j := by
  obtain ⟨_, (⟨rfl, _⟩ | ⟨g, cap, cur, rfl, hb, hg, _⟩)⟩ := h
  · cases hj
  · cases hj
    exact ⟨cur.toList, by unfold BlockIs; rw [hg], hb⟩
/-- a row of at least one element lies in a block -/
theorem row_in {w : World} {base size n c : Nat} {t : TypeId} {va : Option Addr} {xs : List Value} (h : w.ownsRow base t size (.slice va n c) n xs) (hn : 0 < n) : ∃ g, va = some ⟨g, 0, none⟩ ∧ base ≤ g ∧ ∃ r, BlockIs w g t (xs ++ r) := by
  obtain ⟨_, (⟨hv, h0⟩ | ⟨g, cap, cur, hv, hb, hg, _, _, _, ht⟩)⟩ := h
  · omega
  · cases hv
    refine ⟨g, rfl, hb, cur.toList.drop (n * size), ?_⟩
    unfold BlockIs
    rw [hg, ← ht, List.take_append_drop]
theorem row_write {W : World} {base size n cap g i : Nat} {t : TypeId} {u : Value} {xs : List Value} (h : W.ownsRow base t size (.slice (some ⟨g, 0, none⟩) n cap) n xs) : (W.setCell ⟨g, i, none⟩ u).ownsRow base t size (.slice (some ⟨g, 0, none⟩) n cap) n (xs.set i u) := by
  obtain ⟨h1, (⟨hv, _⟩ | ⟨g', cap', cur, hv, hb, hg, hc, hm, hs, ht⟩)⟩ := h
  · cases hv
  · cases hv
    have hk : BlockIs W g t cur.toList := by unfold BlockIs; rw [hg]
    have h2 := hk.set i u
    unfold BlockIs at h2
    refine ⟨by simpa using h1, Or.inr ⟨g, cap, (cur.toList.set i u).toArray, rfl, hb, h2, hc, hm, by simpa using hs, ?_⟩⟩
    rw [← ht]
    simp [List.take_set]
theorem cells_put (l : List FileD) (k j : Nat) (hk : k < l.length) (hj : j < 3) (f : FileD) (u : Value) (h : fileEnc f = (fileEnc l[k]).set j u) : (fileCells l).set (k * 3 + j) u = fileCells (l.set k f) := by
  induction l generalizing k with
  | nil => simp at hk
  | cons a l ih =>
    cases k with
    | zero =>
      simp only [fileCells, List.flatMap_cons, List.set_cons_zero, Nat.zero_mul, Nat.zero_add]
      rw [List.set_append_left _ _ (by simpa [fileEnc] using hj), h]
      rfl
    | succ k =>
      have := ih k (by simpa using hk) h
      simp only [fileCells, List.flatMap_cons, List.set_cons_succ] at this ⊢
      rw [List.set_append_right _ _ (by simp [fileEnc]; omega), ← this]
      congr 1
      simp only [fileEnc, List.length_cons, List.length_nil]
      congr 1
      omega
theorem mild_set {l : List FileD} {k : Nat} {f : FileD} (h : ∀ x ∈ l, x.Mild) (hf : f.Mild) : ∀ x ∈ l.set k f, x.Mild := by
  intro x hx
  rcases List.mem_or_eq_of_mem_set hx with q | q
  · exact h x q
  · rw [q]; exact hf
theorem append_file {W : World} {v : Value} {k base g : Nat} {L : List FileD} {d : FileD} (hL : k ≤ 1048576) (hbase : base ≤ W.heap.size) (hr : W.ownsRow base 77 3 v k (fileCells L)) (hg : BlockIs W g 77 (fileEnc d)) :
    ∃ v' W', (Builtin.append_ #[24, 24] 24 #[v, .slice (some ⟨g, 0, none⟩) 1 1]).run Try.prog W = .ok v' W' ∧ W'.ownsRow base 77 3 v' (k + 1) (fileCells L ++ fileEnc d) ∧ W.grownBy W' v.ownBlock := by
  obtain ⟨i0, hi, hz0, hz1, hz2⟩ := info_parts toFile_info
  have hnews : ∀ j u, (fileEnc d)[j]? = some u → W.cell? ((⟨g, 0, none⟩ : Addr).add j) = some u := by
    intro j u hu
    rw [Addr.add_lit, Nat.zero_add]
    exact hg.cell hu
  have hone : ∀ u ∈ fileEnc d, u.oneCell' = true := by
    intro u hu
    simp only [fileEnc, List.mem_cons, List.not_mem_nil, or_false] at hu
    rcases hu with rfl | rfl | rfl <;> rfl
  obtain ⟨v', W', h1, h2, h3, _⟩ := run_append_own (P := Try.prog) W base 24 24 77 i0 _ 3 40 Try.underlying24 hi hz0 hz1 hz2 rfl (by decide) v k _ hr ⟨g, 0, none⟩ 1 1 (fileEnc d) rfl hnews hone (by unfold maxLen; omega) (by omega) hbase
  exact ⟨v', W', h1, h2, h3⟩
theorem fileCells_snoc (l : List FileD) (d : FileD) : fileCells (l ++ [d]) = fileCells l ++ fileEnc d := by simp [fileCells]
end Go.Proofs.Ytbbohfagnnobgaa

namespace Go.Proofs.Ytbbohfagnnobgaa
open Go.RowKit

theorem places_info3 : (Try.prog.info? 3).map (fun i => (i.zero, i.size, i.bytes)) = some (some (.int .i64 0), 1, 8) := by kernel_rfl

/-- numbers in their cells -/
def is (l : List Int) : List Value := l.map (Value.int .i64)
theorem is_append (l r : List Int) : is (l ++ r) = is l ++ is r := by simp [is]

theorem kept_cur3 {w w2 : World} {base C : Nat} {v : Value} {n : Nat} {xs : List Value} (h : w.ownsRow base 3 1 v n xs) (hg : w.grownBy w2 (some C)) (hC : C < base) : w2.ownsRow base 3 1 v n xs := by
  refine h.kept hg ?_
  cases hv : v.ownBlock with
  | none => exact Or.inl rfl
  | some g =>
    refine Or.inr fun e => ?_
    have := (h.lt g hv).1
    simp at e
    omega

/-- the row and the cursor behind a round -/
theorem places_step {C B k : Nat} {l : List Int} {w wr w2 w1 : World} {v v' : Value} {O : Obj} {x : Int} (hC : C < B) (hCw : B ≤ w.heap.size)
    (hgr : w.grownBy wr (some C)) (k2 : CurAt w2 C) (q2 : wr.grownBy w2 (some C))
    (hown' : w1.ownsRow B 3 1 v' (k + 1) (is l ++ [.int .i64 x])) (hgrow : (w2.alloc O).grownBy w1 v.ownBlock) (hr : ∀ j, v.ownBlock = some j → w.heap.size ≤ j) :
    w1.ownsRow B 3 1 v' (k + 1) (is (l ++ [x])) ∧ CurAt w1 C ∧ w.grownBy w1 (some C) := by
  refine ⟨by rw [is_append]; exact hown', ?_, ?_⟩
  · exact (k2.kept (World.grownBy_alloc w2 O none) (fun j h => by cases h)).kept hgrow (fun j hj => by have := hr j hj; omega)
  · have q3 : w.grownBy w2 (some C) := hgr.trans q2
    have q4 : w.grownBy (w2.alloc O) (some C) := q3.trans (World.grownBy_alloc w2 O (some C))
    refine ⟨hgrow.os.trans q4.os, hgrow.tape.trans q4.tape, hgrow.output.trans q4.output, Nat.le_trans q4.size hgrow.size, fun j hj hne => ?_⟩
    rw [hgrow.block j (by have := q4.size; omega) (fun e => by have := hr j e.symm; omega)]
    exact q4.block j hj hne
end Go.Proofs.Ytbbohfagnnobgaa
