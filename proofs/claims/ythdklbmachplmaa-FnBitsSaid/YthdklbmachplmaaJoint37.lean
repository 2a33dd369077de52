/-
  What a part that comes makes of bits; the pile as it is read afterwards.
  The pile while a part comes: one of its bits is open.
-/
import Derived.Test.YthdklbmachplmaaJoint36
namespace Go.Proofs.Ythdklbmachplmaa
open Go.RowKit Go.Maps
def RowsKept (w w' : World) : Prop := ∀ g t cs, (t = 35 ∨ t = 9 ∨ t = 3) → BlockIs w g t cs → BlockIs w' g t cs
theorem RowsKept.refl (w : World) : RowsKept w w := fun _ _ _ _ h => h
theorem RowsKept.trans {w w1 w2 : World} (h : RowsKept w w1) (h' : RowsKept w1 w2) : RowsKept w w2 := fun g t cs ht q => h' g t cs ht (h g t cs ht q)
theorem RowsKept.of {w w' : World} (hb : Below w.heap.size w w') : RowsKept w w' := fun _ _ _ _ q => q.on hb q.lt
theorem RowsKept.turn {w w' : World} {b N : Nat} {f : Int → Option Value} (hm : MapIs w b N f) (ht : w.mapTurned w' b) : RowsKept w w' := fun _ _ _ _ q => q.turn hm ht
theorem RowsKept.set {w : World} {b j : Nat} {cs : List Value} (h : BlockIs w b 26 cs) (v : Value) : RowsKept w (w.setCell ⟨b, j, none⟩ v) := fun g t xs ht q => q.far (fun e => by
  subst e
  have := (block_one q h).1
  subst this
  rcases ht with e | e | e <;> exact absurd e (by decide)) _
/-- the pile as it is read -/
structure PileRead (w : World) (pb : Nat) (l : List BitD) (im : Nat → Option Nat) (N : Nat) (va : Option Addr) (vc mb : Nat) (rs : List BitsD) (k g : Nat) (e : BitD) : Prop where
  blk : BlockIs w pb 62 [.slice va rs.length vc, .map (some mb)]
  at_ : BitssAt w va rs
  two : Two (HoldsB w) l rs
  outer : MapIs w mb N (outerM im)
  ink : im k = some g
  elem : l[k]? = some e
  inner : MapIs w g N (firstMap e.ats)
  gm : g ≠ mb
  far : ∀ w', RowsKept w w' → BitssAt w' va rs ∧ Two (HoldsB w') l rs
theorem PileRead.on {w w' : World} {pb : Nat} {l : List BitD} {im : Nat → Option Nat} {N : Nat} {va : Option Addr} {vc mb : Nat} {rs : List BitsD} {k g : Nat} {e : BitD} (h : PileRead w pb l im N va vc mb rs k g e) (hb : Below w.heap.size w w') : PileRead w' pb l im N va vc mb rs k g e :=
  ⟨h.blk.on hb h.blk.lt, h.at_.on hb, h.two.mono fun _ _ q => q.on hb, h.outer.on hb, h.ink, h.elem, h.inner.on hb, h.gm, fun w2 hk => h.far w2 ((RowsKept.of hb).trans hk)⟩
theorem PileAt.kept {w w' : World} {pb : Nat} {l : List BitD} {im : Nat → Option Nat} {lo hi N : Nat} {va : Option Addr} {vc mb : Nat} {rs : List BitsD} (h : PileAt w pb l im lo hi N va vc mb rs) (hk : RowsKept w w') : BitssAt w' va rs ∧ Two (HoldsB w') l rs :=
  ⟨bitsR_at (row_ext h.row fun g cs q => hk g _ cs (Or.inl rfl) q), (h.nest.other (fun g cs q => hk g _ cs (Or.inr (Or.inl rfl)) q) (fun g cs q => hk g _ cs (Or.inr (Or.inr rfl)) q)).holds⟩
theorem PileAt.read {w : World} {pb : Nat} {l : List BitD} {im : Nat → Option Nat} {lo hi N : Nat} {va : Option Addr} {vc mb : Nat} {rs : List BitsD} (h : PileAt w pb l im lo hi N va vc mb rs) {k g : Nat} {e : BitD} (hk : im k = some g) (he : l[k]? = some e) : PileRead w pb l im N va vc mb rs k g e := by
  obtain ⟨h1, h2, e', h3, h4⟩ := h.inner k g hk
  rw [he] at h3
  cases h3
  exact ⟨h.blk, bitsR_at h.row, h.nest.holds, h.outer, hk, he, h4, h2, fun _ hk => h.kept hk⟩
end Go.Proofs.Ythdklbmachplmaa

namespace Go.Proofs.Ythdklbmachplmaa
open Go.RowKit Go.Maps

/-- one of the pile's bits is open -/
structure Mid (w : World) (pb X rb g mb N : Nat) (cs : List Value) (l1 l2 : List BitD) (rs1 rs2 : List BitsD) (lo a m b hi : Nat) (tv : Value) (ts : List ByteArray) (av : Value) (zs : List Int) (va : Option Addr) (vc n : Nat) (im : Nat → Option Nat) (F : Int → Option Value) (d : DgramD) : Prop where
  blk : BlockIs w pb 62 [.slice va n vc, .map (some mb)]
  row : BlockIs w rb 35 cs
  n1 : NestR w l1 rs1 lo a
  n2 : NestR w l2 rs2 b hi
  tx : w.ownsRow a 9 1 tv ts.length (st ts)
  ax : w.ownsRow m 3 1 av zs.length (intCells zs)
  outer : MapIs w mb N (outerM im)
  inner : MapIs w g N F
  box : BlockIs w X 26 [.int .i64 d.src, .int .i64 d.dst, .int .i64 d.ident, .int .i64 d.place, .bool d.more, .string d.body]
theorem Mid.on {w : World} {pb X rb g mb N : Nat} {cs : List Value} {l1 l2 : List BitD} {rs1 rs2 : List BitsD} {lo a m b hi : Nat} {tv : Value} {ts : List ByteArray} {av : Value} {zs : List Int} {va : Option Addr} {vc n : Nat} {im : Nat → Option Nat} {F : Int → Option Value} {d : DgramD} {w' : World} (h : Mid w pb X rb g mb N cs l1 l2 rs1 rs2 lo a m b hi tv ts av zs va vc n im F d) (hb : Below w.heap.size w w') : Mid w' pb X rb g mb N cs l1 l2 rs1 rs2 lo a m b hi tv ts av zs va vc n im F d :=
  ⟨h.blk.on hb h.blk.lt, h.row.on hb h.row.lt, h.n1.on hb, h.n2.on hb, rows_below h.tx hb, rows_below h.ax hb, h.outer.on hb, h.inner.on hb, h.box.on hb h.box.lt⟩
theorem Mid.turn {w : World} {pb X rb g mb N : Nat} {cs : List Value} {l1 l2 : List BitD} {rs1 rs2 : List BitsD} {lo a m b hi : Nat} {tv : Value} {ts : List ByteArray} {av : Value} {zs : List Int} {va : Option Addr} {vc n : Nat} {im : Nat → Option Nat} {F : Int → Option Value} {d : DgramD} {w' : World} {F' : Int → Option Value} (h : Mid w pb X rb g mb N cs l1 l2 rs1 rs2 lo a m b hi tv ts av zs va vc n im F d) (hgm : g ≠ mb) (hm : MapIs w' g (N + 1) F') (ht : w.mapTurned w' g) : Mid w' pb X rb g mb (N + 1) cs l1 l2 rs1 rs2 lo a m b hi tv ts av zs va vc n im F' d := by
  have turn : ∀ {j : Nat} {t : TypeId} {xs : List Value}, BlockIs w j t xs → BlockIs w' j t xs := fun hj => hj.turn h.inner ht
  exact ⟨turn h.blk, turn h.row, h.n1.other (fun _ _ q => turn q) (fun _ _ q => turn q), h.n2.other (fun _ _ q => turn q) (fun _ _ q => turn q), row_ext h.tx fun _ _ q => turn q, row_ext h.ax fun _ _ q => turn q, (h.outer.kept ht.grown (by simp; omega)).up (by omega), hm, turn h.box⟩
theorem Mid.set {w : World} {pb X rb g mb N : Nat} {cs : List Value} {l1 l2 : List BitD} {rs1 rs2 : List BitsD} {lo a m b hi : Nat} {tv : Value} {ts : List ByteArray} {av : Value} {zs : List Int} {va : Option Addr} {vc n : Nat} {im : Nat → Option Nat} {F : Int → Option Value} {d : DgramD} (h : Mid w pb X rb g mb N cs l1 l2 rs1 rs2 lo a m b hi tv ts av zs va vc n im F d) (j : Nat) (v : Value) : Mid (w.setCell ⟨rb, j, none⟩ v) pb X rb g mb N (cs.set j v) l1 l2 rs1 rs2 lo a m b hi tv ts av zs va vc n im F d := by
  have far : ∀ {i : Nat} {t : TypeId} {xs : List Value}, t ≠ 35 → BlockIs w i t xs → BlockIs (w.setCell ⟨rb, j, none⟩ v) i t xs := fun ht hi => hi.far (fun e => by subst e; exact ht (block_one hi h.row).1) _
  exact ⟨far (by decide) h.blk, h.row.set j v, h.n1.other (fun _ _ q => far (by decide) q) (fun _ _ q => far (by decide) q), h.n2.other (fun _ _ q => far (by decide) q) (fun _ _ q => far (by decide) q), row_ext h.tx fun _ _ q => far (by decide) q, row_ext h.ax fun _ _ q => far (by decide) q, h.outer.set h.row v, h.inner.set h.row v, far (by decide) h.box⟩
theorem Mid.ats {w : World} {pb X rb g mb N : Nat} {cs : List Value} {l1 l2 : List BitD} {rs1 rs2 : List BitsD} {lo a m b hi : Nat} {tv : Value} {ts : List ByteArray} {av : Value} {zs : List Int} {va : Option Addr} {vc n : Nat} {im : Nat → Option Nat} {F : Int → Option Value} {d : DgramD} {w' : World} {av' : Value} {x : Int} (h : Mid w pb X rb g mb N cs l1 l2 rs1 rs2 lo a m b hi tv ts av zs va vc n im F d) (hin : ∀ q, av.ownBlock = some q → m ≤ q ∧ q < b) (ham : a ≤ m) (hax : w'.ownsRow m 3 1 av' (zs ++ [x]).length (intCells (zs ++ [x]))) (hg : w.grownBy w' av.ownBlock) : Mid w' pb X rb g mb N cs l1 l2 rs1 rs2 lo a m b hi tv ts av' (zs ++ [x]) va vc n im F d := by
  have keep : ∀ {i : Nat} {t : TypeId} {xs : List Value}, t ≠ 3 → BlockIs w i t xs → BlockIs w' i t xs := fun ht hi => block_row hi h.ax hg ht
  have keepi : ∀ {i : Nat} {t : TypeId} {xs : List Value}, (i < m ∨ b ≤ i) → BlockIs w i t xs → BlockIs w' i t xs := fun {i t xs} ho hi => by
    unfold BlockIs
    rw [hg.block i hi.lt (fun e => by have := hin i e.symm; omega)]
    exact hi
  have km : ∀ {i M : Nat} {f : Int → Option Value}, MapIs w i M f → MapIs w' i M f := fun hi => hi.kept hg (row_notmap h.ax hi)
  have hl1 := h.n1.le
  have hl2 := h.n2.le
  exact ⟨keep (by decide) h.blk, keep (by decide) h.row, h.n1.within (fun _ _ _ _ q => keep (by decide) q) (fun _ _ _ q1 q => keepi (by omega) q), h.n2.within (fun _ _ _ _ q => keep (by decide) q) (fun _ _ q1 _ q => keepi (by omega) q), row_ext h.tx fun _ _ q => keep (by decide) q, hax, km h.outer, km h.inner, keep (by decide) h.box⟩
theorem Mid.texts {w : World} {pb X rb g mb N : Nat} {cs : List Value} {l1 l2 : List BitD} {rs1 rs2 : List BitsD} {lo a m b hi : Nat} {tv : Value} {ts : List ByteArray} {av : Value} {zs : List Int} {va : Option Addr} {vc n : Nat} {im : Nat → Option Nat} {F : Int → Option Value} {d : DgramD} {w' : World} {tv' : Value} {x : ByteArray} (h : Mid w pb X rb g mb N cs l1 l2 rs1 rs2 lo a m b hi tv ts av zs va vc n im F d) (hin : ∀ q, tv.ownBlock = some q → a ≤ q ∧ q < m) (hmb : m ≤ b) (htx : w'.ownsRow a 9 1 tv' (ts ++ [x]).length (st (ts ++ [x]))) (hg : w.grownBy w' tv.ownBlock) : Mid w' pb X rb g mb N cs l1 l2 rs1 rs2 lo a m b hi tv' (ts ++ [x]) av zs va vc n im F d := by
  have keep : ∀ {i : Nat} {t : TypeId} {xs : List Value}, t ≠ 9 → BlockIs w i t xs → BlockIs w' i t xs := fun ht hi => block_row hi h.tx hg ht
  have keepi : ∀ {i : Nat} {t : TypeId} {xs : List Value}, (i < a ∨ m ≤ i) → BlockIs w i t xs → BlockIs w' i t xs := fun {i t xs} ho hi => by
    unfold BlockIs
    rw [hg.block i hi.lt (fun e => by have := hin i e.symm; omega)]
    exact hi
  have km : ∀ {i M : Nat} {f : Int → Option Value}, MapIs w i M f → MapIs w' i M f := fun hi => hi.kept hg (row_notmap h.tx hi)
  have hl1 := h.n1.le
  have hl2 := h.n2.le
  exact ⟨keep (by decide) h.blk, keep (by decide) h.row, h.n1.within (fun _ _ _ q1 q => keepi (by omega) q) (fun _ _ _ _ q => keep (by decide) q), h.n2.within (fun _ _ q1 _ q => keepi (by omega) q) (fun _ _ _ _ q => keep (by decide) q), htx, row_ext h.ax fun _ _ q => keep (by decide) q, km h.outer, km h.inner, keep (by decide) h.box⟩
/-- the pile is read again -/
theorem Mid.read {w : World} {pb X rb g mb N : Nat} {l1 l2 : List BitD} {rs1 rs2 : List BitsD} {r0 : List Value} {lo a m b hi : Nat} {ta : Option Addr} {tc : Nat} {aa : Option Addr} {ac : Nat} {vc n : Nat} {im : Nat → Option Nat} {d : DgramD} {e : BitD} {tot : Int} {ts : List ByteArray} {zs : List Int}
    (h : Mid w pb X rb g mb N (midCs rs1 rs2 r0 e (.slice ta ts.length tc) (.slice aa zs.length ac) tot) l1 l2 rs1 rs2 lo a m b hi (.slice ta ts.length tc) ts (.slice aa zs.length ac) zs (some ⟨rb, 0, none⟩) vc n im (firstMap zs) d) (hn : n = rs1.length + 1 + rs2.length) (hk : im l1.length = some g) (hgm : g ≠ mb) :
    PileRead w pb (l1 ++ ⟨e.src, e.ident, ts, zs, tot, e.lim⟩ :: l2) im N (some ⟨rb, 0, none⟩) vc mb (rs1 ++ rawB ⟨e.src, e.ident, ts, zs, tot, e.lim⟩ ta tc aa ac :: rs2) l1.length g ⟨e.src, e.ident, ts, zs, tot, e.lim⟩ := by
  have hcs := midCs_raw rs1 rs2 r0 ⟨e.src, e.ident, ts, zs, tot, e.lim⟩ ta tc aa ac
  have hrow := h.row
  have e2 : midCs rs1 rs2 r0 ⟨e.src, e.ident, ts, zs, tot, e.lim⟩ (.slice ta ts.length tc) (.slice aa zs.length ac) tot = midCs rs1 rs2 r0 e (.slice ta ts.length tc) (.slice aa zs.length ac) tot := rfl
  rw [e2] at hcs
  rw [← hcs] at hrow
  have hlen : (rs1 ++ rawB ⟨e.src, e.ident, ts, zs, tot, e.lim⟩ ta tc aa ac :: rs2).length = n := by rw [hn, List.length_append, List.length_cons]; omega
  have h2 : Two (HoldsB w) (⟨e.src, e.ident, ts, zs, tot, e.lim⟩ :: l2) (rawB ⟨e.src, e.ident, ts, zs, tot, e.lim⟩ ta tc aa ac :: rs2) := ⟨⟨ta, tc, aa, ac, rfl, (own_of_row h.tx).vals (st_length _), (own_of_row h.ax).vals (intCells_length _)⟩, h.n2.holds⟩
  refine ⟨?_, bitssAt_of hrow, Two.append h2 h.n1.holds, h.outer, hk, by simp, h.inner, hgm, fun w' hK => ⟨bitssAt_of (hK _ _ _ (Or.inl rfl) hrow), ?_⟩⟩
  rotate_left
  · have k9 : ∀ g cs, BlockIs w g 9 cs → BlockIs w' g 9 cs := fun g cs q => hK g _ cs (Or.inr (Or.inl rfl)) q
    have k3 : ∀ g cs, BlockIs w g 3 cs → BlockIs w' g 3 cs := fun g cs q => hK g _ cs (Or.inr (Or.inr rfl)) q
    have h3 : Two (HoldsB w') (⟨e.src, e.ident, ts, zs, tot, e.lim⟩ :: l2) (rawB ⟨e.src, e.ident, ts, zs, tot, e.lim⟩ ta tc aa ac :: rs2) := ⟨⟨ta, tc, aa, ac, rfl, (own_of_row (row_ext h.tx k9)).vals (st_length _), (own_of_row (row_ext h.ax k3)).vals (intCells_length _)⟩, (h.n2.other k9 k3).holds⟩
    exact Two.append h3 (h.n1.other k9 k3).holds
  rw [hlen]
  exact h.blk
end Go.Proofs.Ythdklbmachplmaa
