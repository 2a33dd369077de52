/-
  The memory of spec.JoinBits: its list, whole and with one of its bits open; what it finds.
  Bits as they are drawn stay good; their total may be written anew.
-/
import Derived.Test.YthdklbmachplmaaJoint1
import Derived.Test.YthdklbmachplmaaJoint2
namespace Go.Proofs.Ythdklbmachplmaa
open Go.RowKit

/-- where bits are found, looked for from the end on -/
def fkB (l : List BitD) (d : DgramD) (q : Nat) : Int := match (l.drop q).findIdx? (isOf d) with
  | some j => (q : Int) + (j : Int)
  | none => -1
theorem fkB_end (l : List BitD) (d : DgramD) : fkB l d l.length = -1 := by simp [fkB]
theorem fkB_hit {l : List BitD} {d : DgramD} {q : Nat} (h : q < l.length) (hy : isOf d l[q] = true) : fkB l d q = (q : Int) := by
  rw [fkB, List.drop_eq_getElem_cons h, List.findIdx?_cons, if_pos hy]
  simp
theorem fkB_miss {l : List BitD} {d : DgramD} {q : Nat} (h : q < l.length) (hy : isOf d l[q] = false) : fkB l d q = fkB l d (q + 1) := by
  rw [fkB, List.drop_eq_getElem_cons h, List.findIdx?_cons, if_neg (by simp [hy]), fkB]
  cases hj : (l.drop (q + 1)).findIdx? (isOf d) with
  | none => rfl
  | some j => simp; omega
theorem fkB_some {l : List BitD} {d : DgramD} {k : Nat} (h : foundB l d = some k) : fkB l d 0 = (k : Int) := by
  rw [foundB] at h
  simp [fkB, h]
theorem fkB_none {l : List BitD} {d : DgramD} (h : foundB l d = none) : fkB l d 0 = -1 := by
  rw [foundB] at h
  simp [fkB, h]
/-- the list of its own -/
structure OutS (w : World) (d : DgramD) (W : World) (va : Option Addr) (vc : Nat) (l : List BitD) (rs : List BitsD) : Prop where
  row : W.ownsRow (w.heap.size + 2) 35 6 (.slice va l.length vc) l.length (bitsCells rs)
  nest : NestR W l rs (w.heap.size + 2) W.heap.size
  j : JoinW w d W
theorem OutS.on {w : World} {d : DgramD} {W W' : World} {va : Option Addr} {vc : Nat} {l : List BitD} {rs : List BitsD} (h : OutS w d W va vc l rs) (hb : Below W.heap.size W W') : OutS w d W' va vc l rs :=
  ⟨rows_below h.row hb, (h.nest.on hb).up hb.size, h.j.on hb h.j.big⟩
theorem OutS.at_ {w : World} {d : DgramD} {W : World} {va : Option Addr} {vc : Nat} {l : List BitD} {rs : List BitsD} (h : OutS w d W va vc l rs) : BitssAt W va rs := by
  have h1 := h.row
  rw [h.nest.length] at h1
  exact bitsR_at h1
/-- values in a block of a kind -/
def TyV (w : World) (t : TypeId) (ao : Option Addr) (cs : List Value) (lo : Nat) : Prop := cs = [] ∨ ∃ g r, ao = some ⟨g, 0, none⟩ ∧ lo ≤ g ∧ BlockIs w g t (cs ++ r)
theorem TyV.other {w w' : World} {t : TypeId} {ao : Option Addr} {cs : List Value} {lo : Nat} (h : TyV w t ao cs lo) (hk : ∀ g xs, lo ≤ g → BlockIs w g t xs → BlockIs w' g t xs) : TyV w' t ao cs lo :=
  h.imp id fun ⟨g, r, e, l, b⟩ => ⟨g, r, e, l, hk _ _ l b⟩
theorem TyV.low {w : World} {t : TypeId} {ao : Option Addr} {cs : List Value} {lo lo' : Nat} (h : TyV w t ao cs lo) (hl : lo' ≤ lo) : TyV w t ao cs lo' :=
  h.imp id fun ⟨g, r, e, l, b⟩ => ⟨g, r, e, Nat.le_trans hl l, b⟩
theorem TyV.vals {w : World} {t : TypeId} {ao : Option Addr} {cs : List Value} {lo : Nat} (h : TyV w t ao cs lo) : ValsAt w ao cs := by
  rcases h with h | ⟨g, r, rfl, _, h⟩
  · exact fun h0 => absurd h h0
  · exact valsAt_of h
theorem tyV_row {w : World} {base n : Nat} {t : TypeId} {va : Option Addr} {vc : Nat} {cs : List Value} (h : w.ownsRow base t 1 (.slice va n vc) n cs) (hn : cs.length = n) : TyV w t va cs base := by
  rcases own_of_row h with h0 | ⟨g, r, h1, h2, _, h4⟩
  · exact Or.inl (List.eq_nil_of_length_eq_zero (by omega))
  · exact Or.inr ⟨g, r, h1, h2, h4⟩
def TyB (w : World) (lo : Nat) (e : BitD) (r : BitsD) : Prop := ∃ ta tc aa ac, r = rawB e ta tc aa ac ∧ TyV w 9 ta (st e.texts) lo ∧ TyV w 3 aa (intCells e.ats) lo
theorem TyB.other {w w' : World} {lo : Nat} {e : BitD} {r : BitsD} (h : TyB w lo e r) (h9 : ∀ g xs, lo ≤ g → BlockIs w g 9 xs → BlockIs w' g 9 xs) (h3 : ∀ g xs, lo ≤ g → BlockIs w g 3 xs → BlockIs w' g 3 xs) : TyB w' lo e r := by
  obtain ⟨ta, tc, aa, ac, e1, e2, e3⟩ := h
  exact ⟨ta, tc, aa, ac, e1, e2.other h9, e3.other h3⟩
theorem TyB.low {w : World} {lo lo' : Nat} {e : BitD} {r : BitsD} (h : TyB w lo e r) (hl : lo' ≤ lo) : TyB w lo' e r := by
  obtain ⟨ta, tc, aa, ac, e1, e2, e3⟩ := h
  exact ⟨ta, tc, aa, ac, e1, e2.low hl, e3.low hl⟩
theorem TyB.holds {w : World} {lo : Nat} {e : BitD} {r : BitsD} (h : TyB w lo e r) : HoldsB w e r := by
  obtain ⟨ta, tc, aa, ac, e1, e2, e3⟩ := h
  exact ⟨ta, tc, aa, ac, e1, e2.vals, e3.vals⟩
theorem OwnRB.ty {w : World} {e : BitD} {r : BitsD} {lo hi : Nat} (h : OwnRB w e r lo hi) : TyB w lo e r := by
  obtain ⟨ta, tc, aa, ac, m, e1, e2, e3, e4, _⟩ := h
  exact ⟨ta, tc, aa, ac, e1, tyV_row e2.1 (st_length _), (tyV_row e3.1 (intCells_length _)).low e4⟩
theorem NestR.ty {w : World} : ∀ {l : List BitD} {rs : List BitsD} {lo hi : Nat}, NestR w l rs lo hi → Two (TyB w lo) l rs
  | [], [], _, _, _ => trivial
  | _ :: _, _ :: _, _, _, ⟨_, h1, h2⟩ => ⟨h1.ty, h2.ty.mono fun _ _ q => q.low h1.le⟩
/-- bits in blocks of their kinds -/
def BitsTy (w : World) (va : Option Addr) (l : List BitD) (rs : List BitsD) (lo : Nat) : Prop := (rs = [] ∨ ∃ rb r0, va = some ⟨rb, 0, none⟩ ∧ lo ≤ rb ∧ BlockIs w rb 35 (bitsCells rs ++ r0)) ∧ Two (TyB w lo) l rs
theorem BitsTy.on {w w' : World} {va : Option Addr} {l : List BitD} {rs : List BitsD} {lo : Nat} (h : BitsTy w va l rs lo) (hb : Below w.heap.size w w') : BitsTy w' va l rs lo :=
  ⟨h.1.imp id fun ⟨rb, r0, e1, e2, e3⟩ => ⟨rb, r0, e1, e2, e3.on hb e3.lt⟩, h.2.mono fun _ _ q => q.other (fun _ _ _ q => q.on hb q.lt) (fun _ _ _ q => q.on hb q.lt)⟩
theorem BitsTy.cur {w w' : World} {va : Option Addr} {l : List BitD} {rs : List BitsD} {lo C : Nat} (h : BitsTy w va l rs lo) (hg : w.grownBy w' (some C)) (hC : C < lo) : BitsTy w' va l rs lo := by
  have keep : ∀ {g : Nat} {t : TypeId} {xs : List Value}, lo ≤ g → BlockIs w g t xs → BlockIs w' g t xs := fun {g t xs} hl hb => by
    unfold BlockIs
    rw [hg.block g hb.lt (by simp; omega)]
    exact hb
  exact ⟨h.1.imp id fun ⟨rb, r0, e1, e2, e3⟩ => ⟨rb, r0, e1, e2, keep e2 e3⟩, h.2.mono fun _ _ q => q.other (fun _ _ l q => keep l q) (fun _ _ l q => keep l q)⟩
theorem BitsTy.low {w : World} {va : Option Addr} {l : List BitD} {rs : List BitsD} {lo lo' : Nat} (h : BitsTy w va l rs lo) (hl : lo' ≤ lo) : BitsTy w va l rs lo' :=
  ⟨h.1.imp id fun ⟨rb, r0, e1, e2, e3⟩ => ⟨rb, r0, e1, Nat.le_trans hl e2, e3⟩, h.2.mono fun _ _ q => q.low hl⟩
theorem BitsTy.at_ {w : World} {va : Option Addr} {l : List BitD} {rs : List BitsD} {lo : Nat} (h : BitsTy w va l rs lo) : BitssAt w va rs := by
  rcases h.1 with h | ⟨rb, r0, rfl, _, h⟩
  · exact fun h0 => absurd h h0
  · exact bitssAt_of h
theorem BitsTy.holds {w : World} {va : Option Addr} {l : List BitD} {rs : List BitsD} {lo : Nat} (h : BitsTy w va l rs lo) : BitsHold w va l := ⟨rs, h.at_, h.2.mono fun _ _ q => q.holds⟩
theorem bitsTy_row {w : World} {base : Nat} {va : Option Addr} {vc : Nat} {l : List BitD} {rs : List BitsD} {hi : Nat} (h : w.ownsRow base 35 6 (.slice va l.length vc) l.length (bitsCells rs)) (hn : NestR w l rs base hi) : BitsTy w va l rs base := by
  refine ⟨?_, hn.ty⟩
  rcases own_of_row h with h0 | ⟨g, r, h1, h2, _, h4⟩
  · exact Or.inl (List.eq_nil_of_length_eq_zero (by rw [← hn.length]; exact h0))
  · exact Or.inr ⟨g, r, h1, h2, h4⟩
theorem BitsTy.six {w : World} {va : Option Addr} {l : List BitD} {rs : List BitsD} {lo b j : Nat} {cs : List Value} (h : BitsTy w va l rs lo) (hb : BlockIs w b 26 cs) (v : Value) : BitsTy (w.setCell ⟨b, j, none⟩ v) va l rs lo := by
  have far : ∀ {i : Nat} {t : TypeId} {xs : List Value}, t ≠ 26 → BlockIs w i t xs → BlockIs (w.setCell ⟨b, j, none⟩ v) i t xs := fun ht hi => hi.far (fun e => by subst e; exact ht (block_one hi hb).1) _
  exact ⟨h.1.imp id fun ⟨rb, r0, e1, e2, e3⟩ => ⟨rb, r0, e1, e2, far (by decide) e3⟩, h.2.mono fun _ _ q => q.other (fun _ _ _ q => far (by decide) q) (fun _ _ _ q => far (by decide) q)⟩
/-- one of them is open -/
structure MidS (w0 : World) (w : World) (rb : Nat) (cs : List Value) (l1 l2 : List BitD) (rs1 rs2 : List BitsD) (lo a m b hi : Nat) (tv : Value) (ts : List ByteArray) (av : Value) (zs : List Int) (d : DgramD) : Prop where
  row : BlockIs w rb 35 cs
  n1 : NestR w l1 rs1 lo a
  n2 : NestR w l2 rs2 b hi
  tx : w.ownsRow a 9 1 tv ts.length (st ts)
  ax : w.ownsRow m 3 1 av zs.length (intCells zs)
  j : JoinW w0 d w
theorem MidS.on {w0 w : World} {rb : Nat} {cs : List Value} {l1 l2 : List BitD} {rs1 rs2 : List BitsD} {lo a m b hi : Nat} {tv : Value} {ts : List ByteArray} {av : Value} {zs : List Int} {d : DgramD} {w' : World} (h : MidS w0 w rb cs l1 l2 rs1 rs2 lo a m b hi tv ts av zs d) (hb : Below w.heap.size w w') : MidS w0 w' rb cs l1 l2 rs1 rs2 lo a m b hi tv ts av zs d :=
  ⟨h.row.on hb h.row.lt, h.n1.on hb, h.n2.on hb, rows_below h.tx hb, rows_below h.ax hb, h.j.on hb h.j.big⟩
theorem MidS.set {w0 w : World} {rb : Nat} {cs : List Value} {l1 l2 : List BitD} {rs1 rs2 : List BitsD} {lo a m b hi : Nat} {tv : Value} {ts : List ByteArray} {av : Value} {zs : List Int} {d : DgramD} (h : MidS w0 w rb cs l1 l2 rs1 rs2 lo a m b hi tv ts av zs d) (hrb : w0.heap.size ≤ rb) (j : Nat) (v : Value) : MidS w0 (w.setCell ⟨rb, j, none⟩ v) rb (cs.set j v) l1 l2 rs1 rs2 lo a m b hi tv ts av zs d := by
  have far : ∀ {i : Nat} {t : TypeId} {xs : List Value}, t ≠ 35 → BlockIs w i t xs → BlockIs (w.setCell ⟨rb, j, none⟩ v) i t xs := fun ht hi => hi.far (fun e => by subst e; exact ht (block_one hi h.row).1) _
  exact ⟨h.row.set j v, h.n1.other (fun _ _ q => far (by decide) q) (fun _ _ q => far (by decide) q), h.n2.other (fun _ _ q => far (by decide) q) (fun _ _ q => far (by decide) q), row_ext h.tx fun _ _ q => far (by decide) q, row_ext h.ax fun _ _ q => far (by decide) q, ⟨far (by decide) h.j.x, far (by decide) h.j.z, h.j.b.setCell (p := ⟨rb, j, none⟩) hrb v⟩⟩
theorem JoinW.grow {w : World} {d : DgramD} {W W' : World} (h : JoinW w d W) {base n : Nat} {t : TypeId} {v : Value} {xs : List Value} (hr : W.ownsRow base t 1 v n xs) (hg : W.grownBy W' v.ownBlock) (ht : 26 ≠ t) (hb : w.heap.size ≤ base) : JoinW w d W' :=
  ⟨block_row h.x hr hg ht, block_row h.z hr hg ht, row_grow h.b hr hg hb h.b.size⟩
theorem MidS.ats {w0 w : World} {rb : Nat} {cs : List Value} {l1 l2 : List BitD} {rs1 rs2 : List BitsD} {lo a m b hi : Nat} {tv : Value} {ts : List ByteArray} {av : Value} {zs : List Int} {d : DgramD} {w' : World} {av' : Value} {x : Int} (h : MidS w0 w rb cs l1 l2 rs1 rs2 lo a m b hi tv ts av zs d) (hin : ∀ q, av.ownBlock = some q → m ≤ q ∧ q < b) (ham : a ≤ m) (hlo : w0.heap.size ≤ m) (hax : w'.ownsRow m 3 1 av' (zs ++ [x]).length (intCells (zs ++ [x]))) (hg : w.grownBy w' av.ownBlock) : MidS w0 w' rb cs l1 l2 rs1 rs2 lo a m b hi tv ts av' (zs ++ [x]) d := by
  have keep : ∀ {i : Nat} {t : TypeId} {xs : List Value}, t ≠ 3 → BlockIs w i t xs → BlockIs w' i t xs := fun ht hi => block_row hi h.ax hg ht
  have keepi : ∀ {i : Nat} {t : TypeId} {xs : List Value}, (i < m ∨ b ≤ i) → BlockIs w i t xs → BlockIs w' i t xs := fun {i t xs} ho hi => by
    unfold BlockIs
    rw [hg.block i hi.lt (fun e => by have := hin i e.symm; omega)]
    exact hi
  have hl1 := h.n1.le
  have hl2 := h.n2.le
  exact ⟨keep (by decide) h.row, h.n1.within (fun _ _ _ _ q => keep (by decide) q) (fun _ _ _ q1 q => keepi (by omega) q), h.n2.within (fun _ _ _ _ q => keep (by decide) q) (fun _ _ q1 _ q => keepi (by omega) q), row_ext h.tx fun _ _ q => keep (by decide) q, hax, h.j.grow h.ax hg (by decide) hlo⟩
theorem MidS.texts {w0 w : World} {rb : Nat} {cs : List Value} {l1 l2 : List BitD} {rs1 rs2 : List BitsD} {lo a m b hi : Nat} {tv : Value} {ts : List ByteArray} {av : Value} {zs : List Int} {d : DgramD} {w' : World} {tv' : Value} {x : ByteArray} (h : MidS w0 w rb cs l1 l2 rs1 rs2 lo a m b hi tv ts av zs d) (hin : ∀ q, tv.ownBlock = some q → a ≤ q ∧ q < m) (hmb : m ≤ b) (hlo : w0.heap.size ≤ a) (htx : w'.ownsRow a 9 1 tv' (ts ++ [x]).length (st (ts ++ [x]))) (hg : w.grownBy w' tv.ownBlock) : MidS w0 w' rb cs l1 l2 rs1 rs2 lo a m b hi tv' (ts ++ [x]) av zs d := by
  have keep : ∀ {i : Nat} {t : TypeId} {xs : List Value}, t ≠ 9 → BlockIs w i t xs → BlockIs w' i t xs := fun ht hi => block_row hi h.tx hg ht
  have keepi : ∀ {i : Nat} {t : TypeId} {xs : List Value}, (i < a ∨ m ≤ i) → BlockIs w i t xs → BlockIs w' i t xs := fun {i t xs} ho hi => by
    unfold BlockIs
    rw [hg.block i hi.lt (fun e => by have := hin i e.symm; omega)]
    exact hi
  have hl1 := h.n1.le
  have hl2 := h.n2.le
  exact ⟨keep (by decide) h.row, h.n1.within (fun _ _ _ q1 q => keepi (by omega) q) (fun _ _ _ _ q => keep (by decide) q), h.n2.within (fun _ _ q1 _ q => keepi (by omega) q) (fun _ _ _ _ q => keep (by decide) q), htx, row_ext h.ax fun _ _ q => keep (by decide) q, h.j.grow h.tx hg (by decide) hlo⟩
theorem MidS.ty {w0 w : World} {rb : Nat} {l1 l2 : List BitD} {rs1 rs2 : List BitsD} {r0 : List Value} {lo a m b hi : Nat} {ta : Option Addr} {tc : Nat} {aa : Option Addr} {ac : Nat} {d : DgramD} {e : BitD} {tot : Int} {ts : List ByteArray} {zs : List Int}
    (h : MidS w0 w rb (midCs rs1 rs2 r0 e (.slice ta ts.length tc) (.slice aa zs.length ac) tot) l1 l2 rs1 rs2 lo a m b hi (.slice ta ts.length tc) ts (.slice aa zs.length ac) zs d) (hrb : lo ≤ rb) (ham : a ≤ m) (hmb : m ≤ b) :
    BitsTy w (some ⟨rb, 0, none⟩) (l1 ++ ⟨e.src, e.ident, ts, zs, tot, e.lim⟩ :: l2) (rs1 ++ rawB ⟨e.src, e.ident, ts, zs, tot, e.lim⟩ ta tc aa ac :: rs2) lo := by
  have hla := h.n1.le
  have hl2 := h.n2.le
  have hcs := midCs_raw rs1 rs2 r0 ⟨e.src, e.ident, ts, zs, tot, e.lim⟩ ta tc aa ac
  have e2 : midCs rs1 rs2 r0 ⟨e.src, e.ident, ts, zs, tot, e.lim⟩ (.slice ta ts.length tc) (.slice aa zs.length ac) tot = midCs rs1 rs2 r0 e (.slice ta ts.length tc) (.slice aa zs.length ac) tot := rfl
  have hrow := h.row
  rw [e2] at hcs
  rw [← hcs] at hrow
  have h2 : Two (TyB w lo) (⟨e.src, e.ident, ts, zs, tot, e.lim⟩ :: l2) (rawB ⟨e.src, e.ident, ts, zs, tot, e.lim⟩ ta tc aa ac :: rs2) := ⟨⟨ta, tc, aa, ac, rfl, (tyV_row h.tx (st_length _)).low hla, (tyV_row h.ax (intCells_length _)).low (by omega)⟩, h.n2.ty.mono fun _ _ q => q.low (by omega)⟩
  exact ⟨Or.inr ⟨rb, r0, rfl, hrb, hrow⟩, Two.append h2 h.n1.ty⟩
/-- what the specification's JoinBits did -/
def JoinDidT (R : List BitD × DgramD × Bool) (w : World) (e : Ending) (w' : World) : Prop := ∃ va vc rs, e = .returned (.tuple #[.slice va R.1.length vc, .agg #[.int .i64 R.2.1.src, .int .i64 R.2.1.dst, .int .i64 R.2.1.ident, .int .i64 R.2.1.place, .bool R.2.1.more, .string R.2.1.body], .bool R.2.2]) ∧ R.1.length ≤ vc ∧ BitsTy w' va R.1 rs w.heap.size ∧ Below w.heap.size w w'
theorem joinAt_some {l : List BitD} {d : DgramD} {now : Int} {k : Nat} (h : foundB l d = some k) : ∃ hk : k < l.length, joinAt l d now = (l.take k, l[k], l.drop (k + 1)) := by
  have hk : k < l.length := by
    have h2 := h
    rw [foundB] at h2
    exact (List.findIdx?_eq_some_iff_findIdx_eq.1 h2).1
  exact ⟨hk, by simp [joinAt, h, hk]⟩
theorem list_parts {α : Type} {l : List α} {k : Nat} (hk : k < l.length) : l.take k ++ l[k] :: l.drop (k + 1) = l := by rw [List.getElem_cons_drop hk, List.take_append_drop]
/-- a part of a row -/
theorem bitssAt_take {w : World} {rb : Nat} {rs : List BitsD} {r0 : List Value} (k : Nat) (h : BlockIs w rb 35 (bitsCells rs ++ r0)) : BitssAt w (some ⟨rb, 0, none⟩) (rs.take k) := by
  have e : bitsCells rs ++ r0 = bitsCells (rs.take k) ++ (bitsCells (rs.drop k) ++ r0) := by rw [← List.append_assoc, ← bitsR_append, List.take_append_drop]
  rw [e] at h
  exact bitssAt_of h
theorem bitssAt_drop {w : World} {va : Option Addr} {b off k : Nat} {rs : List BitsD} (hva : va = some ⟨b, off, none⟩) (h : BitssAt w va rs) : BitssAt w (some ⟨b, off + k * 6, none⟩) (rs.drop k) := by
  intro hne
  have hlt : k < rs.length := by
    rcases Nat.lt_or_ge k rs.length with q | q
    · exact q
    · exact absurd (List.drop_eq_nil_of_le q) hne
  obtain ⟨b2, off2, e1, hc⟩ := h (by intro e; rw [e] at hlt; simp at hlt)
  rw [hva] at e1
  simp only [Option.some.injEq, Addr.mk.injEq] at e1
  obtain ⟨rfl, rfl, _⟩ := e1
  refine ⟨b, off + k * 6, rfl, fun j hj => ?_⟩
  have hj2 : k + j < rs.length := by rw [List.length_drop] at hj; omega
  have hx := hc (k + j) hj2
  rw [show off + (k + j) * 6 = off + k * 6 + j * 6 by omega] at hx
  rw [List.getElem_drop]
  exact hx
end Go.Proofs.Ythdklbmachplmaa

namespace Go.Proofs.Ythdklbmachplmaa
open Go.RowKit

def BitsOk (l : List BitD) (n : Nat) : Prop := l.length ≤ 3 ∧ ∀ e ∈ l, GoodB e ∧ e.ats.length ≤ n ∧ IntsWf e.ats
theorem BitsOk.up {l : List BitD} {n m : Nat} (h : BitsOk l n) (hm : n ≤ m) : BitsOk l m := ⟨h.1, fun e he => ⟨(h.2 e he).1, by have := (h.2 e he).2.1; omega, (h.2 e he).2.2⟩⟩
theorem bitsOk_nil (n : Nat) : BitsOk [] n := ⟨Nat.zero_le _, fun e h => by cases h⟩
theorem takeD_wf {e : BitD} {d : DgramD} (h : IntsWf e.ats) (hd : dgramOk d = true) : IntsWf (takeD e d).ats := by
  obtain ⟨_, _, _, h4, _⟩ := dgramOk_bd hd
  unfold takeD
  split
  · exact h
  · intro z hz
    simp only [addPart, List.mem_append, List.mem_singleton] at hz
    rcases hz with hz | hz
    · exact h z hz
    · subst hz
      have h1 : IntKind.i64.min = -9223372036854775808 := rfl
      have h2 : IntKind.i64.max = 9223372036854775807 := rfl
      simp [Lit.wf]
      omega
theorem joinAt_ok {l : List BitD} {d : DgramD} {now : Int} {L1 L2 : List BitD} {e : BitD} {n : Nat} (h : joinAt l d now = (L1, e, L2)) (hg : BitsOk l n) : (GoodB e ∧ e.ats.length ≤ n ∧ IntsWf e.ats) ∧ (L1 ++ e :: L2).length ≤ 3 ∧ ∀ x ∈ L1 ++ L2, x ∈ l := by
  have hl := hg.1
  cases hf : foundB l d with
  | some k =>
    obtain ⟨hk, hj⟩ := joinAt_some (now := now) hf
    rw [hj] at h
    simp only [Prod.mk.injEq] at h
    obtain ⟨rfl, rfl, rfl⟩ := h
    refine ⟨hg.2 _ (List.getElem_mem hk), by rw [list_parts hk]; exact hl, fun x hx => ?_⟩
    rcases List.mem_append.1 hx with q | q
    · exact List.mem_of_mem_take q
    · exact List.mem_of_mem_drop q
  | none =>
    rw [joinAt, hf] at h
    simp only [Prod.mk.injEq] at h
    obtain ⟨rfl, rfl, rfl⟩ := h
    refine ⟨⟨newB_good d now, Nat.zero_le _, fun z hz => by simp [newB] at hz⟩, ?_, fun x hx => ?_⟩
    · rw [List.length_append, List.length_drop]
      simp only [List.length_cons, List.length_nil]
      split <;> omega
    · rw [List.append_nil] at hx
      exact List.mem_of_mem_drop hx
theorem join_ok {l : List BitD} {d : DgramD} {now : Int} {n : Nat} (h : BitsOk l n) (hn : n ≤ 800) : BitsOk (joinB l d now).1 (n + 1) := by
  cases hj : joinOk d now with
  | false => rw [joinB_bad hj]; exact h.up (by omega)
  | true =>
    have hd : dgramOk d = true := by
      unfold joinOk at hj
      simp only [Bool.and_eq_true] at hj
      exact hj.1
    by_cases h1 : d.place = 0 ∧ d.more = false
    · rw [joinB_once hj h1]; exact h.up (by omega)
    · obtain ⟨L1, e, L2, hA⟩ : ∃ L1 e L2, joinAt l d now = (L1, e, L2) := ⟨_, _, _, rfl⟩
      obtain ⟨⟨g1, g2, g3⟩, g4, g5⟩ := joinAt_ok hA h
      cases hb : bodyB (takeD e d) with
      | some S =>
        rw [joinB_some hj h1 (S := S) (by rw [hA]; exact hb), hA]
        refine ⟨?_, fun x hx => (h.up (by omega)).2 x (g5 x hx)⟩
        simp at g4 ⊢
        omega
      | none =>
        rw [joinB_none hj h1 (by rw [hA]; exact hb), hA]
        dsimp only
        refine ⟨by simp at g4 ⊢; omega, fun x hx => ?_⟩
        rcases List.mem_append.1 hx with q | q
        · exact (h.up (by omega)).2 x (g5 x (List.mem_append_left _ q))
        · rcases List.mem_cons.1 q with q | q
          · subst q
            exact ⟨takeD_good g1 (by omega) hd, by have := takeD_len e d; omega, takeD_wf g3 hd⟩
          · exact (h.up (by omega)).2 x (g5 x (List.mem_append_right _ q))
/-- another total -/
def totB (e : BitD) (x : Int) : BitD := ⟨e.src, e.ident, e.texts, e.ats, x, e.lim⟩
theorem totB_ok {e : BitD} {l : List BitD} {n : Nat} {x : Int} (h : BitsOk (e :: l) n) (hx : x ≤ 1000) : BitsOk (totB e x :: l) n := by
  refine ⟨h.1, fun y hy => ?_⟩
  rcases List.mem_cons.1 hy with q | q
  · subst q
    obtain ⟨h1, h2, h3⟩ := h.2 e (List.mem_cons_self)
    exact ⟨⟨h1.len, h1.few, h1.short, hx⟩, h2, h3⟩
  · exact h.2 y (List.mem_cons_of_mem _ q)
theorem BitsTy.tot {w : World} {rb : Nat} {e : BitD} {l : List BitD} {rs : List BitsD} {lo : Nat} (h : BitsTy w (some ⟨rb, 0, none⟩) (e :: l) rs lo) (x : Int) : w.cell? ⟨rb, 4, none⟩ = some (.int .i64 e.total) ∧ w.frozen? ⟨rb, 4, none⟩ = false ∧ lo ≤ rb ∧ ∃ rs', BitsTy (w.setCell ⟨rb, 4, none⟩ (.int .i64 x)) (some ⟨rb, 0, none⟩) (totB e x :: l) rs' lo := by
  obtain ⟨h1, h2⟩ := h
  match rs, h2 with
  | r :: rs, h2 =>
    obtain ⟨ta, tc, aa, ac, rfl, v9, v3⟩ := h2.1
    rcases h1 with h0 | ⟨rb', r0, e1, e2, e3⟩
    · cases h0
    · cases e1
      have far : ∀ {i : Nat} {t : TypeId} {xs : List Value}, t ≠ 35 → BlockIs w i t xs → BlockIs (w.setCell ⟨rb, 4, none⟩ (.int .i64 x)) i t xs := fun ht hi => hi.far (fun e => by subst e; exact ht (block_one hi e3).1) _
      refine ⟨e3.cell (j := 4) rfl, e3.thaw 4, e2, rawB (totB e x) ta tc aa ac :: rs, Or.inr ⟨rb, r0, rfl, e2, e3.set 4 (.int .i64 x)⟩, ⟨ta, tc, aa, ac, rfl, v9.other (fun _ _ _ q => far (by decide) q), v3.other (fun _ _ _ q => far (by decide) q)⟩, h2.2.mono fun _ _ q => q.other (fun _ _ _ q => far (by decide) q) (fun _ _ _ q => far (by decide) q)⟩
theorem cutD_some {d : DgramD} {size : Int} (h : cutOk d size = true) : 0 < (cutD d size).length ∧ (cutD d size).length ≤ 20 := by
  refine ⟨?_, cutD_few d size⟩
  rw [cutD_yes h, cutTo_length]
  unfold cutOk at h
  simp only [Bool.and_eq_true, within_iff] at h
  have hb := (dgramOk_bd h.1).2.2.2.2.2.1.1
  have h2 : 0 < size.toNat / 8 * 8 := by omega
  rw [← parts_more h2]
  omega
theorem cutD_small {d : DgramD} {size : Int} (hd : d.body.size ≤ 160) {g : DgramD} (h : g ∈ cutD d size) : g.body.size ≤ 1048576 := by
  unfold cutD at h
  split at h
  · obtain ⟨k, _, rfl⟩ := List.mem_map.1 h
    show (d.body.extract _ _).size ≤ _
    rw [ByteArray.size_extract]
    omega
  · cases h
end Go.Proofs.Ythdklbmachplmaa
