/-
  A list of acts that came in, read as data.
  A list of numbers that came in, read as data.
  The walk of laws.toActS: acts are laid anew, in memory of their own.
  Plain facts on rows that a call owns; nothing of the program stands here.
  Plain facts on figures; nothing of the program stands here.
  Plain facts on the values of figures; nothing of the program stands here.
  Plain facts on decimal figures; nothing of the program stands here.
  The walk of laws.markText: the text by which a place is marked.
  The walks of laws.markFileS, markDisk: a disk of the call's own is written over with marks.
  The walks of laws.heldFileS, heldDisk: a disk that holds marks is found to hold them.
  A disk that an answer owns: read, written over with marks.
  The walks of laws.eqFile, eqFileS, eqDisk: two disks that are alike are found alike.
  Rows of the call's own between two sizes of memory, and the helpers of the exact laws in one form.
-/
import Derived.Test.YtfkknmhokiacaaaJoint1
import Derived.Test.YtfkknmhokiacaaaJoint2
import Derived.Test.YtfkknmhokiacaaaRows
import Derived.Deep.Strs
import Derived.ChangeSame
import Derived.OpenShut
import Derived.Maps.AppendAt
import Derived.BigQuiet
import Derived.Lib.QuietBelow
import Derived.WalkSmall
import Derived.WalkKit
namespace Go.Proofs.Ytfkknmhokiacaaa
open Go.ChangeShapes Go.WideShapes Go.RowKit Go.Deep

instance : Inhabited ActD := ⟨⟨0, ByteArray.empty, ByteArray.empty, ByteArray.empty⟩⟩

set_option maxRecDepth 1000000 in
/-- a list of acts as a parameter -/
theorem open_acts {H : Type} {enc : TypeId × Value → H} {W : World} {r : Reach} {b0 base : Nat} {sp : Nat → Bool} {held : Bool} {v : Value} {d : DataW H} {ps : List MemPlace} (hval : Value.okWide Try.prog W r b0 59 v) (hd : DataW.Trod enc Try.prog W base sp held 59 v d ps) :
    ∃ ao acts cap, v = .slice ao acts.length cap ∧ acts.length ≤ cap ∧ cap ≤ maxLen ∧ ActsAt W ao acts ∧ ActsFit acts := by
  obtain ⟨ao, ln, cp, rfl⟩ := okWide_slice Try.underlying59 hval
  obtain ⟨fuel, h⟩ := hd
  rcases open_slice Try.underlying59 h with ⟨e, _⟩ | ⟨a, len, cap, m, n, D, Pl, e, hb, hl, hm, hmm, _, hx⟩
  · simp [Value.cells] at e
    obtain ⟨rfl, rfl, rfl⟩ := e
    exact ⟨none, [], 0, rfl, Nat.le_refl _, by unfold maxLen; omega, fun h => absurd rfl h, fun j hj => by simp at hj⟩
  · simp [Value.cells] at e
    obtain ⟨rfl, rfl, rfl⟩ := e
    have hlm : ln ≤ m := by rw [hmm]; split <;> omega
    have each : ∀ i, i < ln → ∃ f : ActD, (W.cells? base (a.add (i * 4)) 4 = some (actEnc f)) ∧ f.Fits ∧ f.KindFits := fun i hi => by
      obtain ⟨cs', e1, e2⟩ := hx i (by omega)
      rw [act_cellsA] at e1
      obtain ⟨f, rfl, r⟩ := open_actCells e2
      exact ⟨f, e1, r⟩
    obtain ⟨F, hF⟩ := choose_lt each
    have hll : ((List.range ln).map F).length = ln := by simp
    refine ⟨some a, (List.range ln).map F, cp, by rw [hll], by rw [hll]; exact hl, hm, ?_, ?_⟩
    · intro hne
      have hp : 0 < ln := by
        rcases Nat.eq_zero_or_pos ln with e | e
        · subst e; exact absurd rfl hne
        · exact e
      obtain ⟨b, off, spot⟩ := a
      have hc : ∀ i c, i < ln → c < 4 → W.cell? ((Addr.add ⟨b, off, spot⟩ (i * 4)).add c) = (actEnc (F i))[c]? := fun i c hi hc => (World.cells?_some (hF i hi).1).2.2 c hc
      have hspot : spot = none := by
        have := hc 0 0 hp (by omega)
        simpa [Addr.add] using World.cell?_spot this
      subst hspot
      refine ⟨b, off, rfl, fun j hj => ?_⟩
      simp only [List.getElem_map, List.getElem_range]
      have hj' : j < ln := by omega
      have h0 := hc j 0 hj' (by omega)
      have h1 := hc j 1 hj' (by omega)
      have h2 := hc j 2 hj' (by omega)
      have h3 := hc j 3 hj' (by omega)
      rw [add_plain, add_plain] at h0 h1 h2 h3
      exact ⟨h0, h1, h2, h3⟩
    · intro j hj
      simp only [List.getElem_map, List.getElem_range]
      exact (hF j (by omega)).2.1
end Go.Proofs.Ytfkknmhokiacaaa

namespace Go.Proofs.Ytfkknmhokiacaaa
open Go.ChangeShapes Go.WideShapes Go.RowKit Go.Deep

set_option maxRecDepth 1000000 in
theorem ints_cells3 : Try.prog.cellsOf 3 = 1 := by kernel_rfl
/-- numbers that are numbers -/
def IntsFit (zs : List Int) : Prop := ∀ j (hj : j < zs.length), -9223372036854775808 ≤ zs[j] ∧ zs[j] ≤ 9223372036854775807

set_option maxRecDepth 1000000 in
theorem open_intS {H : Type} {enc : TypeId × Value → H} {W : World} {r : Reach} {b0 base : Nat} {sp : Nat → Bool} {held : Bool} {v : Value} {d : DataW H} {ps : List MemPlace} (hval : Value.okWide Try.prog W r b0 28 v) (hd : DataW.Trod enc Try.prog W base sp held 28 v d ps) :
    ∃ ao zs cap, v = .slice ao zs.length cap ∧ zs.length ≤ cap ∧ cap ≤ maxLen ∧ IntsAt W ao zs ∧ IntsFit zs := by
  obtain ⟨ao, ln, cp, rfl⟩ := okWide_slice Try.underlying28 hval
  obtain ⟨fuel, hf⟩ := hd
  rcases open_slice Try.underlying28 hf with ⟨hcs, _⟩ | ⟨a, len, cap, m, n, D, Pl, hcs, hb, hl, hm, hmm, _, hx⟩
  · simp [Value.cells] at hcs
    obtain ⟨rfl, rfl, rfl⟩ := hcs
    exact ⟨none, [], 0, rfl, Nat.le_refl _, by unfold maxLen; omega, fun h => absurd rfl h, fun j hj => by simp at hj⟩
  · simp [Value.cells] at hcs
    obtain ⟨rfl, rfl, rfl⟩ := hcs
    have hlm : ln ≤ m := by rw [hmm]; split <;> omega
    have each : ∀ i, i < ln → ∃ z : Int, (W.cells? base (a.add (i * 1)) 1 = some [.int .i64 z]) ∧ -9223372036854775808 ≤ z ∧ z ≤ 9223372036854775807 := fun i hi => by
      obtain ⟨cs', e1, e2⟩ := hx i (by omega)
      rw [ints_cells3] at e1
      obtain ⟨z, rfl, _, s⟩ := DataW.trod_int Try.underlying3 e2
      have := bounds_i64 s
      exact ⟨z, e1, this.1, this.2⟩
    obtain ⟨F, hF⟩ := choose_lt each
    have hll : ((List.range ln).map F).length = ln := by simp
    refine ⟨some a, (List.range ln).map F, cp, by rw [hll], by rw [hll]; exact hl, hm, ?_, ?_⟩
    · intro hne
      have hp : 0 < ln := by
        rcases Nat.eq_zero_or_pos ln with e | e
        · subst e; exact absurd rfl hne
        · exact e
      obtain ⟨b, off, spot⟩ := a
      have hc : ∀ i, i < ln → W.cell? ((Addr.add ⟨b, off, spot⟩ (i * 1)).add 0) = some (.int .i64 (F i)) := fun i hi => (World.cells?_some (hF i hi).1).2.2 0 (by omega)
      have hspot : spot = none := by
        have := hc 0 hp
        simpa [Addr.add] using World.cell?_spot this
      subst hspot
      refine ⟨b, off, rfl, fun j hj => ?_⟩
      simp only [List.getElem_map, List.getElem_range]
      have h0 := hc j (by omega)
      rw [add_plain, add_plain, Nat.mul_one, Nat.add_zero] at h0
      exact h0
    · intro j hj
      simp only [List.getElem_map, List.getElem_range]
      exact (hF j (by omega)).2
end Go.Proofs.Ytfkknmhokiacaaa

namespace Go.Proofs.Ytfkknmhokiacaaa
open Go.RowKit

theorem toAct_info : (Try.prog.info? 45).map (fun i => (i.zero, i.size, i.bytes)) = some (some (.agg #[.int .i64 0, .string ByteArray.empty, .string ByteArray.empty, .string ByteArray.empty]), 4, 56) := by kernel_rfl
/-- four cells of a list, written -/
theorem set_four (p : List Value) (a b c d x y z u : Value) (r : List Value) : ((((p ++ x :: y :: z :: u :: r).set p.length a).set (p.length + 1) b).set (p.length + 2) c).set (p.length + 3) d = p ++ a :: b :: c :: d :: r := by
  rw [List.set_append_right _ _ (Nat.le_refl _), List.set_append_right _ _ (by omega), List.set_append_right _ _ (by omega), List.set_append_right _ _ (by omega)]
  simp
/-- an act's four cells are written -/
theorem put_act {w w2 : World} {g k : Nat} {t : TypeId} {acts : List ActD} {r : List Value} (hk : k < acts.length) (h : BlockIs w g t (actCells (acts.take k) ++ r)) (hr : r.length = (acts.length - k) * 4) {B : Nat} (hb : Below B w w2) (hg : g < B) :
    (∃ x y z u, w2.cell? ⟨g, k * 4, none⟩ = some x ∧ w2.cell? ⟨g, k * 4 + 1, none⟩ = some y ∧ w2.cell? ⟨g, k * 4 + 2, none⟩ = some z ∧ w2.cell? ⟨g, k * 4 + 3, none⟩ = some u) ∧ (∀ j, w2.frozen? ⟨g, j, none⟩ = false) ∧
    ∃ r', r'.length = (acts.length - (k + 1)) * 4 ∧ BlockIs ((((w2.setCell ⟨g, k * 4, none⟩ (.int .i64 acts[k].kind)).setCell ⟨g, k * 4 + 1, none⟩ (.string acts[k].name)).setCell ⟨g, k * 4 + 2, none⟩ (.string acts[k].text)).setCell ⟨g, k * 4 + 3, none⟩ (.string acts[k].to)) g t (actCells (acts.take (k + 1)) ++ r') := by
  have h2 := h.on hb hg
  have hlen : (actCells (acts.take k)).length = k * 4 := by rw [actCells_length, List.length_take]; omega
  match r, hr with
  | x :: y :: z :: u :: r', hr =>
    have hs := (((h2.set (k * 4) (.int .i64 acts[k].kind)).set (k * 4 + 1) (.string acts[k].name)).set (k * 4 + 2) (.string acts[k].text)).set (k * 4 + 3) (.string acts[k].to)
    have e4 := set_four (actCells (acts.take k)) (.int .i64 acts[k].kind) (.string acts[k].name) (.string acts[k].text) (.string acts[k].to) x y z u r'
    rw [hlen] at e4
    rw [e4] at hs
    refine ⟨⟨x, y, z, u, h2.cell ?_, h2.cell ?_, h2.cell ?_, h2.cell ?_⟩, fun j => h2.thaw j, r', ?_, ?_⟩
    · rw [List.getElem?_append_right (by omega), hlen, Nat.sub_self]; rfl
    · rw [List.getElem?_append_right (by omega), hlen, show k * 4 + 1 - k * 4 = 1 by omega]; rfl
    · rw [List.getElem?_append_right (by omega), hlen, show k * 4 + 2 - k * 4 = 2 by omega]; rfl
    · rw [List.getElem?_append_right (by omega), hlen, show k * 4 + 3 - k * 4 = 3 by omega]; rfl
    · simp at hr; omega
    · rw [actCells_take acts k hk, List.append_assoc]
      exact hs
  | [], hr => simp at hr; omega
  | [_], hr => simp at hr; omega
  | [_, _], hr => simp at hr; omega
  | [_, _, _], hr => simp at hr; omega
theorem made_acts (n : Nat) : (madeCells (Value.agg #[.int .i64 0, .string ByteArray.empty, .string ByteArray.empty, .string ByteArray.empty]).cells (n * 4)).toList.length = n * 4 := by
  simp [madeCells]

set_option maxRecDepth 1000000 in
set_option maxHeartbeats 1000000 in
theorem toActS_any (ao : Option Addr) (acts : List ActD) (cap : Nat) (hl : acts.length ≤ 1048576) (w : World) (ha : ActsAt w ao acts) :
    Calls Try.prog 32 #[.slice ao acts.length cap] w fun e w' => e = .returned (.slice (some ⟨w.heap.size, 0, none⟩) acts.length acts.length) ∧ BlockIs w' w.heap.size 45 (actCells acts) ∧ Below w.heap.size w w' := by
  obtain ⟨i0, hi, hz0, hz1, hz2⟩ := info_parts toAct_info
  have HA := hid ha
  clear ha
  go_enter Try.func32, Try.ntmps32
  go_wp2_with (at_make; refine wpList_make_full _ rfl (.tmp 6) (.tmp 6) 38 rfl w.heap.size 45 i0 (.agg #[.int .i64 0, .string ByteArray.empty, .string ByteArray.empty, .string ByteArray.empty]) 4 Try.underlying38 hi hz0 hz1 _ _ _ _ acts.length rfl rfl rfl rfl ?b2 ?b3 ?b4 ?_)
  case b2 => rw [hz2]; omega
  case b3 => unfold maxLen; omega
  case b4 => exact Nat.le_refl _
  intro w1 hown hgrow
  have HM := hid (BlockIs.made hown)
  have hB1 := (Below.refl w.heap.size w).grown hgrow (Nat.le_refl _) (fun k h => by cases h)
  have B1 := (show Hid (Below w.heap.size w w1) from hB1)
  clear hown hgrow hB1
  go_wp2
  go_loopg [4] acts.length (fun g i wr => ∃ (k : Nat), k + g = acts.length ∧ i = .int .i64 k ∧ Hid (Below w.heap.size w wr) ∧ ∃ rest, Hid (rest.length = (acts.length - k) * 4) ∧ Hid (BlockIs wr w.heap.size 45 (actCells (acts.take k) ++ rest)))
  case atStart => exact ⟨0, by omega, rfl, B1, _, made_acts acts.length, HM⟩
  case round =>
    obtain ⟨k, hkg, rfl, BR, rest, hrl, FP⟩ := hrel
    clear HM B1
    cases gk with
    | zero =>
      have hlt : ¬ (k : Int) < (acts.length : Int) := by omega
      have HP : Hid (BlockIs wr w.heap.size 45 (actCells acts)) := by
        have h0 : rest = [] := List.length_eq_zero_iff.1 (by rw [hrl.out, show acts.length - k = 0 by omega])
        have := FP.out
        rw [h0, List.append_nil, List.take_of_length_le (by omega)] at this
        exact this
      clear FP hrl
      go_wp2
      go_ret
      exact ⟨rfl, HP.out, BR.out⟩
    | succ g =>
      have hlt : k < acts.length := by omega
      have hlt' : (k : Int) < (acts.length : Int) := by omega
      have hne : acts ≠ [] := by intro e; rw [e] at hlt; simp at hlt
      obtain ⟨b, off, rfl, hc⟩ := HA.out.on BR.out hne
      obtain ⟨x0, x1, x2, x3⟩ := hc k hlt
      clear hc
      have C := hid (toAct_any acts[k])
      unfold ActD.value at C
      go_wp2_with fail
      refine (C.out _).mono ?_
      rintro e w2 ⟨rfl, b2⟩
      obtain ⟨⟨z0, z1, z2, z3, y0, y1, y2, y3⟩, hf, r', hr', hnew⟩ := put_act hlt FP.out hrl.out b2 FP.out.lt
      have B2 := hid (below_via BR.out b2)
      have f0 := hf (k * 4)
      have f1 := hf (k * 4 + 1)
      have f2 := hf (k * 4 + 2)
      have f3 := hf (k * 4 + 3)
      have HN := hid hnew
      have HR := hid hr'
      clear x0 x1 x2 x3 C hf hnew hr' b2 FP hrl BR
      go_wp2
      go_roundg g
      case measure => omega
      case rel => exact ⟨k + 1, by omega, by go_num, (((B2.out.setCell (Nat.le_refl _) _).setCell (Nat.le_refl _) _).setCell (Nat.le_refl _) _).setCell (Nat.le_refl _) _, r', HR, HN⟩
end Go.Proofs.Ytfkknmhokiacaaa

namespace Go.Proofs.Ytfkknmhokiacaaa
open Go.RowKit

theorem grown_of_below {w w' : World} (h : Below w.heap.size w w') (row : Option Nat) : w.grownBy w' row := ⟨h.os, h.tape, h.output, h.size, fun k hk _ => h.block k hk⟩

theorem add_at (g j : Nat) : (⟨g, 0, none⟩ : Addr).add j = ⟨g, j, none⟩ := by
  simp only [Addr.add]
  split
  · simp_all
  · simp

/-- where an owned row lies -/
theorem row_lie {w : World} {base : Nat} {e : TypeId} {v : Value} {n : Nat} {xs : List Value} (h : w.ownsRow base e 1 v n xs) :
    xs.length = n ∧ ∃ ao cap, v = .slice ao n cap ∧ (0 < n → ∃ g, ao = some ⟨g, 0, none⟩ ∧ base ≤ g ∧ g < w.heap.size ∧ n ≤ cap ∧ v.ownBlock = some g ∧ (∀ (j : Nat) u, xs[j]? = some u → w.cell? ⟨g, j, none⟩ = some u) ∧ ∀ j, w.frozen? ⟨g, j, none⟩ = false) := by
  have h' := h
  obtain ⟨h1, h2⟩ := h
  refine ⟨by omega, ?_⟩
  rcases h2 with ⟨hv, hn⟩ | ⟨g, cap, cur, hv, hgb, hh, hle, hmx, hsz, hx⟩
  · exact ⟨none, 0, by rw [hv, hn], fun h0 => by omega⟩
  · refine ⟨_, cap, hv, fun _ => ⟨g, rfl, hgb, (h'.lt g (by rw [hv]; rfl)).2, hle, by rw [hv]; rfl, fun j u hu => ?_, fun j => ?_⟩⟩
    · have := h'.cells (g := g) (by rw [hv]; rfl) j _ hu
      rw [add_at] at this
      exact this
    · simp [World.frozen?, hh]

/-- an owned row, one of its cells written -/
theorem ownsRow_set {w : World} {base : Nat} {e : TypeId} {v : Value} {n : Nat} {xs : List Value} (h : w.ownsRow base e 1 v n xs) {g : Nat} (hg : v.ownBlock = some g) (k : Nat) (u : Value) :
    (w.setCell ⟨g, k, none⟩ u).ownsRow base e 1 v n (xs.set k u) := by
  obtain ⟨h1, h2⟩ := h
  rcases h2 with ⟨hv, hn⟩ | ⟨g', cap, cur, hv, hgb, hh, hle, hmx, hsz, hx⟩
  · rw [hv] at hg; cases hg
  · rw [hv] at hg
    simp only [Value.ownBlock, Option.some.injEq] at hg
    subst hg
    refine ⟨by simpa using h1, Or.inr ⟨g', cap, cur.setIfInBounds k u, hv, hgb, ?_, hle, hmx, by simpa using hsz, ?_⟩⟩
    · simp only [World.setCell]
      rw [Array.getElem?_modify, if_pos rfl, hh]
      rfl
    · rw [Array.toList_setIfInBounds, ← hx, List.take_set]

/-- a place of an owned row may be written -/
theorem at_row {w : World} {base : Nat} {e : TypeId} {g n c : Nat} {xs : List Value} (h : w.ownsRow base e 1 (.slice (some ⟨g, 0, none⟩) n c) n xs) (k : Nat) (hk : k < n) : ∃ u, w.cell? ⟨g, k, none⟩ = some u ∧ w.frozen? ⟨g, k, none⟩ = false := by
  obtain ⟨hl, ao, cap, hv, hf⟩ := row_lie h
  obtain ⟨g', e1, _, _, _, _, hc, hz⟩ := hf (by omega)
  simp only [Value.slice.injEq] at hv
  obtain ⟨rfl, _, _⟩ := hv
  simp only [Option.some.injEq, Addr.mk.injEq, and_true] at e1
  subst e1
  have hk' : k < xs.length := by omega
  exact ⟨xs[k], hc k _ (List.getElem?_eq_getElem hk'), hz k⟩

theorem grownBy_set (w : World) (g k : Nat) (u : Value) : w.grownBy (w.setCell ⟨g, k, none⟩ u) (some g) :=
  ⟨rfl, rfl, rfl, by simp [World.setCell], fun j _ hj => Below.heap_setCell _ _ _ _ (fun e => hj (by simp [e]))⟩

/-- the one cell of a new block -/
theorem one_new (w : World) (x : Value) (t : TypeId) : ∀ (j : Nat) u, [x][j]? = some u → (w.alloc (.cells #[x] t)).cell? ((⟨w.heap.size, 0, none⟩ : Addr).add j) = some u := by
  intro j u hj
  match j, hj with
  | 0, hj => simp at hj; subst hj; simp [Addr.add]

/-- texts as the cells of a row -/
def st (l : List ByteArray) : List Value := l.map Value.string
theorem st_append (l r : List ByteArray) : st (l ++ r) = st l ++ st r := by simp [st]
theorem st_length (l : List ByteArray) : (st l).length = l.length := by simp [st]
theorem st_at (l : List ByteArray) (k : Nat) (h : k < l.length) : (st l)[k]? = some (.string l[k]) := by simp [st, h]
end Go.Proofs.Ytfkknmhokiacaaa

namespace Go.Proofs.Ytfkknmhokiacaaa
open Go.RowKit

/-- the figure of x, as a byte -/
def fig (x : Int) : Int := if x < 10 then 48 + x else 87 + x

theorem fig_bd {x : Int} (h0 : 0 ≤ x) (h1 : x ≤ 15) : 48 ≤ fig x ∧ fig x ≤ 102 := by unfold fig; split <;> omega

def hexOf : List UInt8 → List UInt8
  | [] => []
  | b :: r => UInt8.ofNat (fig (b.toNat / 16)).toNat :: UInt8.ofNat (fig (b.toNat % 16)).toNat :: hexOf r

theorem hexOf_append (l r : List UInt8) : hexOf (l ++ r) = hexOf l ++ hexOf r := by
  induction l with
  | nil => rfl
  | cons b l ih => simp [hexOf, ih]

theorem hexOf_length (l : List UInt8) : (hexOf l).length = 2 * l.length := by
  induction l with
  | nil => rfl
  | cons b l ih => simp [hexOf, ih]; omega

theorem take_snoc (s : ByteArray) (k : Nat) (h : k < s.size) : s.data.toList.take (k + 1) = s.data.toList.take k ++ [s[k]] := by
  rw [List.take_succ_eq_append_getElem (by simpa using h)]; rfl

theorem take_len (s : ByteArray) (k : Nat) (h : k ≤ s.size) : (s.data.toList.take k).length = k := by
  have : s.data.toList.length = s.size := by simp
  rw [List.length_take]; omega

theorem two_cs (b : UInt8) : [Value.int .u8 (fig ((b.toNat : Int) / 16)), .int .u8 (fig ((b.toNat : Int) % 16))] = cs (hexOf [b]) := by
  have hb := b.toNat_lt
  have h1 := fig_bd (x := (b.toNat : Int) / 16) (by omega) (by omega)
  have h2 := fig_bd (x := (b.toNat : Int) % 16) (by omega) (by omega)
  simp only [hexOf, cs, List.map_cons, List.map_nil, UInt8.toNat_ofNat', List.cons.injEq, and_true, Value.int.injEq, true_and]
  omega

theorem hex_step {s : ByteArray} {k : Nat} {w wr w1 : World} {v : Value} {g cap : Nat} {B : Obj} (hk : k < s.size) (hown : wr.ownsRow w.heap.size 5 1 v (2 * k) (cs (hexOf (s.data.toList.take k))))
    (hown' : w1.ownsRow w.heap.size 5 1 (.slice (some ⟨g, 0, none⟩) (2 * k + 2) cap) (2 * k + 2) (cs (hexOf (s.data.toList.take k)) ++ [.int .u8 (fig ((s[k].toNat : Int) / 16)), .int .u8 (fig ((s[k].toNat : Int) % 16))]))
    (hgrow : (wr.alloc B).drew.grownBy w1 v.ownBlock) (hb : Below w.heap.size w wr) :
    w1.ownsRow w.heap.size 5 1 (.slice (some ⟨g, 0, none⟩) (2 * k + 2) cap) (2 * (k + 1)) (cs (hexOf (s.data.toList.take (k + 1)))) ∧ Below w.heap.size w w1 := by
  refine ⟨?_, ((hb.alloc hb.size _).drew).grown hgrow (by have := hb.size; simp; omega) (fun j hj => (hown.lt j hj).1)⟩
  rw [two_cs, ← cs_append, ← hexOf_append, ← take_snoc s k hk] at hown'
  exact hown'

theorem i64_id {x : Int} (h0 : -9223372036854775808 ≤ x) (h1 : x ≤ 9223372036854775807) : IntKind.i64.wrap x = x := by
  simp [IntKind.wrap, IntKind.signed, IntKind.bits]; omega
theorem u8_id {x : Int} (h0 : 0 ≤ x) (h1 : x ≤ 255) : IntKind.u8.wrap x = x := by
  simp [IntKind.wrap, IntKind.signed, IntKind.bits]; omega

theorem wrap_quo (b : UInt8) : IntKind.i64.wrap ((IntKind.i64.wrap (b.toNat : Int)).tdiv 16) = (b.toNat : Int) / 16 := by
  have hb := b.toNat_lt
  have e : IntKind.i64.wrap (b.toNat : Int) = (b.toNat : Int) := by simp [IntKind.wrap, IntKind.signed, IntKind.bits]; omega
  rw [e, Int.tdiv_eq_ediv_of_nonneg (by omega)]
  simp [IntKind.wrap, IntKind.signed, IntKind.bits]; omega
theorem wrap_rem (b : UInt8) : (IntKind.i64.wrap (b.toNat : Int)).tmod 16 = (b.toNat : Int) % 16 := by
  have hb := b.toNat_lt
  have e : IntKind.i64.wrap (b.toNat : Int) = (b.toNat : Int) := by simp [IntKind.wrap, IntKind.signed, IntKind.bits]; omega
  rw [e, Int.tmod_eq_emod_of_nonneg (by omega)]
end Go.Proofs.Ytfkknmhokiacaaa

namespace Go.Proofs.Ytfkknmhokiacaaa
open Go.RowKit

/-- what the byte c counts as a figure; -1 where it is none -/
def lv (c : Int) : Int := if 48 ≤ c ∧ c ≤ 57 then c - 48 else if 97 ≤ c ∧ c ≤ 102 then c - 87 else -1

theorem lv_bd (c : Int) : -1 ≤ lv c ∧ lv c ≤ 15 := by unfold lv; split <;> (try split) <;> omega

theorem fig_lv {c j : Int} (h0 : 0 ≤ j) (h1 : j ≤ 15) : c = fig j ↔ lv c = j := by
  unfold lv fig
  split <;> split <;> (try split) <;> omega

/-- the values of a text's figures -/
def lvs (l : List UInt8) : List Int := l.map fun c => lv (c.toNat : Int)

def Figs (b : Nat) (l : List UInt8) : Prop := ∀ c ∈ l, 0 ≤ lv (c.toNat : Int) ∧ lv (c.toNat : Int) < b

theorem Figs.snoc {b : Nat} {l : List UInt8} {c : UInt8} (h : Figs b l) (hc : 0 ≤ lv (c.toNat : Int) ∧ lv (c.toNat : Int) < b) : Figs b (l ++ [c]) := by
  intro x hx
  rcases List.mem_append.1 hx with hx | hx
  · exact h x hx
  · simp at hx; subst hx; exact hc

/-- ints as the cells of a row -/
def ns (l : List Int) : List Value := l.map (Value.int .i64)

theorem mem_at (s : ByteArray) (k : Nat) (h : k < s.size) : s[k] ∈ s.data.toList := by
  have h1 : k < s.data.toList.length := by simpa using h
  have h2 := List.getElem_mem h1
  have h3 : s.data.toList[k] = s[k] := by rw [Array.getElem_toList]; rfl
  rw [h3] at h2
  exact h2

theorem lvs_append (l r : List UInt8) : lvs (l ++ r) = lvs l ++ lvs r := by simp [lvs]
theorem lvs_length (l : List UInt8) : (lvs l).length = l.length := by simp [lvs]
theorem ns_append (l r : List Int) : ns (l ++ r) = ns l ++ ns r := by simp [ns]

theorem fv_step {s : ByteArray} {k : Nat} {w wr w1 : World} {v v' : Value} {B : Obj} {j : Int} (hk : k < s.size) (hj : lv (s[k].toNat : Int) = j) (hown : wr.ownsRow w.heap.size 3 1 v k (ns (lvs (s.data.toList.take k))))
    (hown' : w1.ownsRow w.heap.size 3 1 v' (k + 1) (ns (lvs (s.data.toList.take k)) ++ [.int .i64 j])) (hgrow : (wr.alloc B).grownBy w1 v.ownBlock) (hb : Below w.heap.size w wr) :
    w1.ownsRow w.heap.size 3 1 v' (k + 1) (ns (lvs (s.data.toList.take (k + 1)))) ∧ Below w.heap.size w w1 := by
  refine ⟨?_, (hb.alloc hb.size _).grown hgrow (by have := hb.size; simp; omega) (fun j hj => (hown.lt j hj).1)⟩
  have e : [Value.int .i64 j] = ns (lvs [s[k]]) := by simp [ns, lvs, hj]
  rw [e, ← ns_append, ← lvs_append, ← take_snoc s k hk] at hown'
  exact hown'

/-- where the values lie -/
theorem values_lie {w w1 : World} {s : ByteArray} {v : Value} (h : w1.ownsRow w.heap.size 3 1 v s.size (ns (lvs s.data.toList))) :
    ∃ ao cap, v = .slice ao s.size cap ∧ (0 < s.size → ∃ g, ao = some ⟨g, 0, none⟩ ∧ g < w1.heap.size ∧ s.size ≤ cap ∧ ∀ j (hj : j < s.size), w1.cell? ⟨g, j, none⟩ = some (.int .i64 (lv (s[j].toNat : Int)))) := by
  have h' := h
  obtain ⟨h1, h2⟩ := h
  rcases h2 with ⟨hv, hn⟩ | ⟨g, cap, cur, hv, hgb, hh, hle, hmx, hsz, hx⟩
  · exact ⟨none, 0, by rw [hv, hn], fun h0 => by omega⟩
  · refine ⟨_, cap, hv, fun _ => ⟨g, rfl, (h'.lt g (by rw [hv]; rfl)).2, hle, fun j hj => ?_⟩⟩
    have hu : (ns (lvs s.data.toList))[j]? = some (.int .i64 (lv (s[j].toNat : Int))) := by
      have hj' : j < s.data.toList.length := by simpa using hj
      have e : s.data.toList[j] = s[j] := by rw [Array.getElem_toList]; rfl
      simp only [ns, lvs, List.getElem?_map, List.getElem?_eq_getElem hj', Option.map_some, e]
    have := h'.cells (g := g) (by rw [hv]; rfl) j _ hu
    have ea : (⟨g, 0, none⟩ : Addr).add j = ⟨g, j, none⟩ := by
      simp only [Addr.add]
      split
      · simp_all
      · simp
    rw [ea] at this
    exact this
end Go.Proofs.Ytfkknmhokiacaaa

namespace Go.Proofs.Ytfkknmhokiacaaa
open Go.RowKit

/-- the decimal figures of n, none for 0 -/
def dd (n : Nat) : List UInt8 := if n = 0 then [] else dd (n / 10) ++ [UInt8.ofNat (48 + n % 10)]
termination_by n
decreasing_by omega

theorem dd_zero : dd 0 = [] := by rw [dd, if_pos rfl]
theorem dd_pos {n : Nat} (h : 0 < n) : dd n = dd (n / 10) ++ [UInt8.ofNat (48 + n % 10)] := by rw [dd, if_neg (by omega)]

theorem dd_len (k : Nat) : ∀ n, n < 10 ^ k → (dd n).length ≤ k := by
  induction k with
  | zero => intro n h; have : n = 0 := by simp at h; omega
            subst this; rw [dd_zero]; simp
  | succ k ih =>
    intro n h
    by_cases h0 : n = 0
    · subst h0; rw [dd_zero]; simp
    · rw [dd_pos (by omega), List.length_append]
      have := ih (n / 10) (by rw [Nat.pow_succ] at h; omega)
      simp only [List.length_cons, List.length_nil]
      omega

/-- n in decimal -/
def dec (n : Int) : List UInt8 := if n = 0 then [48] else if n < 0 then 45 :: dd n.natAbs else dd n.natAbs

/-- what figures make -/
def num (l : List UInt8) : Nat := l.foldl (fun n c => 10 * n + (c.toNat - 48)) 0

theorem num_nil : num [] = 0 := rfl
theorem num_snoc (l : List UInt8) (c : UInt8) : num (l ++ [c]) = 10 * num l + (c.toNat - 48) := by simp [num, List.foldl_append]

def Digits (l : List UInt8) : Prop := ∀ c ∈ l, 48 ≤ c.toNat ∧ c.toNat ≤ 57

theorem Digits.init {l : List UInt8} {c : UInt8} (h : Digits (l ++ [c])) : Digits l ∧ 48 ≤ c.toNat ∧ c.toNat ≤ 57 :=
  ⟨fun x hx => h x (List.mem_append.2 (Or.inl hx)), h c (by simp)⟩
theorem Digits.snoc {l : List UInt8} {c : UInt8} (h : Digits l) (hc : 48 ≤ c.toNat ∧ c.toNat ≤ 57) : Digits (l ++ [c]) := by
  intro x hx
  rcases List.mem_append.1 hx with hx | hx
  · exact h x hx
  · simp at hx; subst hx; exact hc

theorem snoc_cases (l : List UInt8) : l = [] ∨ ∃ r c, l = r ++ [c] := by
  rcases h : l.reverse with _ | ⟨c, r⟩
  · exact Or.inl (by simpa using h)
  · exact Or.inr ⟨r.reverse, c, by have := congrArg List.reverse h; simpa using this⟩

theorem num_lt : ∀ (k : Nat) (l : List UInt8), l.length = k → Digits l → num l < 10 ^ k
  | 0, l, h, _ => by
    have : l = [] := List.eq_nil_of_length_eq_zero h
    subst this; simp [num]
  | k + 1, l, h, hd => by
    rcases snoc_cases l with rfl | ⟨r, c, rfl⟩
    · simp at h
    · have h1 := hd.init
      have := num_lt k r (by simpa using h) h1.1
      rw [num_snoc, Nat.pow_succ]
      omega

theorem num_lead (c : UInt8) (hc : c ≠ 48) (hc1 : 48 ≤ c.toNat ∧ c.toNat ≤ 57) : ∀ (k : Nat) (r : List UInt8), r.length = k → Digits r → 0 < num (c :: r) ∧ dd (num (c :: r)) = c :: r
  | 0, r, h, _ => by
    have : r = [] := List.eq_nil_of_length_eq_zero h
    subst this
    have h48 : c.toNat ≠ 48 := fun e => hc (UInt8.toNat_inj.1 (by simpa using e))
    have e : num [c] = c.toNat - 48 := by simp [num]
    rw [e]
    refine ⟨by omega, ?_⟩
    rw [dd_pos (by omega), show (c.toNat - 48) / 10 = 0 by omega, dd_zero, show 48 + (c.toNat - 48) % 10 = c.toNat by omega]
    simp
  | k + 1, r, h, hd => by
    rcases snoc_cases r with rfl | ⟨r', x, rfl⟩
    · simp at h
    · have h1 := hd.init
      obtain ⟨i1, i2⟩ := num_lead c hc hc1 k r' (by simpa using h) h1.1
      have e : num (c :: (r' ++ [x])) = 10 * num (c :: r') + (x.toNat - 48) := num_snoc (c :: r') x
      rw [e]
      refine ⟨by omega, ?_⟩
      rw [dd_pos (by omega), show (10 * num (c :: r') + (x.toNat - 48)) / 10 = num (c :: r') by omega, show 48 + (10 * num (c :: r') + (x.toNat - 48)) % 10 = x.toNat by omega, i2]
      simp

/-- figures of a number do not begin with a nought -/
theorem dd_head : ∀ (n : Nat), 0 < n → ∃ c r, dd n = c :: r ∧ c ≠ 48 := by
  intro n
  induction n using Nat.strongRecOn with
  | _ n ih =>
    intro h
    rw [dd_pos h]
    by_cases h1 : n / 10 = 0
    · rw [h1, dd_zero]
      refine ⟨_, [], rfl, ?_⟩
      intro e
      have := congrArg UInt8.toNat e
      simp only [UInt8.toNat_ofNat', UInt8.toNat_ofNat] at this
      omega
    · obtain ⟨c, r, e, hc⟩ := ih (n / 10) (by omega) (by omega)
      exact ⟨c, r ++ [UInt8.ofNat (48 + n % 10)], by rw [e]; rfl, hc⟩

/-- a text of figures is how its number is written, just when it has some and no needless nought ahead -/
theorem dec_num (l : List UInt8) (hd : Digits l) : dec (num l : Int) = l ↔ l ≠ [] ∧ ¬ (l.head? = some 48 ∧ 1 < l.length) := by
  match l, hd with
  | [], _ => simp [num, dec]
  | c :: r, hd =>
    have hc := hd c (by simp)
    have hr : Digits r := fun x hx => hd x (by simp [hx])
    by_cases h48 : c = 48
    · subst h48
      match r, hr with
      | [], _ => simp [num, dec]
      | x :: r', hr =>
        simp only [List.head?_cons, List.length_cons, ne_eq, reduceCtorEq, not_false_eq_true, true_and]
        constructor
        · intro e
          unfold dec at e
          split at e
          · simp at e
          · rename_i hz
            rw [if_neg (by omega), Int.natAbs_natCast] at e
            obtain ⟨y, q, e1, e2⟩ := dd_head (num (48 :: x :: r')) (by omega)
            rw [e1] at e
            simp only [List.cons.injEq] at e
            exact absurd e.1 e2
        · intro h
          exact absurd (by omega) h
    · obtain ⟨i1, i2⟩ := num_lead c h48 hc r.length r rfl hr
      unfold dec
      rw [if_neg (by omega), if_neg (by omega), Int.natAbs_natCast, i2]
      simp [h48]

theorem digits_figs (l : List UInt8) : Digits l ↔ Figs 10 l := by
  constructor
  · intro h c hc
    have := h c hc
    unfold lv
    rw [if_pos (by omega)]
    omega
  · intro h c hc
    have := h c hc
    unfold lv at this
    split at this
    · omega
    · split at this <;> omega
theorem lv_digit {c : UInt8} (h : 48 ≤ c.toNat ∧ c.toNat ≤ 57) : lv (c.toNat : Int) = ((c.toNat - 48 : Nat) : Int) := by
  unfold lv; rw [if_pos (by omega)]; omega

/-- a text that ReadDecimal takes -/
def DecOk (l : List UInt8) : Prop := Digits l ∧ num l ≤ 1000000000 ∧ l ≠ [] ∧ ¬ (l.head? = some 48 ∧ 1 < l.length)

theorem digits_at {s : ByteArray} {k : Nat} (hk : k < s.size) (h : ¬ (48 ≤ s[k].toNat ∧ s[k].toNat ≤ 57)) : ¬ DecOk s.data.toList := fun hd => h (hd.1 s[k] (mem_at s k hk))

theorem num_step {s : ByteArray} {k : Nat} (hk : k < s.size) (h : 48 ≤ (s[k].toNat : Int)) : ((num (s.data.toList.take (k + 1)) : Nat) : Int) = 10 * (num (s.data.toList.take k) : Int) + (s[k].toNat : Int) - 48 := by
  rw [take_snoc s k hk, num_snoc]
  omega

theorem ret_num {a b : Nat} (h : a = b) : Ending.returned (.tuple #[.int .i64 a, .bool true]) = .returned (.tuple #[.int .i64 b, .bool true]) := by rw [h]

theorem same_dec {s : ByteArray} {l : List UInt8} : (!l == s.toList) = false ↔ l = s.data.toList := by
  rw [ByteArray.toList_eq]; simp
end Go.Proofs.Ytfkknmhokiacaaa

namespace Go.Proofs.Ytfkknmhokiacaaa
open Go.RowKit Go.Sort

/-- the text by which a place is marked -/
def mtx (m : Nat) : ByteArray := if m = 0 then ⟨#[109, 48]⟩ else ⟨#[109]⟩ ++ ⟨(dd m).toArray⟩

/-- the last figure of m -/
def mdig (m : Nat) : UInt8 := UInt8.ofNat (48 + m % 10)

theorem mark_one (m : Nat) (w : World) :
    (convert 22 9 (.slice (some ⟨w.heap.size, 0, none⟩) 1 1)).run Try.prog (w.alloc (.cells #[.int .u8 (48 + (m : Int) % 10)] 5)) = .ok (.string ⟨#[mdig m]⟩) (w.alloc (.cells #[.int .u8 (48 + (m : Int) % 10)] 5)) := by
  have := run_convert_bytes_back (P := Try.prog) (w.alloc (.cells #[.int .u8 (48 + (m : Int) % 10)] 5)) 22 9 5 ⟨w.heap.size, 0, none⟩ 1 [mdig m] Try.underlying22 Try.underlying5 Try.underlying9
    (by
      intro j hj
      have hj0 : j = 0 := by simpa using hj
      subst hj0
      have e : ((mdig m).toNat : Int) = 48 + (m : Int) % 10 := by unfold mdig; rw [UInt8.toNat_ofNat']; omega
      show (w.alloc (.cells #[.int .u8 (48 + (m : Int) % 10)] 5)).cell? ⟨w.heap.size, 0, none⟩ = some (.int .u8 ((mdig m).toNat : Int))
      rw [e]
      simp)
  exact this

theorem mark_step {n m : Nat} {acc : List UInt8} (hm : 0 < m) (h : dd m ++ acc = dd n) : dd (m / 10) ++ (mdig m :: acc) = dd n := by
  rw [← h, dd_pos hm]
  simp [mdig]

theorem ret_i64 {a b : Int} (h : a = b) : Ending.returned (.int .i64 a) = .returned (.int .i64 b) := by rw [h]

theorem cons_text (x : UInt8) (acc : List UInt8) : (⟨#[x]⟩ : ByteArray) ++ ⟨acc.toArray⟩ = ⟨(x :: acc).toArray⟩ := ByteArray.mk_append_mk [x] acc

theorem ret_mark {a b : List UInt8} (h : a = b) : Ending.returned (.string (⟨#[109]⟩ ++ ⟨a.toArray⟩)) = .returned (.string (⟨#[109]⟩ ++ ⟨b.toArray⟩)) := by rw [h]

set_option maxRecDepth 1000000 in
set_option maxHeartbeats 1000000 in
theorem markText_any (n : Nat) (hn : n < 1000000000000000000) (w : World) :
    Calls Try.prog 66 #[.int .i64 n] w fun e w' => e = .returned (.string (mtx n)) ∧ Below w.heap.size w w' := by
  by_cases h0 : n = 0
  · subst h0
    have e : mtx 0 = ⟨#[109, 48]⟩ := rfl
    rw [e]
    clear e
    go_enter Try.func66, Try.ntmps66
    go_wp2
    go_ret
    exact ⟨rfl, Below.refl _ _⟩
  · have g0 : ¬ (n : Int) ≤ 0 := by omega
    have hdl := dd_len 19 n (by omega)
    have hde : mtx n = ⟨#[109]⟩ ++ ⟨(dd n).toArray⟩ := by unfold mtx; rw [if_neg h0]
    rw [hde]
    clear hde
    go_enter Try.func66, Try.ntmps66
    go_wp2
    go_loopw [0, 3] (fun x t wr => ∃ (m : Nat) (acc : List UInt8), m ≤ n ∧ x = .int .i64 m ∧ t = .string ⟨acc.toArray⟩ ∧ Hid (dd m ++ acc = dd n) ∧ acc.length ≤ 19 ∧ Below w.heap.size w wr) (fun x _ _ => (intOf x).toNat)
    case atStart => exact ⟨n, [], Nat.le_refl _, rfl, rfl, by simp [Hid], by simp, Below.refl _ _⟩
    case round =>
      obtain ⟨m, acc, hm, rfl, rfl, HA, hal, hb⟩ := hrel
      have hsz := hb.size
      by_cases hm0 : 0 < (m : Int)
      · have ht := mark_one m
        have HS := (show Hid _ from mark_step (by omega) HA.out)
        have HL : Hid ((mdig m :: acc).length ≤ 19) := by
          have := congrArg List.length HS.out
          simp only [List.length_append] at this
          show _ ≤ _
          omega
        go_wp2
        go_roundw
        case rel => exact ⟨m / 10, mdig m :: acc, by omega, by go_num, congrArg Value.string (cons_text _ _), HS, HL.out, hb.alloc hb.size _⟩
        case measure => simp [intOf]; omega
      · have HE : Hid (acc = dd n) := by
          have h := HA.out
          have e : m = 0 := by omega
          rw [e, dd_zero] at h
          exact h
        go_wp2
        go_ret
        exact ⟨ret_mark HE.out, hb⟩
end Go.Proofs.Ytfkknmhokiacaaa

namespace Go.Proofs.Ytfkknmhokiacaaa
open Go.RowKit

/-- the k-th mark from m on -/
def markF (m k : Nat) : FileD := ⟨mtx (m + 3 * k), mtx (m + 3 * k + 1), ((m + 3 * k + 2 : Nat) : Int)⟩
def marksF (m n : Nat) : List FileD := (List.range n).map (markF m)
theorem marksF_length (m n : Nat) : (marksF m n).length = n := by simp [marksF]
theorem marksF_succ (m n : Nat) : marksF m (n + 1) = marksF m n ++ [markF m n] := by simp [marksF, List.range_succ]

/-- the cells with the first k files marked -/
def markedCells (m k : Nat) (l : List FileD) (r : List Value) : List Value := fileCells (marksF m k) ++ (fileCells (l.drop k) ++ r)
theorem markedCells_all (m : Nat) (l : List FileD) (r : List Value) : markedCells m l.length l r = fileCells (marksF m l.length) ++ r := by
  simp [markedCells, fileCells]
theorem markedCells_split (m k : Nat) (l : List FileD) (r : List Value) (hk : k < l.length) :
    markedCells m k l r = fileCells (marksF m k) ++ .string l[k].name :: .string l[k].text :: .int .i64 l[k].kept :: (fileCells (l.drop (k + 1)) ++ r) := by
  rw [markedCells, List.drop_eq_getElem_cons hk]
  rfl
theorem markedCells_step (m k : Nat) (l : List FileD) (r : List Value) (hk : k < l.length) :
    (((markedCells m k l r).set (k * 3) (.string (mtx (m + 3 * k)))).set (k * 3 + 1) (.string (mtx (m + 3 * k + 1)))).set (k * 3 + 2) (.int .i64 ((m + 3 * k + 2 : Nat) : Int)) = markedCells m (k + 1) l r := by
  have e3 := set_three (fileCells (marksF m k)) (.string (mtx (m + 3 * k))) (.string (mtx (m + 3 * k + 1))) (.int .i64 ((m + 3 * k + 2 : Nat) : Int)) (.string l[k].name) (.string l[k].text) (.int .i64 l[k].kept) (fileCells (l.drop (k + 1)) ++ r)
  rw [fileCells_length, marksF_length] at e3
  rw [markedCells_split m k l r hk, e3, markedCells, marksF_succ]
  simp [fileCells, fileEnc, markF]
theorem markedCells_at (m k : Nat) (l : List FileD) (r : List Value) (hk : k < l.length) :
    (markedCells m k l r)[k * 3]? = some (.string l[k].name) ∧ (markedCells m k l r)[k * 3 + 1]? = some (.string l[k].text) ∧ (markedCells m k l r)[k * 3 + 2]? = some (.int .i64 l[k].kept) := by
  have hlen : (fileCells (marksF m k)).length = k * 3 := by rw [fileCells_length, marksF_length]
  rw [markedCells_split m k l r hk]
  refine ⟨?_, ?_, ?_⟩
  · rw [List.getElem?_append_right (by omega), hlen, Nat.sub_self]; rfl
  · rw [List.getElem?_append_right (by omega), hlen, show k * 3 + 1 - k * 3 = 1 by omega]; rfl
  · rw [List.getElem?_append_right (by omega), hlen, show k * 3 + 2 - k * 3 = 2 by omega]; rfl

theorem set_other {cs : List Value} {i j : Nat} {v u : Value} (h : cs[j]? = some u) (hij : i ≠ j) : (cs.set i v)[j]? = some u := by
  rw [List.getElem?_set_ne hij]; exact h

set_option maxRecDepth 1000000 in
set_option maxHeartbeats 1000000 in
theorem markFileS_any (g : Nat) (l : List FileD) (cap m : Nat) (r : List Value) (hm : m ≤ 10000000) (hl : l.length ≤ 1048576) (w : World) (hb : BlockIs w g 36 (fileCells l ++ r)) :
    Calls Try.prog 63 #[.slice (some ⟨g, 0, none⟩) l.length cap, .int .i64 m] w fun e w' => e = .returned (.int .i64 ((m + 3 * l.length : Nat) : Int)) ∧ BlockIs w' g 36 (fileCells (marksF m l.length) ++ r) ∧ w.grownBy w' (some g) := by
  have HB := (show Hid (BlockIs w g 36 (markedCells m 0 l r)) from hb)
  clear hb
  go_enter Try.func63, Try.ntmps63
  go_wp2
  go_loopg [1, 5] l.length (fun q y i wr => ∃ (k : Nat), k + q = l.length ∧ i = .int .i64 k ∧ y = .int .i64 ((m + 3 * k : Nat) : Int) ∧ Hid (BlockIs wr g 36 (markedCells m k l r)) ∧ Hid (w.grownBy wr (some g)))
  case atStart => exact ⟨0, by omega, rfl, rfl, HB, World.grownBy.refl _ _⟩
  case round =>
    obtain ⟨k, hkg, rfl, rfl, FB, GR⟩ := hrel
    clear HB
    cases gk with
    | zero =>
      have hlt : ¬ (k : Int) < (l.length : Int) := by omega
      obtain rfl : k = l.length := by omega
      rw [markedCells_all] at FB
      go_wp2
      go_ret
      exact ⟨rfl, FB.out, GR.out⟩
    | succ q =>
      have hlt : k < l.length := by omega
      have hlt' : (k : Int) < (l.length : Int) := by omega
      have hat := hid (markedCells_at m k l r hlt)
      have hstep := hid (markedCells_step m k l r hlt)
      have C1 := hid (fun w => markText_any (m + 3 * k) (by omega) w)
      have C2 := hid (fun w => markText_any (m + 3 * k + 1) (by omega) w)
      obtain ⟨K, hK⟩ : ∃ K, m + 3 * k = K := ⟨_, rfl⟩
      have hKl : K ≤ 20000000 := by omega
      rw [hK] at C1 C2 hstep ⊢
      go_wp2_with fail
      refine (C1.out _).mono ?_
      rintro e w1 ⟨rfl, b1⟩
      have D1 := FB.out.on b1 FB.out.lt
      have G1 := hid (GR.out.trans (grown_of_below b1 (some g)))
      have x1 := D1.cell hat.out.1
      have f1 := D1.thaw (k * 3)
      have D1' := hid D1
      clear b1 FB GR D1
      go_wp2_with fail
      refine (C2.out _).mono ?_
      rintro e w2 ⟨rfl, b2⟩
      have E1 := D1'.out.set (k * 3) (.string (mtx K))
      have D2 := E1.on b2 E1.lt
      have G2 := hid ((G1.out.trans (grownBy_set _ g (k * 3) _)).trans (grown_of_below b2 (some g)))
      have x2 := D2.cell (set_other (v := .string (mtx K)) hat.out.2.1 (by omega))
      have f2 := D2.thaw (k * 3 + 1)
      have x3 : (w2.setCell ⟨g, k * 3 + 1, none⟩ (.string (mtx (K + 1)))).cell? ⟨g, k * 3 + 2, none⟩ = some (.int .i64 l[k].kept) := (D2.set (k * 3 + 1) (.string (mtx (K + 1)))).cell (set_other (set_other hat.out.2.2 (by omega)) (by omega))
      have f3 : (w2.setCell ⟨g, k * 3 + 1, none⟩ (.string (mtx (K + 1)))).frozen? ⟨g, k * 3 + 2, none⟩ = false := (D2.set (k * 3 + 1) (.string (mtx (K + 1)))).thaw _
      have D3 := hid ((D2.set (k * 3 + 1) (.string (mtx (K + 1)))).set (k * 3 + 2) (.int .i64 ((K + 2 : Nat) : Int)))
      rw [hstep.out] at D3
      have G3 := hid ((G2.out.trans (grownBy_set _ g (k * 3 + 1) (.string (mtx (K + 1))))).trans (grownBy_set _ g (k * 3 + 2) (.int .i64 ((K + 2 : Nat) : Int))))
      clear b2 D1' E1 D2 G1 G2 hat hstep C1 C2 x1 f1
      go_wp2
      go_roundg q
      case measure => omega
      case rel => exact ⟨k + 1, by omega, by go_num, by rw [← show K + 3 = m + 3 * (k + 1) by omega]; go_num, D3, G3⟩

theorem markDisk_any (g : Nat) (l : List FileD) (cap m : Nat) (r : List Value) (hm : m ≤ 10000000) (hl : l.length ≤ 1048576) (w : World) (hb : BlockIs w g 36 (fileCells l ++ r)) :
    Calls Try.prog 29 #[.agg #[.slice (some ⟨g, 0, none⟩) l.length cap], .int .i64 m] w fun e w' => e = .returned (.int .i64 ((m + 3 * l.length : Nat) : Int)) ∧ BlockIs w' g 36 (fileCells (marksF m l.length) ++ r) ∧ w.grownBy w' (some g) := by
  have C := hid (fun w hb => markFileS_any g l cap m r hm hl w hb)
  have HB := hid hb
  have HD := hid (World.grownBy_alloc w (.cells #[.slice (some ⟨g, 0, none⟩) l.length cap] 26) (some g))
  have HD2 := hid (hb.on (below_more (Below.refl w.heap.size w) (.cells #[.slice (some ⟨g, 0, none⟩) l.length cap] 26)) hb.lt)
  clear hb
  go_enter Try.func29, Try.ntmps29
  go_wp2_with fail
  refine (C.out _ HD2.out).mono ?_
  rintro e w1 ⟨rfl, k1, g1⟩
  have K1 := hid k1
  have G1 := hid (HD.out.trans g1)
  clear k1 g1 C HD HD2
  go_wp2
  go_ret
  exact ⟨rfl, K1.out, G1.out⟩
end Go.Proofs.Ytfkknmhokiacaaa

namespace Go.Proofs.Ytfkknmhokiacaaa
open Go.RowKit Go.Sort

set_option maxRecDepth 1000000 in
set_option maxHeartbeats 1000000 in
theorem heldFileS_any (ao : Option Addr) (n cap m : Nat) (hm : m ≤ 10000000) (hl : n ≤ 1048576) (w : World) (ha : FilesAt w ao (marksF m n)) :
    Calls Try.prog 64 #[.slice ao n cap, .int .i64 m] w fun e w' => e = .returned (.int .i64 ((m + 3 * n : Nat) : Int)) ∧ Below w.heap.size w w' := by
  have HA := hid ha
  clear ha
  go_enter Try.func64, Try.ntmps64
  go_wp2
  go_loopg [1, 5] n (fun q y i wr => ∃ (k : Nat), k + q = n ∧ i = .int .i64 k ∧ y = .int .i64 ((m + 3 * k : Nat) : Int) ∧ Hid (Below w.heap.size w wr))
  case atStart => exact ⟨0, by omega, rfl, rfl, (show Below _ _ _ from Below.refl _ _)⟩
  case round =>
    obtain ⟨k, hkg, rfl, rfl, BR⟩ := hrel
    cases gk with
    | zero =>
      have hlt : ¬ (k : Int) < (n : Int) := by omega
      obtain rfl : k = n := by omega
      go_wp2
      go_ret
      exact ⟨rfl, BR.out⟩
    | succ q =>
      have hlt : k < n := by omega
      have hlt' : (k : Int) < (n : Int) := by omega
      have hkm : k < (marksF m n).length := by rw [marksF_length]; exact hlt
      have hne : marksF m n ≠ [] := by intro e; rw [e] at hkm; simp at hkm
      have hmk : (marksF m n)[k] = markF m k := by simp [marksF]
      obtain ⟨b, off, rfl, hc⟩ := HA.out.on BR.out hne
      obtain ⟨x0, x1, x2⟩ := hc k hkm
      rw [hmk] at x0 x1 x2
      simp only [markF] at x0 x1 x2
      clear hmk hne hkm hc
      obtain ⟨K, hK⟩ : ∃ K, m + 3 * k = K := ⟨_, rfl⟩
      have hKl : K ≤ 20000000 := by omega
      rw [hK] at x0 x1 x2 ⊢
      have X0 := cell_regrown x0
      have C1 := hid (fun d os => Calls.regrown_of (w := wr) (d := d) (os := os) (markText_any K (by omega) _))
      go_wp2
      refine wp_region_quiet_below (by kernel_rfl) (by kernel_rfl) ?_
      repeat (first | go_big_quiet_step (first | (go_at_call 66; exact C1.out _ _) | fail) | quiet_step (first | (go_at_call 66; exact C1.out _ _) | fail))
      refine wpQuiet_nil ?_
      intro _ hw'
      obtain ⟨⟨dq, osq⟩, hw''⟩ := hw'
      subst hw''
      have b1 := below_regrown wr dq osq
      generalize grow (redrawn wr dq) osq = w1 at b1 ⊢
      have B1 := hid (below_via BR.out b1)
      have y1 := (b1.cell (p := ⟨b, off + k * 3 + 1, none⟩) (World.block_lt_of_cell? wr _ x1)).trans x1
      have y2 := (b1.cell (p := ⟨b, off + k * 3 + 2, none⟩) (World.block_lt_of_cell? wr _ x2)).trans x2
      clear x0 x1 x2 X0 C1 b1 BR
      have Y1 := cell_regrown y1
      have C2 := hid (fun d os => Calls.regrown_of (w := w1) (d := d) (os := os) (markText_any (K + 1) (by omega) _))
      go_wp2
      refine wp_region_quiet_below (by kernel_rfl) (by kernel_rfl) ?_
      repeat (first | go_big_quiet_step (first | (go_at_call 66; exact C2.out _ _) | fail) | quiet_step (first | (go_at_call 66; exact C2.out _ _) | fail))
      refine wpQuiet_nil ?_
      intro _ hw'
      obtain ⟨⟨dq, osq⟩, hw''⟩ := hw'
      subst hw''
      have b2 := below_regrown w1 dq osq
      generalize grow (redrawn w1 dq) osq = w2 at b2 ⊢
      have B2 := hid (below_via B1.out b2)
      have z2 := (b2.cell (p := ⟨b, off + k * 3 + 2, none⟩) (World.block_lt_of_cell? w1 _ y2)).trans y2
      clear y1 y2 Y1 C2 b2 B1
      go_wp2
      go_roundg q
      case measure => omega
      case rel => exact ⟨k + 1, by omega, by go_num, by rw [← show K + 3 = m + 3 * (k + 1) by omega]; go_num, B2⟩

theorem heldDisk_any (ao : Option Addr) (n cap m : Nat) (hm : m ≤ 10000000) (hl : n ≤ 1048576) (w : World) (ha : FilesAt w ao (marksF m n)) :
    Calls Try.prog 30 #[.agg #[.slice ao n cap], .int .i64 m] w fun e w' => e = .returned (.int .i64 ((m + 3 * n : Nat) : Int)) ∧ Below w.heap.size w w' := by
  have C := hid (fun w ha => heldFileS_any ao n cap m hm hl w ha)
  have HB := hid (below_more (Below.refl w.heap.size w) (.cells #[.slice ao n cap] 26))
  have HA := hid ha
  clear ha
  obtain ⟨K, hK⟩ : ∃ K, m + 3 * n = K := ⟨_, rfl⟩
  rw [hK] at C ⊢
  clear hK
  go_enter Try.func30, Try.ntmps30
  go_wp2_with fail
  refine (C.out _ (HA.out.on HB.out)).mono ?_
  rintro e w1 ⟨rfl, b1⟩
  have B1 := hid (below_via HB.out b1)
  have hK0 : ¬ (K : Int) < 0 := by omega
  clear b1 C HB
  go_wp2
  go_ret
  exact ⟨rfl, B1.out⟩
end Go.Proofs.Ytfkknmhokiacaaa

namespace Go.Proofs.Ytfkknmhokiacaaa
open Go.RowKit

/-- files in a row of the call's own: where they lie -/
theorem own_files {w : World} {base : Nat} {v : Value} {l : List FileD} (h : w.ownsRow base 36 3 v l.length (fileCells l)) :
    ∃ va vc, v = .slice va l.length vc ∧ FilesAt w va l ∧ (l = [] ∨ ∃ g r, va = some ⟨g, 0, none⟩ ∧ base ≤ g ∧ BlockIs w g 36 (fileCells l ++ r)) := by
  obtain ⟨_, (⟨rfl, h0⟩ | ⟨g, cap, cur, rfl, hb, hg, _, _, _, ht⟩)⟩ := h
  · have hl : l = [] := List.length_eq_zero_iff.1 h0
    subst hl
    exact ⟨none, 0, rfl, fun h => absurd rfl h, Or.inl rfl⟩
  · have hcur : cur.toList = fileCells l ++ cur.toList.drop (l.length * 3) := by rw [← ht, List.take_append_drop]
    have hk : BlockIs w g 36 (fileCells l ++ cur.toList.drop (l.length * 3)) := by
      unfold BlockIs
      rw [hg, ← hcur]
    exact ⟨_, _, rfl, filesAt_of hk, Or.inr ⟨g, _, rfl, hb, hk⟩⟩

theorem marksF_nil (m : Nat) : marksF m 0 = [] := rfl

set_option maxRecDepth 1000000 in
/-- a disk of the call's own is written over with marks, nil too -/
theorem markDisk_own (base m : Nat) (va : Option Addr) (vc : Nat) (l : List FileD) (hm : m ≤ 10000000) (hl : l.length ≤ 1048576) (w : World) (hw : base ≤ w.heap.size)
    (h : l = [] ∨ ∃ g r, va = some ⟨g, 0, none⟩ ∧ base ≤ g ∧ BlockIs w g 36 (fileCells l ++ r)) :
    Calls Try.prog 29 #[.agg #[.slice va l.length vc], .int .i64 m] w fun e w' => e = .returned (.int .i64 ((m + 3 * l.length : Nat) : Int)) ∧ FilesAt w' va (marksF m l.length) ∧ Below base w w' ∧ (∀ j t cs, (∀ g, va = some ⟨g, 0, none⟩ → l ≠ [] → j ≠ g) → BlockIs w j t cs → BlockIs w' j t cs) := by
  rcases h with rfl | ⟨g, r, rfl, hg, hb⟩
  · have HBB := hid (below_more (Below.refl w.heap.size w) (.cells #[.slice va 0 vc] 26))
    have C : Hid (∀ w, Calls Try.prog 63 #[.slice va 0 vc, .int .i64 m] w fun e w' => e = .returned (.int .i64 m) ∧ w' = w) := by
      intro w
      go_enter Try.func63, Try.ntmps63
      go_wp2
      go_loopg [1, 5] 0 (fun _ y i wr => wr = w ∧ i = .int .i64 0 ∧ y = .int .i64 m)
      case atStart => exact ⟨rfl, rfl, rfl⟩
      case round =>
        obtain ⟨rfl, rfl, rfl⟩ := hrel
        go_wp2
        go_ret
        exact ⟨rfl, rfl⟩
    show Calls Try.prog 29 #[.agg #[.slice va 0 vc], .int .i64 m] w fun e w' => e = .returned (.int .i64 ((m + 3 * 0 : Nat) : Int)) ∧ _
    go_enter Try.func29, Try.ntmps29
    go_wp2_with fail
    refine (C.out _).mono ?_
    rintro e w1 ⟨rfl, hw1⟩
    rw [hw1]
    clear hw1 w1
    go_wp2
    go_ret
    exact ⟨rfl, fun h => absurd rfl h, HBB.out.mono hw, fun j t cs _ hb => hb.on HBB.out hb.lt⟩
  · refine (markDisk_any g l vc m r hm hl w hb).mono ?_
    rintro e w' ⟨rfl, hk, hg'⟩
    refine ⟨rfl, filesAt_of hk, ⟨hg'.os, hg'.tape, hg'.output, hg'.size, fun k hk' => hg'.block k (by omega) (fun e => ?_)⟩, fun j t cs hj hbj => ?_⟩
    · have : k = g := by simpa using e
      omega
    · by_cases hne : l = []
      · subst hne
        by_cases e : j = g
        · subst e
          unfold BlockIs at hbj hb
          rw [hbj] at hb
          cases hb
          have h0 : fileCells (marksF m 0) ++ r = fileCells [] ++ r := rfl
          have hk0 : BlockIs w' j 36 (fileCells [] ++ r) := hk
          simpa using hk0
        · unfold BlockIs
          rw [hg'.block j hbj.lt (by simpa using e)]
          exact hbj
      · unfold BlockIs
        rw [hg'.block j hbj.lt (fun e => hj g rfl hne (by simpa using e))]
        exact hbj
end Go.Proofs.Ytfkknmhokiacaaa

namespace Go.Proofs.Ytfkknmhokiacaaa
open Go.RowKit Go.Sort

set_option maxRecDepth 1000000 in
theorem eqFile_same (f : FileD) (w : World) :
    Calls Try.prog 84 #[f.value, f.value] w fun e w' => e = .returned (.bool true) ∧ Below w.heap.size w w' := by
  have hb : Hid (∀ (o p : Obj), Below w.heap.size w ((w.alloc o).alloc p)) := fun o p => ((Below.refl _ w).alloc (Nat.le_refl _) _).alloc (by simp [World.alloc, -World.alloc_eq]) _
  unfold FileD.value
  go_enter Try.func84, Try.ntmps84
  go_wp2
  go_ret
  exact ⟨rfl, hb.out _ _⟩

set_option maxRecDepth 1000000 in
set_option maxHeartbeats 1000000 in
theorem eqFileS_same (ao bo : Option Addr) (l : List FileD) (cap cap' : Nat) (hl : l.length ≤ 140737488355328) (w : World) (ha : FilesAt w ao l) (hb : FilesAt w bo l) :
    Calls Try.prog 62 #[.slice ao l.length cap, .slice bo l.length cap'] w fun e w' => e = .returned (.bool true) ∧ Below w.heap.size w w' := by
  have HA := (show Hid (FilesAt w ao l) from ha)
  have HB := (show Hid (FilesAt w bo l) from hb)
  clear ha hb
  go_enter Try.func62, Try.ntmps62
  go_wp2
  go_loopg [5] l.length (fun g i wr => ∃ (k : Nat), k + g = l.length ∧ i = .int .i64 k ∧ Hid (Below w.heap.size w wr))
  case atStart => exact ⟨0, by omega, rfl, (show Below _ _ _ from Below.refl _ _)⟩
  case round =>
    obtain ⟨k, hkg, rfl, BR⟩ := hrel
    cases gk with
    | zero =>
      have hlt : ¬ (k : Int) < (l.length : Int) := by omega
      go_wp2
      go_ret
      exact ⟨rfl, BR.out⟩
    | succ g =>
      have hlt : k < l.length := by omega
      have hlt' : (k : Int) < (l.length : Int) := by omega
      have hne : l ≠ [] := by intro e; rw [e] at hlt; simp at hlt
      obtain ⟨b, off, rfl, hc⟩ := HA.out.on BR.out hne
      obtain ⟨x0, x1, x2⟩ := hc k hlt
      obtain ⟨b', off', rfl, hc'⟩ := HB.out.on BR.out hne
      obtain ⟨y0, y1, y2⟩ := hc' k hlt
      have X0 := cell_regrown x0
      have X1 := cell_regrown x1
      have X2 := cell_regrown x2
      have Y0 := cell_regrown y0
      have Y1 := cell_regrown y1
      have Y2 := cell_regrown y2
      clear hc hc' x0 x1 x2 y0 y1 y2
      have C' := fun d os => Calls.regrown_of (w := wr) (d := d) (os := os) (eqFile_same l[k] _)
      unfold FileD.value at C'
      have C := (show Hid _ from C')
      clear C'
      go_wp2
      refine wp_region_quiet_below (by kernel_rfl) (by kernel_rfl) ?_
      repeat (first | go_big_quiet_step (first | (go_at_call 84; exact C.out _ _) | fail) | quiet_step (first | (go_at_call 84; exact C.out _ _) | fail))
      refine wpQuiet_nil ?_
      intro _ hw'
      obtain ⟨⟨dq, osq⟩, hw''⟩ := hw'
      subst hw''
      have BQ : Hid (Below w.heap.size w (grow (redrawn wr dq) osq)) := BR.out.trans ((below_regrown wr dq osq).mono BR.out.size)
      generalize grow (redrawn wr dq) osq = wq at BQ ⊢
      clear X0 X1 X2 Y0 Y1 Y2 C
      go_wp2
      go_roundg g
      case measure => omega
      case rel => exact ⟨k + 1, by omega, by go_num, BQ⟩

theorem eqDisk_same (ao bo : Option Addr) (l : List FileD) (cap cap' : Nat) (hl : l.length ≤ 140737488355328) (w : World) (ha : FilesAt w ao l) (hb : FilesAt w bo l) :
    Calls Try.prog 28 #[.agg #[.slice ao l.length cap], .agg #[.slice bo l.length cap']] w fun e w' => e = .returned (.bool true) ∧ Below w.heap.size w w' := by
  have C := (show Hid _ from fun w ha hb => eqFileS_same ao bo l cap cap' hl w ha hb)
  have hbb : ∀ (o p : Obj), Below w.heap.size w ((w.alloc o).alloc p) := fun o p => ((Below.refl _ w).alloc (Nat.le_refl _) _).alloc (by simp [World.alloc, -World.alloc_eq]) _
  have HBB := (show Hid _ from hbb)
  have HA := (show Hid (FilesAt w ao l) from ha)
  have HB := (show Hid (FilesAt w bo l) from hb)
  clear ha hb hbb
  go_enter Try.func28, Try.ntmps28
  go_wp2_with fail
  refine (C.out _ (HA.out.on (HBB.out _ _)) (HB.out.on (HBB.out _ _))).mono ?_
  rintro e w1 ⟨rfl, b1⟩
  have B1 := (show Hid (Below w.heap.size w w1) from (HBB.out _ _).trans (b1.mono (HBB.out _ _).size))
  clear b1 C
  go_wp2
  go_ret
  exact ⟨rfl, B1.out⟩
end Go.Proofs.Ytfkknmhokiacaaa

namespace Go.Proofs.Ytfkknmhokiacaaa
open Go.RowKit

/-- a row of the call's own, made between two sizes of memory -/
def OwnAt (w : World) (t : TypeId) (cs : List Value) (n : Nat) (va : Option Addr) (lo hi : Nat) : Prop :=
  n = 0 ∨ ∃ g r, va = some ⟨g, 0, none⟩ ∧ lo ≤ g ∧ g < hi ∧ BlockIs w g t (cs ++ r)
theorem OwnAt.on {w w' : World} {t : TypeId} {cs : List Value} {n : Nat} {va : Option Addr} {lo hi : Nat} (h : OwnAt w t cs n va lo hi) (hb : Below w.heap.size w w') : OwnAt w' t cs n va lo hi :=
  h.imp id fun ⟨g, r, a, b, c, d⟩ => ⟨g, r, a, b, c, d.on hb d.lt⟩
theorem OwnAt.down {w : World} {t : TypeId} {cs : List Value} {n : Nat} {va : Option Addr} {lo hi lo' hi' : Nat} (h : OwnAt w t cs n va lo hi) (h1 : lo' ≤ lo) (h2 : hi ≤ hi') : OwnAt w t cs n va lo' hi' :=
  h.imp id fun ⟨g, r, a, b, c, d⟩ => ⟨g, r, a, Nat.le_trans h1 b, Nat.lt_of_lt_of_le c h2, d⟩
/-- nothing but blocks between two sizes has turned -/
def KeptBut (lo hi : Nat) (w w' : World) : Prop := ∀ j t cs, ¬ (lo ≤ j ∧ j < hi) → BlockIs w j t cs → BlockIs w' j t cs
theorem OwnAt.kept {w w' : World} {t : TypeId} {cs : List Value} {n : Nat} {va : Option Addr} {lo hi lo2 hi2 : Nat} (h : OwnAt w t cs n va lo hi) (hk : KeptBut lo2 hi2 w w') (ho : hi ≤ lo2 ∨ hi2 ≤ lo) : OwnAt w' t cs n va lo hi :=
  h.imp id fun ⟨g, r, a, b, c, d⟩ => ⟨g, r, a, b, c, hk _ _ _ (by omega) d⟩
theorem BlockIs.kept {w w' : World} {g lo hi : Nat} {t : TypeId} {cs : List Value} (h : BlockIs w g t cs) (hk : KeptBut lo hi w w') (ho : g < lo ∨ hi ≤ g) : BlockIs w' g t cs := hk _ _ _ (by omega) h
theorem OwnAt.files {w : World} {l : List FileD} {va : Option Addr} {lo hi : Nat} (h : OwnAt w 36 (fileCells l) l.length va lo hi) : FilesAt w va l := by
  rcases h with h | ⟨g, r, rfl, _, _, h⟩
  · intro h0
    exact absurd (List.length_eq_zero_iff.1 h) h0
  · exact filesAt_of h
theorem own_of_row {w : World} {base : Nat} {v : Value} {l : List FileD} (h : w.ownsRow base 36 3 v l.length (fileCells l)) : ∃ va vc, v = .slice va l.length vc ∧ OwnAt w 36 (fileCells l) l.length va base w.heap.size := by
  obtain ⟨va, vc, rfl, _, (h0 | ⟨g, r, rfl, hb, hk⟩)⟩ := own_files h
  · exact ⟨va, vc, rfl, Or.inl (by rw [h0]; rfl)⟩
  · exact ⟨_, vc, rfl, Or.inr ⟨g, r, rfl, hb, hk.lt, hk⟩⟩
theorem own_of_block {w : World} {base g : Nat} {l : List FileD} (hb : base ≤ g) (hk : BlockIs w g 36 (fileCells l)) : OwnAt w 36 (fileCells l) l.length (some ⟨g, 0, none⟩) base w.heap.size :=
  Or.inr ⟨g, [], rfl, hb, hk.lt, by rw [List.append_nil]; exact hk⟩

theorem toDisk_o (ao : Option Addr) (l : List FileD) (cap : Nat) (hl : l.length ≤ 1048576) (w : World) (ha : FilesAt w ao l) :
    Calls Try.prog 26 #[.agg #[.slice ao l.length cap]] w fun e w' => ∃ va vc, e = .returned (.agg #[.slice va l.length vc]) ∧ OwnAt w' 36 (fileCells l) l.length va w.heap.size w'.heap.size ∧ Below w.heap.size w w' := by
  refine (toDisk_any ao l cap hl w ha).mono ?_
  rintro e w' ⟨g, hg, rfl, hk, hb⟩
  exact ⟨_, _, rfl, own_of_block hg hk, hb⟩

theorem eqDisk_o (va vb : Option Addr) (l : List FileD) (c c' : Nat) (hl : l.length ≤ 1048576) (w : World) (ha : FilesAt w va l) (hb : FilesAt w vb l) :
    Calls Try.prog 28 #[.agg #[.slice va l.length c], .agg #[.slice vb l.length c']] w fun e w' => e = .returned (.bool true) ∧ Below w.heap.size w w' :=
  eqDisk_same va vb l c c' (by omega) w ha hb

theorem markDisk_o (m : Nat) (va : Option Addr) (vc : Nat) (l : List FileD) (lo hi : Nat) (hm : m ≤ 10000000) (hl : l.length ≤ 1048576) (w : World) (hw : lo ≤ w.heap.size) (h : OwnAt w 36 (fileCells l) l.length va lo hi) :
    Calls Try.prog 29 #[.agg #[.slice va l.length vc], .int .i64 m] w fun e w' => e = .returned (.int .i64 ((m + 3 * l.length : Nat) : Int)) ∧ FilesAt w' va (marksF m l.length) ∧ KeptBut lo hi w w' ∧ Below lo w w' := by
  have h' : l = [] ∨ ∃ g r, va = some ⟨g, 0, none⟩ ∧ lo ≤ g ∧ BlockIs w g 36 (fileCells l ++ r) :=
    h.imp (fun e => List.length_eq_zero_iff.1 e) fun ⟨g, r, a, b, _, d⟩ => ⟨g, r, a, b, d⟩
  refine (markDisk_own lo m va vc l hm hl w hw h').mono ?_
  rintro e w' ⟨rfl, hf, hb, hk⟩
  refine ⟨rfl, hf, fun j t cs hj hbl => hk j t cs (fun g hg hne => ?_) hbl, hb⟩
  rcases h with h0 | ⟨g', r, hv, h1, h2, _⟩
  · exact absurd (List.length_eq_zero_iff.1 h0) hne
  · rw [hg] at hv
    cases hv
    intro e
    exact hj ⟨by omega, by omega⟩
end Go.Proofs.Ytfkknmhokiacaaa
