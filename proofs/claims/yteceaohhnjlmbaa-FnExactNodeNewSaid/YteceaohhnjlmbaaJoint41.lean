/-
  Rows of the call's own that are written over with marks: entries, ints.
-/
import Derived.Test.YteceaohhnjlmbaaJoint38
import Derived.Test.YteceaohhnjlmbaaJoint39
import Derived.Test.YteceaohhnjlmbaaJoint40
import Derived.Test.YteceaohhnjlmbaaJoint1
import Derived.Deep.LoopGhost
import Derived.Sort.Statements
namespace Go.Proofs.Yteceaohhnjlmbaa
open Go.RowKit Go.Sort

theorem row_blockM {w : World} {base size n : Nat} {t : TypeId} {va : Option Addr} {vc : Nat} {cs : List Value} (hn : 0 < n) (h : w.ownsRow base t size (.slice va n vc) n cs) : ∃ g r, va = some ⟨g, 0, none⟩ ∧ base ≤ g ∧ BlockIs w g t (cs ++ r) := by
  rcases h.2 with ⟨hv, h0⟩ | ⟨g, cp, cur, hv, hb, hh, hle, _, _, ht⟩
  · omega
  · simp only [Value.slice.injEq] at hv
    obtain ⟨rfl, _, rfl⟩ := hv
    have hcur : cur.toList = cs ++ cur.toList.drop (n * size) := by rw [← ht, List.take_append_drop]
    exact ⟨g, _, rfl, hb, by unfold BlockIs; rw [hh, ← hcur]⟩
theorem row_grownM2 {w w1 : World} {base base2 size size2 n n2 : Nat} {t t2 : TypeId} {v u : Value} {xs ys : List Value} (h : w.ownsRow base t size v n xs) (hr : w.ownsRow base2 t2 size2 u n2 ys) (hg : w.grownBy w1 u.ownBlock) (ht : t ≠ t2) : w1.ownsRow base t size v n xs := by
  refine row_ext h fun g cs hb => ?_
  have hlt := hb.lt
  unfold BlockIs at hb ⊢
  rw [hg.block g hlt ?_]
  · exact hb
  · intro e
    obtain ⟨cs2, h2, _⟩ := row_block hr e.symm
    unfold BlockIs at h2
    rw [hb] at h2
    simp only [Option.some.injEq, Obj.cells.injEq] at h2
    exact ht h2.2.1
theorem row_turnM {w w' : World} {base size n g c : Nat} {t : TypeId} {xs ys r : List Value} (h : w.ownsRow base t size (.slice (some ⟨g, 0, none⟩) n c) n xs) (h1 : BlockIs w g t (xs ++ r)) (h2 : BlockIs w' g t (ys ++ r)) (hl : ys.length = xs.length) : w'.ownsRow base t size (.slice (some ⟨g, 0, none⟩) n c) n ys := by
  rcases h.2 with ⟨hv, h0⟩ | ⟨g', cp, cur, hv, hb, hh, hle, hm, hs, ht⟩
  · cases hv
  · simp only [Value.slice.injEq, Option.some.injEq, Addr.mk.injEq] at hv
    obtain ⟨⟨rfl, _, _⟩, _, rfl⟩ := hv
    have hc : cur.toList = xs ++ r := by
      unfold BlockIs at h1
      rw [hh] at h1
      simp only [Option.some.injEq, Obj.cells.injEq, and_true] at h1
      rw [h1]
    refine ⟨by rw [hl]; exact h.1, Or.inr ⟨g, c, (ys ++ r).toArray, rfl, hb, h2, hle, hm, ?_, ?_⟩⟩
    · have : cur.size = (xs ++ r).length := by rw [← hc]; simp
      rw [List.size_toArray, List.length_append, hl, ← List.length_append, ← this, hs]
    · show (ys ++ r).take (n * size) = ys
      rw [← h.1, ← hl, List.take_left']
      rfl
theorem entsR_atM {w : World} {base : Nat} {va : Option Addr} {vc : Nat} {l : List EntD} (h : w.ownsRow base 74 3 (.slice va l.length vc) l.length (entCells l)) : EntsAt w va l := by
  intro hne
  obtain ⟨g, r, rfl, _, hb⟩ := row_blockM (List.length_pos_iff.2 hne) h
  exact entsAt_of hb hne
set_option maxRecDepth 1000000 in
theorem markEntryS_none (a : Option Addr) (c : Nat) (m : Int) (w : World) : Calls Try.prog 66 #[.slice a 0 c, .int .i64 m] w fun e w' => e = .returned (.int .i64 m) ∧ w' = w := by
  go_enter Try.func66, Try.ntmps66
  go_wp2
  go_loopg [1, 5] 0 (fun _ y i wr => wr = w ∧ i = .int .i64 0 ∧ y = .int .i64 m)
  case atStart => exact ⟨rfl, rfl, rfl⟩
  case round =>
    obtain ⟨rfl, rfl, rfl⟩ := hrel
    go_wp2
    go_ret
    exact ⟨rfl, rfl⟩
theorem markE_own (lo : Nat) (va : Option Addr) (vc m : Nat) (l : List EntD) (hm : m ≤ 10000000) (hl : l.length ≤ 1048576) (w : World) (h : w.ownsRow lo 74 3 (.slice va l.length vc) l.length (entCells l)) :
    Calls Try.prog 66 #[.slice va l.length vc, .int .i64 m] w fun e w' => e = .returned (.int .i64 ((m + 3 * l.length : Nat) : Int)) ∧ w'.ownsRow lo 74 3 (.slice va l.length vc) l.length (entCells (marksE m l.length)) ∧ w.grownBy w' (Value.slice va l.length vc).ownBlock := by
  by_cases h0 : l = []
  · subst h0
    refine Calls.mono (markEntryS_none va vc m w) ?_
    rintro e w' ⟨rfl, rfl⟩
    exact ⟨rfl, h, World.grownBy.refl _ _⟩
  · obtain ⟨g, r, rfl, hg, hb⟩ := row_blockM (List.length_pos_iff.2 h0) h
    refine Calls.mono (markEntryS_any g l vc m r hm hl w hb) ?_
    rintro e w' ⟨rfl, h2, h3⟩
    exact ⟨rfl, row_turnM h hb h2 (by rw [entCells_length, entCells_length, marksE_length]), h3⟩
theorem markC_own (lo : Nat) (va : Option Addr) (vc m : Nat) (zs : List Int) (hm : m ≤ 10000000) (hl : zs.length ≤ 1048576) (w : World) (h : w.ownsRow lo 3 1 (.slice va zs.length vc) zs.length (intCells zs)) :
    Calls Try.prog 15 #[.slice va zs.length vc, .int .i64 m] w fun e w' => e = .returned (.int .i64 ((m + zs.length : Nat) : Int)) ∧ IntsAt w' va (countFrom m zs.length) ∧ w.grownBy w' (Value.slice va zs.length vc).ownBlock := by
  by_cases h0 : zs = []
  · subst h0
    refine Calls.mono (markIntS_nil va vc m w) ?_
    rintro e w' ⟨rfl, rfl⟩
    exact ⟨rfl, fun q => absurd rfl q, World.grownBy.refl _ _⟩
  · obtain ⟨g, r, rfl, hg, hb⟩ := row_blockM (List.length_pos_iff.2 h0) h
    refine Calls.mono (markIntS_more g zs r vc m hm hl w hb) ?_
    rintro e w' ⟨rfl, ⟨r', hr⟩, h3⟩
    exact ⟨rfl, intsAt_of hr, h3⟩
end Go.Proofs.Yteceaohhnjlmbaa
