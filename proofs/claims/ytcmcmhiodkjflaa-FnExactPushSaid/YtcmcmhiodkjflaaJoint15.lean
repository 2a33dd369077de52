/-
  An answer's segments and early texts, each written over with marks beside the other.
-/
import Derived.Test.YtcmcmhiodkjflaaJoint11
import Derived.Test.YtcmcmhiodkjflaaJoint14
import Derived.Test.YtcmcmhiodkjflaaJoint1
namespace Go.Proofs.Ytcmcmhiodkjflaa
open Go.RowKit

/-- nothing but blocks of one kind between two sizes has turned -/
def KeptOf (ty : TypeId) (lo hi : Nat) (w w' : World) : Prop := ∀ j t cs, ¬ (lo ≤ j ∧ j < hi ∧ t = ty) → BlockIs w j t cs → BlockIs w' j t cs
theorem OwnAt.keptO {w w' : World} {t ty : TypeId} {cs : List Value} {n : Nat} {va : Option Addr} {lo hi lo2 hi2 : Nat} (h : OwnAt w t cs n va lo hi) (hk : KeptOf ty lo2 hi2 w w') (ho : hi ≤ lo2 ∨ hi2 ≤ lo ∨ t ≠ ty) : OwnAt w' t cs n va lo hi :=
  h.imp id fun ⟨g, r, a, b, c, d⟩ => ⟨g, r, a, b, c, hk _ _ _ (fun h => by rcases ho with q | q | q; omega; omega; exact q h.2.2) d⟩
theorem BlockIs.keptO {w w' : World} {g lo hi : Nat} {t ty : TypeId} {cs : List Value} (h : BlockIs w g t cs) (hk : KeptOf ty lo hi w w') (ho : t ≠ ty) : BlockIs w' g t cs := hk _ _ _ (fun h => ho h.2.2) h
theorem OwnAt.segs {w : World} {l : List SegD} {n : Nat} {va : Option Addr} {lo hi : Nat} (h : OwnAt w 42 (segCells l) n va lo hi) (hn : l.length = n) : SegsAt w va l := by
  rcases h with h | ⟨g, r, rfl, _, _, h⟩
  · intro h0
    exact absurd (List.length_eq_zero_iff.1 (hn.trans h)) h0
  · exact segsAt_of h
theorem OwnAt.lates2 {w : World} {l : List LateD} {n : Nat} {va : Option Addr} {lo hi : Nat} (h : OwnAt w 69 (lateCells l) n va lo hi) (hn : l.length = n) : LatesAt w va l := by
  subst hn
  exact h.lates
theorem grown_kept {w w' : World} {g lo hi : Nat} {ty : TypeId} {cs : List Value} (hb : BlockIs w g ty cs) (h1 : lo ≤ g) (h2 : g < hi) (hg : w.grownBy w' (some g)) : KeptOf ty lo hi w w' := by
  intro j t cs' hne hj
  unfold BlockIs
  rw [hg.block j hj.lt (fun e => ?_)]
  · exact hj
  · have e' : j = g := by simpa using e
    subst e'
    exact hne ⟨h1, h2, (block_one hj hb).1⟩
theorem grown_belowG {w w' : World} {g lo : Nat} (hg : w.grownBy w' (some g)) (hw : lo ≤ w.heap.size) (h1 : lo ≤ g) : Below lo w w' := by
  refine ⟨hg.os, hg.tape, hg.output, hg.size, fun k hk => hg.block k (by omega) ?_⟩
  intro e
  have e' : k = g := by simpa using e
  omega
theorem markStream_t (d : StrD) (m : Nat) (va : Option Addr) (vc : Nat) (l : List LateD) (lo hi : Nat) (hm : m ≤ 10000000) (hl : l.length ≤ 1048576) (w : World) (hw : lo ≤ w.heap.size) (h : OwnAt w 69 (lateCells l) l.length va lo hi) :
    Calls Try.prog 11 #[.agg #[.int .i64 d.st, .int .i64 d.iss, .int .i64 d.una, .int .i64 d.rcv, .string d.wait, .int .i64 d.sent, .int .i64 d.fin, .bool d.pf, .string d.inn, .slice va l.length vc, .bool d.owe, .int .i64 d.due, .int .i64 d.times], .int .i64 m] w fun e w' => e = .returned (.int .i64 ((m + 2 * l.length : Nat) : Int)) ∧ OwnAt w' 69 (lateCells (marksLate m l.length)) l.length va lo hi ∧ KeptOf 69 lo hi w w' ∧ Below lo w w' := by
  rcases h with h0 | ⟨g, r, rfl, h1, h2, h3⟩
  · refine (markStream_o d m va vc l lo lo hm hl w hw (Or.inl h0)).mono ?_
    rintro e w' ⟨rfl, _, hk, hb⟩
    exact ⟨rfl, Or.inl h0, fun j t cs _ hj => hk j t cs (by omega) hj, hb⟩
  · refine (markStream_any d g l vc m r hm hl w h3).mono ?_
    rintro e w' ⟨rfl, hk, hg⟩
    exact ⟨rfl, Or.inr ⟨g, r, rfl, h1, h2, hk⟩, grown_kept h3 h1 h2 hg, grown_belowG hg hw h1⟩
set_option maxRecDepth 1000000 in
theorem markSegS_t (m : Nat) (va : Option Addr) (vc : Nat) (l : List SegD) (lo hi : Nat) (hm : m ≤ 10000000) (hl : l.length ≤ 1048576) (w : World) (hw : lo ≤ w.heap.size) (h : OwnAt w 42 (segCells l) l.length va lo hi) :
    Calls Try.prog 12 #[.slice va l.length vc, .int .i64 m] w fun e w' => e = .returned (.int .i64 ((m + 4 * l.length : Nat) : Int)) ∧ OwnAt w' 42 (segCells (marksSeg m l.length)) l.length va lo hi ∧ KeptOf 42 lo hi w w' ∧ Below lo w w' := by
  rcases h with h0 | ⟨g, r, rfl, h1, h2, h3⟩
  · obtain rfl : l = [] := List.length_eq_zero_iff.1 h0
    show Calls Try.prog 12 #[.slice va 0 vc, .int .i64 m] w fun e w' => e = .returned (.int .i64 ((m + 4 * 0 : Nat) : Int)) ∧ _
    go_enter Try.func12, Try.ntmps12
    go_wp2
    go_loopg [1, 5] 0 (fun _ y i wr => wr = w ∧ i = .int .i64 0 ∧ y = .int .i64 m)
    case atStart => exact ⟨rfl, rfl, rfl⟩
    case round =>
      obtain ⟨rfl, rfl, rfl⟩ := hrel
      go_wp2
      go_ret
      exact ⟨rfl, Or.inl rfl, fun _ _ _ _ hj => hj, Below.refl _ _⟩
  · refine (markSegS_any g l vc m r hm hl w h3).mono ?_
    rintro e w' ⟨rfl, hk, hg⟩
    exact ⟨rfl, Or.inr ⟨g, r, rfl, h1, h2, hk⟩, grown_kept h3 h1 h2 hg, grown_belowG hg hw h1⟩
end Go.Proofs.Ytcmcmhiodkjflaa
