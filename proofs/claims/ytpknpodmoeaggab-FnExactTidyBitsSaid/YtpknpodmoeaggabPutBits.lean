/-
  An element of a row of Bits, written; a row that was just made.
-/
import Derived.Test.YtpknpodmoeaggabDataBits
import Derived.Test.YtpknpodmoeaggabRows
import Derived.OwnWalk
namespace Go.Proofs.Ytpknpodmoeaggab
open Go.RowKit

theorem toBits_info : (Try.prog.info? 60).map (fun i => (i.zero, i.size, i.bytes)) = some (some (.agg #[.int .i64 0, .int .i64 0, .slice none 0 0, .slice none 0 0, .int .i64 0, .int .i64 0]), 6, 80) := by kernel_rfl
/-- an element's cells are written -/
theorem put_bits {w w2 : World} {g k : Nat} {t : TypeId} {l : List BitsD} {r : List Value} (hk : k < l.length) (h : BlockIs w g t (bitsCells (l.take k) ++ r)) (hr : r.length = (l.length - k) * 6) {B : Nat} (hb : Below B w w2) (hg : g < B) :
    (∃ o0 o1 o2 o3 o4 o5, w2.cell? ⟨g, k * 6, none⟩ = some o0 ∧ w2.cell? ⟨g, k * 6 + 1, none⟩ = some o1 ∧ w2.cell? ⟨g, k * 6 + 2, none⟩ = some o2 ∧ w2.cell? ⟨g, k * 6 + 3, none⟩ = some o3 ∧ w2.cell? ⟨g, k * 6 + 4, none⟩ = some o4 ∧ w2.cell? ⟨g, k * 6 + 5, none⟩ = some o5) ∧ (∀ j, w2.frozen? ⟨g, j, none⟩ = false) ∧
    ∃ r', r'.length = (l.length - (k + 1)) * 6 ∧ BlockIs ((((((w2.setCell ⟨g, k * 6, none⟩ (.int .i64 l[k].src)).setCell ⟨g, k * 6 + 1, none⟩ (.int .i64 l[k].ident)).setCell ⟨g, k * 6 + 2, none⟩ (.slice l[k].tx.ad l[k].tx.len l[k].tx.cap)).setCell ⟨g, k * 6 + 3, none⟩ (.slice l[k].ax.ad l[k].ax.len l[k].ax.cap)).setCell ⟨g, k * 6 + 4, none⟩ (.int .i64 l[k].total)).setCell ⟨g, k * 6 + 5, none⟩ (.int .i64 l[k].lim)) g t (bitsCells (l.take (k + 1)) ++ r') := by
  have h2 := h.on hb hg
  have hlen : (bitsCells (l.take k)).length = k * 6 := by rw [bitsCells_length, List.length_take]; omega
  match r, hr with
  | z0 :: z1 :: z2 :: z3 :: z4 :: z5 :: r', hr =>
    have hs := (((((h2.set (k * 6) (.int .i64 l[k].src)).set (k * 6 + 1) (.int .i64 l[k].ident)).set (k * 6 + 2) (.slice l[k].tx.ad l[k].tx.len l[k].tx.cap)).set (k * 6 + 3) (.slice l[k].ax.ad l[k].ax.len l[k].ax.cap)).set (k * 6 + 4) (.int .i64 l[k].total)).set (k * 6 + 5) (.int .i64 l[k].lim)
    have e3 := bits_sets (bitsCells (l.take k)) (.int .i64 l[k].src) (.int .i64 l[k].ident) (.slice l[k].tx.ad l[k].tx.len l[k].tx.cap) (.slice l[k].ax.ad l[k].ax.len l[k].ax.cap) (.int .i64 l[k].total) (.int .i64 l[k].lim) z0 z1 z2 z3 z4 z5 r'
    rw [hlen] at e3
    rw [e3] at hs
    refine ⟨⟨z0, z1, z2, z3, z4, z5, h2.cell ?_, h2.cell ?_, h2.cell ?_, h2.cell ?_, h2.cell ?_, h2.cell ?_⟩, fun j => h2.thaw j, r', ?_, ?_⟩
    · rw [List.getElem?_append_right (by omega), hlen, Nat.sub_self]; rfl
    · rw [List.getElem?_append_right (by omega), hlen, show k * 6 + 1 - k * 6 = 1 by omega]; rfl
    · rw [List.getElem?_append_right (by omega), hlen, show k * 6 + 2 - k * 6 = 2 by omega]; rfl
    · rw [List.getElem?_append_right (by omega), hlen, show k * 6 + 3 - k * 6 = 3 by omega]; rfl
    · rw [List.getElem?_append_right (by omega), hlen, show k * 6 + 4 - k * 6 = 4 by omega]; rfl
    · rw [List.getElem?_append_right (by omega), hlen, show k * 6 + 5 - k * 6 = 5 by omega]; rfl
    · simp at hr; omega
    · rw [bitsCells_take l k hk, List.append_assoc]
      exact hs
  | [], hr => simp at hr; omega
  | [_], hr => simp at hr; omega
  | [_, _], hr => simp at hr; omega
  | [_, _, _], hr => simp at hr; omega
  | [_, _, _, _], hr => simp at hr; omega
  | [_, _, _, _, _], hr => simp at hr; omega

theorem made_bits (n : Nat) : (madeCells (Value.agg #[.int .i64 0, .int .i64 0, .slice none 0 0, .slice none 0 0, .int .i64 0, .int .i64 0]).cells (n * 6)).toList.length = n * 6 := by
  simp [madeCells]
end Go.Proofs.Ytpknpodmoeaggab
