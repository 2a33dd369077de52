/-
  Plain facts on reading figures two by two; nothing of the program stands here.
-/
import Derived.Test.YtcbmchbnfhjdgaaDoorPlainFig
namespace Go.Proofs.YtcbmchbnfhjdgaaDoor
open Go.RowKit

/-- the bytes that figures, two by two, make -/
def unh : List UInt8 → List UInt8
  | a :: b :: r => UInt8.ofNat (16 * lv (a.toNat : Int) + lv (b.toNat : Int)).toNat :: unh r
  | _ => []

theorem unh_snoc2 (a b : UInt8) : ∀ (n : Nat) (l : List UInt8), l.length = 2 * n → unh (l ++ [a, b]) = unh l ++ unh [a, b]
  | 0, l, h => by
    have : l = [] := List.eq_nil_of_length_eq_zero (by omega)
    subst this; rfl
  | n + 1, l, h => by
    match l, h with
    | x :: y :: r, h =>
      have ih := unh_snoc2 a b n r (by simp at h; omega)
      simp [unh, ih]

theorem unh_length : ∀ (n : Nat) (l : List UInt8), l.length = 2 * n → (unh l).length = n
  | 0, l, h => by
    have : l = [] := List.eq_nil_of_length_eq_zero (by omega)
    subst this; rfl
  | n + 1, l, h => by
    match l, h with
    | x :: y :: r, h =>
      have ih := unh_length n r (by simp at h; omega)
      simp [unh, ih]

theorem take_snoc2 (s : ByteArray) (k : Nat) (h : k + 1 < s.size) : s.data.toList.take (k + 2) = s.data.toList.take k ++ [s[k], s[k + 1]] := by
  rw [take_snoc s (k + 1) h, take_snoc s k (by omega)]
  simp

theorem unh_step {s : ByteArray} {k : Nat} {w wr w1 : World} {v v' : Value} {B : Obj} (hk : 2 * k + 1 < s.size) (h1 : 0 ≤ lv (s[2 * k].toNat : Int)) (h2 : 0 ≤ lv (s[2 * k + 1].toNat : Int)) (hown : wr.ownsRow w.heap.size 5 1 v k (cs (unh (s.data.toList.take (2 * k)))))
    (hown' : w1.ownsRow w.heap.size 5 1 v' (k + 1) (cs (unh (s.data.toList.take (2 * k))) ++ [.int .u8 (16 * lv (s[2 * k].toNat : Int) + lv (s[2 * k + 1].toNat : Int))])) (hgrow : (wr.alloc B).grownBy w1 v.ownBlock) (hb : Below w.heap.size w wr) :
    w1.ownsRow w.heap.size 5 1 v' (k + 1) (cs (unh (s.data.toList.take (2 * (k + 1))))) ∧ Below w.heap.size w w1 := by
  refine ⟨?_, (hb.alloc hb.size _).grown hgrow (by have := hb.size; simp; omega) (fun j hj => (hown.lt j hj).1)⟩
  have b1 := lv_bd (s[2 * k].toNat : Int)
  have b2 := lv_bd (s[2 * k + 1].toNat : Int)
  have e : [Value.int .u8 (16 * lv (s[2 * k].toNat : Int) + lv (s[2 * k + 1].toNat : Int))] = cs (unh [s[2 * k], s[2 * k + 1]]) := by
    rw [cs_one (by omega) (by omega)]
    simp [unh]
  rw [e, ← cs_append, ← unh_snoc2 _ _ k _ (take_len s (2 * k) (by omega)), ← take_snoc2 s (2 * k) hk] at hown'
  exact hown'

theorem Figs.snoc2 {s : ByteArray} {k : Nat} (hk : 2 * k + 1 < s.size) (h : Figs 16 (s.data.toList.take (2 * k))) (h1 : 0 ≤ lv (s[2 * k].toNat : Int)) (h2 : 0 ≤ lv (s[2 * k + 1].toNat : Int)) : Figs 16 (s.data.toList.take (2 * (k + 1))) := by
  have b1 := lv_bd (s[2 * k].toNat : Int)
  have b2 := lv_bd (s[2 * k + 1].toNat : Int)
  show Figs 16 (s.data.toList.take (2 * k + 2))
  rw [take_snoc2 s (2 * k) hk]
  intro x hx
  rcases List.mem_append.1 hx with hx | hx
  · exact h x hx
  · simp only [List.mem_cons, List.not_mem_nil, or_false] at hx
    rcases hx with hx | hx <;> subst hx <;> constructor <;> omega

theorem not_Figs {s : ByteArray} {k : Nat} (hk : k < s.size) (h : lv (s[k].toNat : Int) < 0) : ¬ Figs 16 s.data.toList := by
  intro hall
  have := hall s[k] (mem_at s k hk)
  omega
end Go.Proofs.YtcbmchbnfhjdgaaDoor
