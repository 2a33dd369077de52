/-
  Plain facts: what is written is read back; nothing of the program stands here.
-/
import Derived.Test.YtmfimbpeihlodaaDoorPlainShort
import Derived.Test.YtmfimbpeihlodaaDoorPlainUnhex
import Derived.Test.YtmfimbpeihlodaaDoorPlainDec
namespace Go.Proofs.YtmfimbpeihlodaaDoor
open Go.RowKit

theorem val_append (p q : List UInt8) : val (p ++ q) = val p + val q * 128 ^ p.length := by
  induction p with
  | nil => simp [val]
  | cons x p ih =>
    simp only [List.cons_append, val, ih, List.length_cons, Nat.pow_succ, Nat.mul_add]
    rw [show val q * (128 ^ p.length * 128) = 128 * (val q * 128 ^ p.length) from by rw [Nat.mul_comm (128 ^ p.length) 128, Nat.mul_left_comm]]
    omega

theorem val_vb (n : Nat) : val (vb n) = n := by
  induction n using Nat.strongRecOn with
  | _ n ih =>
    by_cases h : n ≤ 127
    · rw [vb_small h]; simp [val]; omega
    · rw [vb_big (by omega)]
      simp only [val, ih (n / 128) (by omega), UInt8.toNat_ofNat']
      omega

theorem vb_len {n : Nat} (h : n ≤ 1000000000) : (vb n).length ≤ 5 := by
  by_cases h1 : n ≤ 127
  · rw [vb_small h1]; simp
  rw [vb_big (by omega)]
  by_cases h2 : n / 128 ≤ 127
  · rw [vb_small h2]; simp
  rw [vb_big (by omega)]
  by_cases h3 : n / 128 / 128 ≤ 127
  · rw [vb_small h3]; simp
  rw [vb_big (by omega)]
  by_cases h4 : n / 128 / 128 / 128 ≤ 127
  · rw [vb_small h4]; simp
  rw [vb_big (by omega), vb_small (by omega)]; simp

theorem rvFrom_vb (m : Nat) : ∀ (p r : List UInt8), p.length + (vb m).length ≤ 5 → val (p ++ vb m) ≤ 1000000000 → (p = [] ∨ 0 < m) → rvFrom p (vb m ++ r) = some (val (p ++ vb m), p.length + (vb m).length) := by
  induction m using Nat.strongRecOn with
  | _ m ih =>
    intro p r h5 hv hp
    by_cases h : m ≤ 127
    · rw [vb_small h] at h5 hv ⊢
      have hb : (UInt8.ofNat m).toNat = m := by rw [UInt8.toNat_ofNat']; omega
      simp only [List.length_cons, List.length_nil] at h5 ⊢
      simp only [List.cons_append, List.nil_append]
      rw [rvFrom_yes _ _ _ (by omega) (by omega)]
      rintro (q | ⟨q1, q2⟩)
      · omega
      · rcases hp with hp | hp
        · exact q2 hp
        · have := congrArg UInt8.toNat q1
          rw [hb] at this
          simp at this
          omega
    · have e := vb_big (n := m) (by omega)
      have hb : (UInt8.ofNat (m % 128 + 128)).toNat = m % 128 + 128 := by rw [UInt8.toNat_ofNat']; omega
      have hp1 := vb_pos (m / 128)
      rw [e] at h5 hv ⊢
      simp only [List.length_cons] at h5 ⊢
      simp only [List.cons_append]
      have e2 : p ++ UInt8.ofNat (m % 128 + 128) :: vb (m / 128) = (p ++ [UInt8.ofNat (m % 128 + 128)]) ++ vb (m / 128) := by simp
      rw [e2] at hv ⊢
      rw [rvFrom_on _ _ _ (by omega) (by omega), ih (m / 128) (by omega) _ r (by simp; omega) hv (Or.inr (by omega))]
      simp only [List.length_append, List.length_cons, List.length_nil]
      congr 2
      omega

theorem rv_vb {n : Nat} (h : n ≤ 1000000000) (r : List UInt8) : rv (vb n ++ r) = some (n, (vb n).length) := by
  have := rvFrom_vb n [] r (by simpa using vb_len h) (by simpa [val_vb] using h) (Or.inl rfl)
  simpa [rv, val_vb] using this

theorem figs_hex (l : List UInt8) : Figs 16 (hexOf l) := by
  induction l with
  | nil => simp [hexOf, Figs]
  | cons b l ih =>
    have hb := b.toNat_lt
    intro c hc
    simp only [hexOf, List.mem_cons] at hc
    have one : ∀ x : Int, 0 ≤ x → x ≤ 15 → 0 ≤ lv ((UInt8.ofNat (fig x).toNat).toNat : Int) ∧ lv ((UInt8.ofNat (fig x).toNat).toNat : Int) < (16 : Nat) := by
      intro x h0 h1
      have hf := fig_bd h0 h1
      have e : ((UInt8.ofNat (fig x).toNat).toNat : Int) = fig x := by rw [UInt8.toNat_ofNat']; omega
      have := (fig_lv (c := fig x) (j := x) h0 h1).1 rfl
      rw [e, this]
      omega
    rcases hc with hc | hc | hc
    · subst hc; exact one _ (by omega) (by omega)
    · subst hc; exact one _ (by omega) (by omega)
    · exact ih c hc

theorem unh_hex (l : List UInt8) : unh (hexOf l) = l := by
  induction l with
  | nil => rfl
  | cons b l ih =>
    have hb := b.toNat_lt
    have one : ∀ x : Int, 0 ≤ x → x ≤ 15 → lv ((UInt8.ofNat (fig x).toNat).toNat : Int) = x := by
      intro x h0 h1
      have hf := fig_bd h0 h1
      have e : ((UInt8.ofNat (fig x).toNat).toNat : Int) = fig x := by rw [UInt8.toNat_ofNat']; omega
      rw [e]
      exact (fig_lv (c := fig x) (j := x) h0 h1).1 rfl
    simp only [hexOf, unh, ih]
    rw [one _ (by omega) (by omega), one _ (by omega) (by omega)]
    congr 1
    apply UInt8.toNat_inj.1
    rw [UInt8.toNat_ofNat']
    omega

theorem num_dd (n : Nat) : num (dd n) = n := by
  induction n using Nat.strongRecOn with
  | _ n ih =>
    by_cases h : n = 0
    · subst h; rw [dd_zero]; rfl
    · rw [dd_pos (by omega), num_snoc, ih (n / 10) (by omega), UInt8.toNat_ofNat']
      omega
theorem digits_dd (n : Nat) : Digits (dd n) := by
  induction n using Nat.strongRecOn with
  | _ n ih =>
    by_cases h : n = 0
    · subst h; rw [dd_zero]; simp [Digits]
    · rw [dd_pos (by omega)]
      refine (ih (n / 10) (by omega)).snoc ?_
      rw [UInt8.toNat_ofNat']
      omega
theorem dec_back (n : Nat) (hn : n ≤ 1000000000) : DecOk (dec n) ∧ num (dec n) = n ∧ (dec n).length ≤ 10 := by
  have hd : Digits (dec n) ∧ num (dec n) = n ∧ (dec n).length ≤ 10 := by
    unfold dec
    by_cases h : (n : Int) = 0
    · rw [if_pos h]
      have e : n = 0 := by omega
      subst e
      refine ⟨?_, rfl, by simp⟩
      intro c hc
      simp at hc
      subst hc
      decide
    · rw [if_neg h, if_neg (by omega), Int.natAbs_natCast]
      exact ⟨digits_dd n, num_dd n, dd_len 10 n (by omega)⟩
  obtain ⟨h1, h2, h3⟩ := hd
  refine ⟨⟨h1, by omega, (dec_num _ h1).1 (by rw [h2])⟩, h2, h3⟩

theorem text_list (s : ByteArray) : (⟨s.data.toList.toArray⟩ : ByteArray) = s := by simp

/-- a short text is read back -/
theorem rs_back (t : ByteArray) (ht : t.size ≤ 20000) : rs (⟨(vb t.size).toArray⟩ ++ t) 0 = some ((vb t.size).length, (vb t.size).length + t.size) := by
  have hl : (⟨(vb t.size).toArray⟩ ++ t : ByteArray).data.toList = vb t.size ++ t.data.toList := by simp [ByteArray.data_append]
  have hsz : (⟨(vb t.size).toArray⟩ ++ t : ByteArray).size = (vb t.size).length + t.size := by
    rw [ByteArray.size_append]
    show (vb t.size).toArray.size + t.size = _
    simp
  have := rs_yes (s := ⟨(vb t.size).toArray⟩ ++ t) (a := 0) (n := t.size) (c := (vb t.size).length) (by omega) (by rw [hl]; simpa using rv_vb (n := t.size) (by omega) t.data.toList) ⟨ht, by omega⟩
  simpa using this
theorem extract_back (l : List UInt8) (t : ByteArray) : (⟨l.toArray⟩ ++ t : ByteArray).extract l.length (l.length + t.size) = t := by
  apply ByteArray.ext
  apply Array.toList_inj.1
  rw [extract_eq]
  have hl : (⟨l.toArray⟩ ++ t : ByteArray).data.toList = l ++ t.data.toList := by simp [ByteArray.data_append]
  have ht : t.data.toList.length = t.size := by simp
  rw [hl, List.drop_left, List.take_of_length_le (by omega)]
end Go.Proofs.YtmfimbpeihlodaaDoor
