/-
  Plain facts: what is written is read back; nothing of the program stands here.
-/
import Derived.Test.YtcbmchbnfhjdgaaDoorPlainVarBack
import Derived.Test.YtcbmchbnfhjdgaaDoorPlainShort
import Derived.Test.YtcbmchbnfhjdgaaDoorPlainUnhex
import Derived.Test.YtcbmchbnfhjdgaaDoorPlainDec
namespace Go.Proofs.YtcbmchbnfhjdgaaDoor
open Go.RowKit

theorem figs_hex (l : List UInt8) : Figs 16 (hexOf l) := by
  induction l with
  | nil => simp [hexOf, Figs]
  | cons b l ih =>
    have hb := b.toNat_lt
    intro c hc
    simp only [hexOf, List.mem_cons] at hc
    have one : ∀ x : Int, 0 ≤ x → x ≤ 15 → 0 ≤ lv ((UInt8.ofNat (fig x).toNat).toNat : Int) ∧ lv ((UInt8.ofNat (fig x).toNat).toNat : Int) < (16 : Nat) := by
      intro x h0 h1
      have hf := fig_bd h0 h1
      have e : ((UInt8.ofNat (fig x).toNat).toNat : Int) = fig x := by rw [UInt8.toNat_ofNat']; omega
      have := (fig_lv (c := fig x) (j := x) h0 h1).1 rfl
      rw [e, this]
      omega
    rcases hc with hc | hc | hc
    · subst hc; exact one _ (by omega) (by omega)
    · subst hc; exact one _ (by omega) (by omega)
    · exact ih c hc

theorem unh_hex (l : List UInt8) : unh (hexOf l) = l := by
  induction l with
  | nil => rfl
  | cons b l ih =>
    have hb := b.toNat_lt
    have one : ∀ x : Int, 0 ≤ x → x ≤ 15 → lv ((UInt8.ofNat (fig x).toNat).toNat : Int) = x := by
      intro x h0 h1
      have hf := fig_bd h0 h1
      have e : ((UInt8.ofNat (fig x).toNat).toNat : Int) = fig x := by rw [UInt8.toNat_ofNat']; omega
      rw [e]
      exact (fig_lv (c := fig x) (j := x) h0 h1).1 rfl
    simp only [hexOf, unh, ih]
    rw [one _ (by omega) (by omega), one _ (by omega) (by omega)]
    congr 1
    apply UInt8.toNat_inj.1
    rw [UInt8.toNat_ofNat']
    omega

theorem num_dd (n : Nat) : num (dd n) = n := by
  induction n using Nat.strongRecOn with
  | _ n ih =>
    by_cases h : n = 0
    · subst h; rw [dd_zero]; rfl
    · rw [dd_pos (by omega), num_snoc, ih (n / 10) (by omega), UInt8.toNat_ofNat']
      omega
theorem digits_dd (n : Nat) : Digits (dd n) := by
  induction n using Nat.strongRecOn with
  | _ n ih =>
    by_cases h : n = 0
    · subst h; rw [dd_zero]; simp [Digits]
    · rw [dd_pos (by omega)]
      refine (ih (n / 10) (by omega)).snoc ?_
      rw [UInt8.toNat_ofNat']
      omega
theorem dec_back (n : Nat) (hn : n ≤ 1000000000) : DecOk (dec n) ∧ num (dec n) = n ∧ (dec n).length ≤ 10 := by
  have hd : Digits (dec n) ∧ num (dec n) = n ∧ (dec n).length ≤ 10 := by
    unfold dec
    by_cases h : (n : Int) = 0
    · rw [if_pos h]
      have e : n = 0 := by omega
      subst e
      refine ⟨?_, rfl, by simp⟩
      intro c hc
      simp at hc
      subst hc
      decide
    · rw [if_neg h, if_neg (by omega), Int.natAbs_natCast]
      exact ⟨digits_dd n, num_dd n, dd_len 10 n (by omega)⟩
  obtain ⟨h1, h2, h3⟩ := hd
  refine ⟨⟨h1, by omega, (dec_num _ h1).1 (by rw [h2])⟩, h2, h3⟩

theorem text_list (s : ByteArray) : (⟨s.data.toList.toArray⟩ : ByteArray) = s := by simp

/-- a short text is read back -/
theorem rs_back (t : ByteArray) (ht : t.size ≤ 20000) : rs (⟨(vb t.size).toArray⟩ ++ t) 0 = some ((vb t.size).length, (vb t.size).length + t.size) := by
  have hl : (⟨(vb t.size).toArray⟩ ++ t : ByteArray).data.toList = vb t.size ++ t.data.toList := by simp [ByteArray.data_append]
  have hsz : (⟨(vb t.size).toArray⟩ ++ t : ByteArray).size = (vb t.size).length + t.size := by
    rw [ByteArray.size_append]
    show (vb t.size).toArray.size + t.size = _
    simp
  have := rs_yes (s := ⟨(vb t.size).toArray⟩ ++ t) (a := 0) (n := t.size) (c := (vb t.size).length) (by omega) (by rw [hl]; simpa using rv_vb (n := t.size) (by omega) t.data.toList) ⟨ht, by omega⟩
  simpa using this
theorem extract_back (l : List UInt8) (t : ByteArray) : (⟨l.toArray⟩ ++ t : ByteArray).extract l.length (l.length + t.size) = t := by
  apply ByteArray.ext
  apply Array.toList_inj.1
  rw [extract_eq]
  have hl : (⟨l.toArray⟩ ++ t : ByteArray).data.toList = l ++ t.data.toList := by simp [ByteArray.data_append]
  have ht : t.data.toList.length = t.size := by simp
  rw [hl, List.drop_left, List.take_of_length_le (by omega)]
end Go.Proofs.YtcbmchbnfhjdgaaDoor
