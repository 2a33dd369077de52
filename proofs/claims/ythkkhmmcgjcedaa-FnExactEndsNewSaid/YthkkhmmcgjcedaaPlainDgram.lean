/-
  Plain facts on datagrams: which are right, their text, what a text tells; nothing of the program stands here.
-/
import Derived.Test.YthkkhmmcgjcedaaDataDgram
import Derived.Test.YthkkhmmcgjcedaaPlainIn
import Derived.Test.YthkkhmmcgjcedaaPlainOnes
namespace Go.Proofs.Ythkkhmmcgjcedaa
open Go.RowKit

def dgramOk (d : DgramD) : Bool := within d.src 1 99 && (within d.dst 1 99 && (within d.ident 0 65535 && (within d.place 0 160 && (decide (d.place % 8 = 0) && (within (d.body.size : Int) 1 (160 - d.place) && (!d.more || decide (d.body.size % 8 = 0)))))))
theorem dgramOk_bd {d : DgramD} (h : dgramOk d = true) : (1 ≤ d.src ∧ d.src ≤ 99) ∧ (1 ≤ d.dst ∧ d.dst ≤ 99) ∧ (0 ≤ d.ident ∧ d.ident ≤ 65535) ∧ (0 ≤ d.place ∧ d.place ≤ 160) ∧ d.place % 8 = 0 ∧ (1 ≤ (d.body.size : Int) ∧ (d.body.size : Int) ≤ 160 - d.place) ∧ (d.more = true → d.body.size % 8 = 0) := by
  simp only [dgramOk, Bool.and_eq_true, within_iff, decide_eq_true_eq, Bool.or_eq_true, Bool.not_eq_true'] at h
  obtain ⟨h1, h2, h3, h4, h5, h6, h7⟩ := h
  refine ⟨h1, h2, h3, h4, h5, h6, fun hm => ?_⟩
  rcases h7 with h7 | h7
  · rw [hm] at h7; cases h7
  · exact h7
/-- a number in two bytes, the higher one first -/
def twoB (n : Nat) : List UInt8 := [UInt8.ofNat (n / 256), UInt8.ofNat (n % 256)]
/-- the six bytes of the head -/
def dHead (d : DgramD) : List UInt8 := [UInt8.ofNat d.src.toNat, UInt8.ofNat d.dst.toNat] ++ twoB d.ident.toNat ++ [UInt8.ofNat (d.place.toNat / 8), UInt8.ofNat (if d.more then 1 else 0)]
def dBytes (d : DgramD) : List UInt8 := dHead d ++ twoB (sumOnes (dHead d)) ++ d.body.data.toList
def dText (d : DgramD) : ByteArray := ⟨(dHead d).toArray⟩ ++ ⟨(twoB (sumOnes (dHead d))).toArray⟩ ++ d.body
def dgramText (d : DgramD) : ByteArray × Bool := if dgramOk d then (dText d, true) else (ByteArray.empty, false)
def dgramZero : DgramD := ⟨0, 0, 0, 0, false, ByteArray.empty⟩
theorem dgramText_yes {d : DgramD} (h : dgramOk d = true) : dgramText d = (dText d, true) := by rw [dgramText, if_pos h]
theorem dgramText_no {d : DgramD} (h : dgramOk d = false) : dgramText d = (ByteArray.empty, false) := by rw [dgramText, if_neg (by simp [h])]
theorem dHead_length (d : DgramD) : (dHead d).length = 6 := rfl
theorem dText_list (d : DgramD) : (dText d).data.toList = dBytes d := by
  rw [dText, ByteArray.data_append, ByteArray.data_append, Array.toList_append, Array.toList_append, dBytes]
theorem dText_size (d : DgramD) : (dText d).size = d.body.size + 8 := by
  rw [dText, ByteArray.size_append, ByteArray.size_append]
  show 6 + 2 + d.body.size = _
  omega
/-- the datagram that nine bytes and more tell -/
def dgramOf (s : ByteArray) : DgramD := ⟨(s.data.toList.getD 0 0).toNat, (s.data.toList.getD 1 0).toNat, 256 * (s.data.toList.getD 2 0).toNat + (s.data.toList.getD 3 0).toNat, 8 * (s.data.toList.getD 4 0).toNat, decide ((s.data.toList.getD 5 0).toNat = 1), s.extract 8 s.size⟩
theorem tail8 (s : ByteArray) : (s.extract 8 s.size).data.toList = s.data.toList.drop 8 := by
  have h : (s.extract 8 s.size).data = s.data.extract 8 s.size := by rw [ByteArray.data_extract]
  rw [h, Array.toList_extract, List.extract_eq_take_drop]
  apply List.take_of_length_le
  rw [List.length_drop, Array.length_toList]
  exact Nat.le_refl _
/-- the text of a right datagram -/
def DgramIn (s : ByteArray) : Prop := 9 ≤ s.size ∧ (s.data.toList.getD 5 0).toNat ≤ 1 ∧ dgramOk (dgramOf s) = true ∧ dText (dgramOf s) = s
theorem dgramOf_text {d : DgramD} (h : dgramOk d = true) : dgramOf (dText d) = d := by
  obtain ⟨⟨a1, a2⟩, ⟨b1, b2⟩, ⟨c1, c2⟩, ⟨e1, e2⟩, f1, _, _⟩ := dgramOk_bd h
  obtain ⟨x, y, z, p, m, b⟩ := d
  dsimp only at a1 a2 b1 b2 c1 c2 e1 e2 f1
  have hb : (dText ⟨x, y, z, p, m, b⟩).extract 8 (dText ⟨x, y, z, p, m, b⟩).size = b := by
    apply ByteArray.ext
    apply Array.toList_inj.1
    rw [tail8, dText_list]
    rfl
  rw [dgramOf, hb, dText_list]
  simp only [dBytes, dHead, twoB, List.cons_append, List.nil_append, List.getD_cons_zero, List.getD_cons_succ, UInt8.toNat_ofNat']
  have h1 : ((x.toNat % 2 ^ 8 : Nat) : Int) = x := by omega
  have h2 : ((y.toNat % 2 ^ 8 : Nat) : Int) = y := by omega
  have h3 : (256 * ((z.toNat / 256 % 2 ^ 8 : Nat) : Int) + ((z.toNat % 256 % 2 ^ 8 : Nat) : Int)) = z := by omega
  have h4 : (8 * ((p.toNat / 8 % 2 ^ 8 : Nat) : Int)) = p := by omega
  rw [h1, h2, h3, h4]
  cases m <;> rfl
theorem dgramIn_text {d : DgramD} (h : dgramOk d = true) : DgramIn (dText d) := by
  have hz := dText_size d
  have hb := (dgramOk_bd h).2.2.2.2.2.1.1
  refine ⟨by omega, ?_, by rw [dgramOf_text h]; exact h, by rw [dgramOf_text h]⟩
  rw [dText_list]
  show (UInt8.ofNat (if d.more = true then 1 else 0)).toNat ≤ 1
  cases d.more <;> decide
theorem head_sum (d : DgramD) : sumOnes (dHead d ++ twoB (sumOnes (dHead d))) = 0 := sumOnes_with (by rw [dHead_length])
end Go.Proofs.Ythkkhmmcgjcedaa
