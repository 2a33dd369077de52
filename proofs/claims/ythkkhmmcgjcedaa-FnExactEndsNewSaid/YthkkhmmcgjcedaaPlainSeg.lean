/-
  Plain facts on segments: which are right, their text, what a text tells; nothing of the program stands here.
-/
import Derived.Test.YthkkhmmcgjcedaaDataSeg
import Derived.Test.YthkkhmmcgjcedaaPlainIn
import Derived.Test.YthkkhmmcgjcedaaPlainDgram
namespace Go.Proofs.Ythkkhmmcgjcedaa
open Go.RowKit

def segOk (d : SegD) : Bool := within d.num 0 65535 && (within d.ack 0 65535 && (within d.flags 0 7 && (decide ((d.body.size : Int) ≤ 8) && ((!decide (d.flags % 2 = 1) || decide (d.body.size = 0)) && (decide (d.flags / 2 % 2 = 1) || decide (d.ack = 0))))))
theorem segOk_iff {d : SegD} : segOk d = true ↔ (0 ≤ d.num ∧ d.num ≤ 65535) ∧ (0 ≤ d.ack ∧ d.ack ≤ 65535) ∧ (0 ≤ d.flags ∧ d.flags ≤ 7) ∧ (d.body.size : Int) ≤ 8 ∧ (d.flags % 2 = 1 → d.body.size = 0) ∧ (¬ d.flags / 2 % 2 = 1 → d.ack = 0) := by
  simp only [segOk, Bool.and_eq_true, within_iff, decide_eq_true_eq, Bool.or_eq_true, Bool.not_eq_true', decide_eq_false_iff_not]
  constructor
  · rintro ⟨h1, h2, h3, h4, h5, h6⟩
    exact ⟨h1, h2, h3, h4, by omega, by omega⟩
  · rintro ⟨h1, h2, h3, h4, h5, h6⟩
    exact ⟨h1, h2, h3, h4, by omega, by omega⟩
theorem segOk_no {d : SegD} (h : ((0 ≤ d.num ∧ d.num ≤ 65535) ∧ (0 ≤ d.ack ∧ d.ack ≤ 65535) ∧ (0 ≤ d.flags ∧ d.flags ≤ 7) ∧ (d.body.size : Int) ≤ 8 ∧ (d.flags % 2 = 1 → d.body.size = 0) ∧ (¬ d.flags / 2 % 2 = 1 → d.ack = 0)) → False) : segOk d = false := by
  rw [← Bool.not_eq_true]
  exact fun hk => h (segOk_iff.1 hk)
/-- the five bytes of the head -/
def sHead (d : SegD) : List UInt8 := twoB d.num.toNat ++ twoB d.ack.toNat ++ [UInt8.ofNat d.flags.toNat]
def sText (d : SegD) : ByteArray := ⟨(twoB d.num.toNat).toArray⟩ ++ ⟨(twoB d.ack.toNat).toArray⟩ ++ ⟨#[UInt8.ofNat d.flags.toNat]⟩ ++ d.body
def segText (d : SegD) : ByteArray × Bool := if segOk d then (sText d, true) else (ByteArray.empty, false)
def segZero : SegD := ⟨0, 0, 0, ByteArray.empty⟩
theorem segText_yes {d : SegD} (h : segOk d = true) : segText d = (sText d, true) := by rw [segText, if_pos h]
theorem segText_no {d : SegD} (h : segOk d = false) : segText d = (ByteArray.empty, false) := by rw [segText, if_neg (by simp [h])]
theorem sText_list (d : SegD) : (sText d).data.toList = UInt8.ofNat (d.num.toNat / 256) :: UInt8.ofNat (d.num.toNat % 256) :: UInt8.ofNat (d.ack.toNat / 256) :: UInt8.ofNat (d.ack.toNat % 256) :: UInt8.ofNat d.flags.toNat :: d.body.data.toList := by
  rw [sText, ByteArray.data_append, ByteArray.data_append, ByteArray.data_append, Array.toList_append, Array.toList_append, Array.toList_append]
  rfl
theorem sText_size (d : SegD) : (sText d).size = d.body.size + 5 := by
  rw [sText, ByteArray.size_append, ByteArray.size_append, ByteArray.size_append]
  have h1 : (⟨(twoB d.num.toNat).toArray⟩ : ByteArray).size = 2 := rfl
  have h2 : (⟨(twoB d.ack.toNat).toArray⟩ : ByteArray).size = 2 := rfl
  have h3 : (⟨#[UInt8.ofNat d.flags.toNat]⟩ : ByteArray).size = 1 := rfl
  omega
/-- the segment that a text tells -/
def segOf (s : ByteArray) : SegD := ⟨256 * (s.data.toList.getD 0 0).toNat + (s.data.toList.getD 1 0).toNat, 256 * (s.data.toList.getD 2 0).toNat + (s.data.toList.getD 3 0).toNat, (s.data.toList.getD 4 0).toNat, s.extract 5 s.size⟩
theorem tail5 (s : ByteArray) : (s.extract 5 s.size).data.toList = s.data.toList.drop 5 := by
  rw [ByteArray.data_extract, Array.toList_extract, List.extract_eq_take_drop, List.take_of_length_le]
  have : s.size = s.data.toList.length := rfl
  rw [List.length_drop]
  omega
theorem segOf_text {d : SegD} (h : segOk d = true) : segOf (sText d) = d := by
  obtain ⟨⟨a1, a2⟩, ⟨b1, b2⟩, ⟨c1, c2⟩, _⟩ := segOk_iff.1 h
  obtain ⟨x, y, z, b⟩ := d
  dsimp only at a1 a2 b1 b2 c1 c2
  have hb : (sText ⟨x, y, z, b⟩).extract 5 (sText ⟨x, y, z, b⟩).size = b := by
    apply ByteArray.ext
    apply Array.toList_inj.1
    rw [tail5, sText_list]
    rfl
  rw [segOf, hb, sText_list]
  simp only [List.getD_cons_zero, List.getD_cons_succ, UInt8.toNat_ofNat']
  rw [show ((256 : Int) * ((x.toNat / 256 % 2 ^ 8 : Nat) : Int) + ((x.toNat % 256 % 2 ^ 8 : Nat) : Int)) = x by omega, show ((256 : Int) * ((y.toNat / 256 % 2 ^ 8 : Nat) : Int) + ((y.toNat % 256 % 2 ^ 8 : Nat) : Int)) = y by omega, show ((z.toNat % 2 ^ 8 : Nat) : Int) = z by omega]
theorem segOf_at {U : ByteArray} (h : 5 ≤ U.size) : segOf U = ⟨(256 : Int) * ((U[0]'(by omega)).toNat : Int) + ((U[1]'(by omega)).toNat : Int), (256 : Int) * ((U[2]'(by omega)).toNat : Int) + ((U[3]'(by omega)).toNat : Int), ((U[4]'(by omega)).toNat : Int), U.extract 5 U.size⟩ := by
  obtain ⟨⟨l⟩⟩ := U
  have hl : 5 ≤ l.length := h
  match l, hl with
  | a :: b :: c :: d :: e :: r, _ => rfl
theorem text_segOf {s : ByteArray} (h : 5 ≤ s.size) : sText (segOf s) = s := by
  apply ByteArray.ext
  apply Array.toList_inj.1
  rw [sText_list]
  obtain ⟨l, hl⟩ : ∃ l, s.data.toList = l := ⟨_, rfl⟩
  have hlen : 5 ≤ l.length := by rw [← hl]; simpa using h
  simp only [segOf, tail5]
  rw [hl]
  match l, hlen with
  | a :: b :: c :: d :: e :: r, _ =>
    simp only [List.getD_cons_zero, List.getD_cons_succ, List.drop_succ_cons, List.drop_zero]
    have ha := a.toNat_lt
    have hb := b.toNat_lt
    have hc := c.toNat_lt
    have hd := d.toNat_lt
    rw [show (256 * (a.toNat : Int) + (b.toNat : Int)).toNat / 256 = a.toNat by omega, show (256 * (a.toNat : Int) + (b.toNat : Int)).toNat % 256 = b.toNat by omega, show (256 * (c.toNat : Int) + (d.toNat : Int)).toNat / 256 = c.toNat by omega, show (256 * (c.toNat : Int) + (d.toNat : Int)).toNat % 256 = d.toNat by omega]
    simp
/-- the text of a right segment -/
def SegIn (s : ByteArray) : Prop := 5 ≤ s.size ∧ segOk (segOf s) = true
theorem segIn_text {d : SegD} (h : segOk d = true) : SegIn (sText d) := ⟨by rw [sText_size]; omega, by rw [segOf_text h]; exact h⟩
theorem not_segIn_empty : ¬ SegIn ByteArray.empty := fun h => by have := h.1; simp at this
/-- what a reader told -/
def STold (s : ByteArray) (r : SegD) (ok : Bool) : Prop := (SegIn s ∧ r = segOf s ∧ ok = true) ∨ (¬ SegIn s ∧ r = segZero ∧ ok = false)
theorem segText_flag {d : SegD} {T : ByteArray} {ok : Bool} (h : segText d = (T, ok)) : segOk d = ok := by
  cases hE : segOk d with
  | true => rw [segText_yes hE] at h; exact congrArg Prod.snd h
  | false => rw [segText_no hE] at h; exact congrArg Prod.snd h
theorem stext_parts {d : SegD} {T : ByteArray} (h : segText d = (T, true)) : segOk d = true ∧ T = sText d := by
  cases hE : segOk d with
  | true => rw [segText_yes hE] at h; exact ⟨rfl, (congrArg Prod.fst h).symm⟩
  | false => rw [segText_no hE] at h; cases congrArg Prod.snd h
theorem segText_small (d : SegD) : (segText d).1.size ≤ 13 := by
  cases hE : segOk d with
  | true =>
    rw [segText_yes hE]
    show (sText d).size ≤ 13
    rw [sText_size]
    have := (segOk_iff.1 hE).2.2.2.1
    omega
  | false => rw [segText_no hE]; exact Nat.zero_le _
theorem stold_back {d r : SegD} {T : ByteArray} {right : Bool} (h : segText d = (T, true)) (ht : STold T r right) : r = d ∧ right = true := by
  obtain ⟨hE, rfl⟩ := stext_parts h
  rcases ht with ⟨_, h3, h4⟩ | ⟨h3, _⟩
  · exact ⟨h3.trans (segOf_text hE), h4⟩
  · exact absurd (segIn_text hE) h3
theorem stold_same {s : ByteArray} {r r2 : SegD} {a b : Bool} (h : STold s r a) (h2 : STold s r2 b) : r = r2 ∧ a = b := by
  rcases h with ⟨x, h3, h4⟩ | ⟨x, h3, h4⟩ <;> rcases h2 with ⟨y, h5, h6⟩ | ⟨y, h5, h6⟩
  · exact ⟨h3.trans h5.symm, h4.trans h6.symm⟩
  · exact absurd x y
  · exact absurd y x
  · exact ⟨h3.trans h5.symm, h4.trans h6.symm⟩
theorem stold_again {s again : ByteArray} {r : SegD} {may ok2 : Bool} (h : STold s r may) (h2 : segText r = (again, ok2)) : may = true → again = s := by
  rintro rfl
  rcases h with ⟨x, h3, _⟩ | ⟨_, _, h4⟩
  · subst h3
    rw [segText_yes x.2] at h2
    exact (congrArg Prod.fst h2).symm.trans (text_segOf x.1)
  · cases h4
end Go.Proofs.Ythkkhmmcgjcedaa
