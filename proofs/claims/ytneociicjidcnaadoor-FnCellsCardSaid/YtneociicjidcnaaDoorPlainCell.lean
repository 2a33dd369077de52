/-
  Plain facts on frames on a wire: which are right, their text, what a text tells; nothing of the program stands here.
-/
import Derived.Test.YtneociicjidcnaaDoorDataCell
import Derived.Test.YtneociicjidcnaaDoorPlainIn
import Derived.Test.YtneociicjidcnaaDoorPlainSeal
namespace Go.Proofs.YtneociicjidcnaaDoor
open Go.RowKit

def cellOk (d : CellD) : Bool := within d.dst 0 99 && (within d.src 1 99 && (within d.kd 1 3 && decide ((d.body.size : Int) ≤ 60)))
/-- the three bytes of the head -/
def head3 (a b c : Nat) : ByteArray := ⟨#[UInt8.ofNat a, UInt8.ofNat b, UInt8.ofNat c]⟩
def cellRaw (d : CellD) : ByteArray := head3 d.dst.toNat d.src.toNat d.kd.toNat ++ d.body
def cellText (d : CellD) : ByteArray × Bool := if cellOk d then (sealOf (cellRaw d), true) else (ByteArray.empty, false)
def cellZero : CellD := ⟨0, 0, 0, ByteArray.empty⟩
/-- the frame that an unsealed text tells -/
def cellOf (s : ByteArray) : CellD := ⟨(s.data.toList.getD 0 0).toNat, (s.data.toList.getD 1 0).toNat, (s.data.toList.getD 2 0).toNat, s.extract 3 s.size⟩
theorem cellText_yes {d : CellD} (h : cellOk d = true) : cellText d = (sealOf (cellRaw d), true) := by rw [cellText, if_pos h]
theorem cellText_no {d : CellD} (h : cellOk d = false) : cellText d = (ByteArray.empty, false) := by rw [cellText, if_neg (by simp [h])]
theorem cellOk_bd {d : CellD} (h : cellOk d = true) : (0 ≤ d.dst ∧ d.dst ≤ 99) ∧ (1 ≤ d.src ∧ d.src ≤ 99) ∧ (1 ≤ d.kd ∧ d.kd ≤ 3) ∧ d.body.size ≤ 60 := by
  simp only [cellOk, Bool.and_eq_true, within_iff, decide_eq_true_eq] at h
  omega
theorem head3_size (a b c : Nat) : (head3 a b c).size = 3 := rfl
theorem cellRaw_size (d : CellD) : (cellRaw d).size = d.body.size + 3 := by rw [cellRaw, ByteArray.size_append, head3_size]; omega
theorem cellRaw_list (d : CellD) : (cellRaw d).data.toList = UInt8.ofNat d.dst.toNat :: UInt8.ofNat d.src.toNat :: UInt8.ofNat d.kd.toNat :: d.body.data.toList := by
  rw [cellRaw, ByteArray.data_append, Array.toList_append]
  rfl
theorem tail3 (s : ByteArray) : (s.extract 3 s.size).data.toList = s.data.toList.drop 3 := tail_list s 3
theorem cellOf_raw {d : CellD} (h : cellOk d = true) : cellOf (cellRaw d) = d := by
  obtain ⟨⟨a1, a2⟩, ⟨b1, b2⟩, ⟨c1, c2⟩, _⟩ := cellOk_bd h
  obtain ⟨x, y, z, b⟩ := d
  dsimp only at a1 a2 b1 b2 c1 c2
  have hb : (cellRaw ⟨x, y, z, b⟩).extract 3 (cellRaw ⟨x, y, z, b⟩).size = b := by
    apply ByteArray.ext
    apply Array.toList_inj.1
    rw [tail3, cellRaw_list]
    rfl
  rw [cellOf, hb, cellRaw_list]
  simp only [List.getD_cons_zero, List.getD_cons_succ, UInt8.toNat_ofNat']
  rw [show ((x.toNat % 2 ^ 8 : Nat) : Int) = x by omega, show ((y.toNat % 2 ^ 8 : Nat) : Int) = y by omega, show ((z.toNat % 2 ^ 8 : Nat) : Int) = z by omega]
theorem raw_cellOf {s : ByteArray} (h : 3 ≤ s.size) : cellRaw (cellOf s) = s := by
  apply ByteArray.ext
  apply Array.toList_inj.1
  rw [cellRaw_list]
  obtain ⟨l, hl⟩ : ∃ l, s.data.toList = l := ⟨_, rfl⟩
  have hlen : 3 ≤ l.length := by rw [← hl]; simpa using h
  simp only [cellOf, tail3]
  rw [hl]
  match l, hlen with
  | a :: b :: c :: r, _ => simp
theorem cellOf_at {U : ByteArray} (h : 3 ≤ U.size) : cellOf U = ⟨((U[0]'(by omega)).toNat : Int), ((U[1]'(by omega)).toNat : Int), ((U[2]'(by omega)).toNat : Int), U.extract 3 U.size⟩ := by
  obtain ⟨⟨l⟩⟩ := U
  have hl : 3 ≤ l.length := h
  match l, hl with
  | a :: b :: c :: r, _ => rfl
/-- the text of a right frame -/
def CellIn (s : ByteArray) : Prop := Uns s ∧ 7 ≤ s.size ∧ cellOk (cellOf (s.extract 0 (s.size - 4))) = true
theorem cellIn_text {d : CellD} (h : cellOk d = true) : CellIn (sealOf (cellRaw d)) ∧ cellOf ((sealOf (cellRaw d)).extract 0 ((sealOf (cellRaw d)).size - 4)) = d := by
  have hb := (cellOk_bd h).2.2.2
  have hz := cellRaw_size d
  have e : cellOf ((sealOf (cellRaw d)).extract 0 ((sealOf (cellRaw d)).size - 4)) = d := by rw [sealOf_head, cellOf_raw h]
  exact ⟨⟨sealOf_uns (by omega), by rw [sealOf_size]; omega, by rw [e]; exact h⟩, e⟩
theorem not_cellIn_empty : ¬ CellIn ByteArray.empty := fun h => by have := h.2.1; simp at this
end Go.Proofs.YtneociicjidcnaaDoor
