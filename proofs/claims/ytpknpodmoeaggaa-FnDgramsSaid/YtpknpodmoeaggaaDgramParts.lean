/-
  Plain facts on a datagram in bytes; nothing of the program stands here.
-/
import Derived.Test.YtpknpodmoeaggaaPlainDgram
namespace Go.Proofs.Ytpknpodmoeaggaa
open Go.RowKit

theorem dgramOf_at {s : ByteArray} (h : 8 ≤ s.size) : dgramOf s = ⟨((s[0]'(by omega)).toNat : Int), ((s[1]'(by omega)).toNat : Int), (256 : Int) * ((s[2]'(by omega)).toNat : Int) + ((s[3]'(by omega)).toNat : Int), (8 : Int) * ((s[4]'(by omega)).toNat : Int), decide ((s[5]'(by omega)).toNat = 1), s.extract 8 s.size⟩ := by
  obtain ⟨⟨l⟩⟩ := s
  have hl : 8 ≤ l.length := h
  match l, hl with
  | a :: b :: c :: d :: e :: f :: g :: i :: r, _ => rfl
theorem dtext_parts {d : DgramD} {T : ByteArray} (h : dgramText d = (T, true)) : dgramOk d = true ∧ T = dText d := by
  cases hE : dgramOk d with
  | true =>
    rw [dgramText_yes hE] at h
    exact ⟨rfl, (congrArg Prod.fst h).symm⟩
  | false =>
    rw [dgramText_no hE] at h
    cases congrArg Prod.snd h

theorem dtext_five (d : DgramD) : ((dText d).data.toList.getD 5 0).toNat ≤ 1 := by
  rw [dText_list]
  show (UInt8.ofNat (if d.more = true then 1 else 0)).toNat ≤ 1
  cases d.more <;> decide
theorem dgramIn_of {s : ByteArray} (h : dgramOk (dgramOf s) = true) (h2 : dText (dgramOf s) = s) : DgramIn s := by
  have hz := dText_size (dgramOf s)
  have hb := (dgramOk_bd h).2.2.2.2.2.1.1
  have h5 := dtext_five (dgramOf s)
  rw [h2] at hz h5
  exact ⟨by omega, h5, h, h2⟩
end Go.Proofs.Ytpknpodmoeaggaa
