/-
  Plain facts on the bytes of a number in sevens and on rows of bytes in memory; nothing of the program stands here.
-/
import Derived.WalkKit
namespace Go.Proofs.YtmfimbpeihlodajDoor
open Go.RowKit

/-- the bytes of n, seven bits a byte, the least first -/
def vb (n : Nat) : List UInt8 := if n ≤ 127 then [UInt8.ofNat n] else UInt8.ofNat (n % 128 + 128) :: vb (n / 128)
termination_by n
decreasing_by omega

theorem vb_small {n : Nat} (h : n ≤ 127) : vb n = [UInt8.ofNat n] := by rw [vb, if_pos h]
theorem vb_big {n : Nat} (h : 127 < n) : vb n = UInt8.ofNat (n % 128 + 128) :: vb (n / 128) := by rw [vb, if_neg (by omega)]

theorem vb_pos (n : Nat) : 0 < (vb n).length := by rw [vb]; split <;> simp

theorem vb_le (n : Nat) : (vb n).length ≤ n + 1 := by
  induction n using Nat.strongRecOn with
  | _ n ih =>
    by_cases h : n ≤ 127
    · rw [vb_small h]; simp
    · rw [vb_big (by omega)]
      have := ih (n / 128) (by omega)
      simp only [List.length_cons]
      omega

/-- bytes as the cells of a row -/
def cs (l : List UInt8) : List Value := l.map fun b => Value.int .u8 (b.toNat : Int)

theorem cs_append (l r : List UInt8) : cs (l ++ r) = cs l ++ cs r := by simp [cs]
theorem cs_length (l : List UInt8) : (cs l).length = l.length := by simp [cs]
theorem cs_one {x : Int} (h0 : 0 ≤ x) (h1 : x ≤ 255) : [Value.int .u8 x] = cs [UInt8.ofNat x.toNat] := by
  simp [cs]
  omega

/-- a row that the call owns, turned into a text -/
theorem text_of_row {P : Program} {w : World} {base : Nat} {v : Value} {l : List UInt8} {src dst e : TypeId} (hs : P.underlying src = some (.slice e)) (he : P.underlying e = some (.int .u8)) (hd : P.underlying dst = some .string)
    (h : w.ownsRow base e 1 v l.length (cs l)) : (convert src dst v).run P w = .ok (.string ⟨l.toArray⟩) w := by
  obtain ⟨h1, h2⟩ := h
  rcases h2 with ⟨hv, hn⟩ | ⟨g, cap, cur, hv, hg, hh, hle, hm, hsz, hx⟩
  · have hl : l = [] := by cases l with | nil => rfl | cons a r => simp at hn
    subst hl hv
    exact run_convert_bytes_nil w src e hs he 0 0 dst hd
  · subst hv
    refine run_convert_bytes_back w src dst e ⟨g, 0, none⟩ cap l hs he hd fun j hj => ?_
    have hu : (cs l)[j]? = some (.int .u8 (l[j].toNat : Int)) := by simp [cs, hj]
    exact World.ownsRow.cells (w := w) (base := base) (e := e) (size := 1) ⟨h1, Or.inr ⟨g, cap, cur, rfl, hg, hh, hle, hm, hsz, hx⟩⟩ rfl j _ hu

/-- a piece of a text, its bounds as whole numbers -/
theorem slice_nat {P : Program} {t : TypeId} (h : P.underlying t = some .string) (s : ByteArray) (a b : Nat) (x y : Int) (hx : x = a) (hy : y = b) (hab : a ≤ b) (hb : b ≤ s.size) (w : World) :
    (Instr.slice t (.string s) (some (.int .i64 x)) (some (.int .i64 y)) none).run P w = .ok (.string (s.extract a b)) w := by
  subst hx hy
  rw [run_slice_string w t s .i64 .i64 a b h (by omega) (by omega) (by omega)]
  simp

theorem extract_eq (s : ByteArray) (a b : Nat) : (s.extract a b).data.toList = (s.data.toList.drop a).take (b - a) := by
  simp [ByteArray.extract, ByteArray.copySlice]

end Go.Proofs.YtmfimbpeihlodajDoor
