/-
  What FnParts carries along; the bits as they stand ahead of each part.
-/
import Derived.Test.YtklaneakdcnbaaaJoint24
import Derived.Test.YtklaneakdcnbaaaJoint32
import Derived.Test.YtklaneakdcnbaaaJoint33
import Derived.Test.YtklaneakdcnbaaaJoint36
namespace Go.Proofs.Ytklaneakdcnbaaa
open Go.RowKit

structure PartW (w : World) (d : DgramD) (X gp : Nat) (z0 z1 z2 : Nat) (W : World) : Prop where
  x : BlockIs W X 25 [.int .i64 d.src, .int .i64 d.dst, .int .i64 d.ident, .int .i64 d.place, .bool d.more, .string d.body]
  p0 : W.cell? ⟨gp, 0, none⟩ = some (.int .i64 z0)
  p1 : W.cell? ⟨gp, 1, none⟩ = some (.int .i64 z1)
  p2 : W.cell? ⟨gp, 2, none⟩ = some (.int .i64 z2)
  b : Below w.heap.size w W
theorem PartW.on {w : World} {d : DgramD} {X gp z0 z1 z2 : Nat} {W W' : World} (h : PartW w d X gp z0 z1 z2 W) (hb : Below W.heap.size W W') : PartW w d X gp z0 z1 z2 W' :=
  ⟨h.x.on hb h.x.lt, (hb.cell (World.block_lt_of_cell? W _ h.p0)).trans h.p0, (hb.cell (World.block_lt_of_cell? W _ h.p1)).trans h.p1, (hb.cell (World.block_lt_of_cell? W _ h.p2)).trans h.p2, below_via h.b hb⟩
structure PartL (w : World) (d : DgramD) (X gp : Nat) (z0 z1 z2 : Nat) (A : List DgramD) (va vb : Option Addr) (W : World) : Prop where
  base : PartW w d X gp z0 z1 z2 W
  l1 : DgramsAt W va A
  l2 : DgramsAt W vb A
theorem PartL.on {w : World} {d : DgramD} {X gp z0 z1 z2 : Nat} {A : List DgramD} {va vb : Option Addr} {W W' : World} (h : PartL w d X gp z0 z1 z2 A va vb W) (hb : Below W.heap.size W W') : PartL w d X gp z0 z1 z2 A va vb W' :=
  ⟨h.base.on hb, h.l1.on hb, h.l2.on hb⟩
/-- the bits ahead of a part -/
def bitsL (d : DgramD) (sz r k : Nat) : List BitD := if k = nParts d sz then [] else bitsK d sz (nParts d sz) r k
theorem bitsL_end (d : DgramD) (sz r : Nat) : bitsL d sz r (nParts d sz) = [] := if_pos rfl
theorem bitsL_zero (d : DgramD) (sz r : Nat) : bitsL d sz r 0 = [] := by unfold bitsL; split <;> rfl
theorem bitsL_in {d : DgramD} {sz r k : Nat} (h : k < nParts d sz) : bitsL d sz r k = bitsK d sz (nParts d sz) r k := if_neg (by omega)
theorem cut_whole {d : DgramD} (hd : WholeD d) {m3 m8 : Nat} (h3 : m3 < 3) (h8 : m8 < 8) : cutOk d (8 + 8 * (m3 : Int) + (m8 : Int)) = true ∧ cutD d (8 + 8 * (m3 : Int) + (m8 : Int)) = cutTo d (8 + 8 * m3) (nParts d (8 + 8 * m3)) := by
  have hok : cutOk d (8 + 8 * (m3 : Int) + (m8 : Int)) = true := by
    obtain ⟨h1, h2, h3', h4, h5, h6⟩ := hd
    simp only [cutOk, Bool.and_eq_true, within_iff]
    refine ⟨dgramOk_yes h1 h2 h3' (by omega) (by omega) (by omega) (fun q => by rw [h5] at q; cases q), by omega, by omega⟩
  refine ⟨hok, ?_⟩
  rw [cutD_yes hok]
  have : (8 + 8 * (m3 : Int) + (m8 : Int)).toNat / 8 * 8 = 8 + 8 * m3 := by omega
  rw [this]
theorem cutTo_get {d : DgramD} {sz n m : Nat} (h : m < (cutTo d sz n).length) : (cutTo d sz n)[m] = partAt d sz m := by simp [cutTo]
end Go.Proofs.Ytklaneakdcnbaaa
