/-
  The walk of laws.bent: a text with one byte turned; of an empty one another text.
-/
import Derived.Test.YtneociicjidcnaaDoorPlainSeal
import Derived.Test.YtneociicjidcnaaDoorDrawPlaces
import Derived.Test.YtneociicjidcnaaDoorBytesOf
import Derived.Test.YtneociicjidcnaaDoorBlock
import Derived.BigRegion
import Derived.RegionTactic
import Derived.ChangeAlike
namespace Go.Proofs.YtneociicjidcnaaDoor
open Go.RowKit

theorem bent_back {A : ByteArray} {w : World} {G bcap k y : Nat} (hk : k < A.size) (hy : y < 256) (hc : ∀ (j : Nat) (hj : j < A.size), w.cell? ⟨G, j, none⟩ = some (.int .u8 (A[j].toNat : Int))) :
    (convert 22 9 (.slice (some ⟨G, 0, none⟩) A.size bcap)).run Tryd.prog (w.setCell ⟨G, k, none⟩ (.int .u8 (y : Int))).drew = .ok (.string ⟨(A.data.toList.set k (UInt8.ofNat y)).toArray⟩) (w.setCell ⟨G, k, none⟩ (.int .u8 (y : Int))).drew := by
  have hl : (A.data.toList.set k (UInt8.ofNat y)).length = A.size := by simp
  have := run_convert_bytes_back (P := Tryd.prog) (w.setCell ⟨G, k, none⟩ (.int .u8 (y : Int))).drew 22 9 5 ⟨G, 0, none⟩ bcap (A.data.toList.set k (UInt8.ofNat y)) Tryd.underlying22 Tryd.underlying5 Tryd.underlying9
    (by
      intro j hj
      have hj' : j < A.size := by omega
      rw [show (⟨G, 0, none⟩ : Addr).add j = ⟨G, j, none⟩ from by simp only [Addr.add]; split <;> simp_all]
      show (w.setCell ⟨G, k, none⟩ (.int .u8 (y : Int))).cell? ⟨G, j, none⟩ = _
      by_cases e : k = j
      · subst e
        rw [World.cell?_setCell_same _ _ _ (hc k hk)]
        rw [List.getElem_set_self, UInt8.toNat_ofNat', Nat.mod_eq_of_lt hy]
      · rw [World.cell?_setCell_other _ _ _ _ (by simp), hc j hj', List.getElem_set_ne e]
        rfl)
  rw [hl] at this
  exact this
/-- what is bent of a text -/
def BentOf (s T : ByteArray) : Prop := T.size ≤ s.size + 1 ∧ (0 < s.size → TurnsNot s → ¬ Uns T)
theorem bent_text {A : ByteArray} {k y : Nat} (hk : k < A.size) (hy : y < 256) (hn : y ≠ A[k].toNat) : BentOf A ⟨(A.data.toList.set k (UInt8.ofNat y)).toArray⟩ := by
  have hz : (⟨(A.data.toList.set k (UInt8.ofNat y)).toArray⟩ : ByteArray).size = A.size := (List.length_set ..).trans (by rfl)
  refine ⟨by omega, fun _ h => h _ k (UInt8.ofNat y) hk (fun e => hn (by rw [← e, UInt8.toNat_ofNat', Nat.mod_eq_of_lt hy])) (by simp)⟩

set_option maxRecDepth 1000000 in
set_option maxHeartbeats 2000000 in
theorem bent_any (Q : ByteArray) (hq : Q.size ≤ 100000) (p : Value) (w : World) (hp : Places w p) :
    Calls Tryd.prog 14 #[.string Q, p] w fun e w' => ∃ T : ByteArray, e = .returned (.string T) ∧ BentOf Q T ∧ Below w.heap.size w w' := by
  obtain ⟨g, pcap, rfl, hpc, hcell0⟩ := hp
  obtain ⟨z0, hz0, c0⟩ := hcell0 0 (by omega)
  obtain ⟨z1, hz1, c1⟩ := hcell0 1 (by omega)
  have hg4 := World.block_lt_of_cell? w _ c0
  obtain ⟨bcap, w5, hcv, hbc, b5, hsz5, hcell, hfz⟩ := bytes_of Q w
  have B5 := hid b5
  clear hcell0
  by_cases hQ0 : Q.size = 0
  · have hTb : Hid (BentOf Q ⟨#[120]⟩) := ⟨by show 1 ≤ Q.size + 1; omega, fun h => absurd h (by omega)⟩
    have hQ1 : ((Q.size : Int) == 0) = true := by simpa using hQ0
    clear hcell hfz c0 c1 b5 hsz5
    go_enter Tryd.func14, Tryd.ntmps14
    go_wp2
    go_ret
    exact ⟨⟨#[120]⟩, rfl, hTb.out, B5.out⟩
  have c50 : w5.cell? ⟨g, 0, none⟩ = some (.int .i64 z0) := (b5.cell (p := ⟨g, 0, none⟩) hg4).trans c0
  have c51 : w5.cell? ⟨g, 1, none⟩ = some (.int .i64 z1) := (b5.cell (p := ⟨g, 1, none⟩) hg4).trans c1
  have hG : w.heap.size ≤ w.heap.size := Nat.le_refl _
  have HCE := hid hcell
  obtain ⟨k, hk⟩ : ∃ k, z0 % Q.size = k := ⟨_, rfl⟩
  have hkl : k < Q.size := by rw [← hk]; exact Nat.mod_lt _ (by omega)
  have hk' : (z0 : Int) % (Q.size : Int) = (k : Int) := by rw [← hk]; simp
  have hQ1 : ((Q.size : Int) == 0) = false := beq_eq_false_iff_ne.2 (by omega)
  have ck := hcell k hkl
  have fk := hfz k hkl
  have hq255 : (Q[k].toNat : Int) ≤ 255 := by have := Q[k].toNat_lt; omega
  obtain ⟨m, hm⟩ : ∃ m, z1 % 255 = m := ⟨_, rfl⟩
  have hml : m < 255 := by omega
  have hm' : (z1 : Int) % 255 = (m : Int) := by omega
  have hxr : bits .xor .u8 (Q[k].toNat : Int) (1 + (m : Int)) = ((Q[k].toNat ^^^ (1 + m) : Nat) : Int) := by
    have := u8_xor_nat Q[k].toNat (1 + m) Q[k].toNat_lt (by omega)
    simpa using this
  have hne : Q[k].toNat ^^^ (1 + m) ≠ Q[k].toNat := by
    intro h
    have h2 := congrArg (Q[k].toNat ^^^ ·) h
    simp only [← Nat.xor_assoc, Nat.xor_self, Nat.zero_xor] at h2
    omega
  obtain ⟨y, hy⟩ : ∃ y, Q[k].toNat ^^^ (1 + m) = y := ⟨_, rfl⟩
  have hyl : y < 256 := by rw [← hy]; exact Nat.xor_lt_two_pow (n := 8) Q[k].toNat_lt (by omega)
  rw [hy] at hxr hne
  have HN : Hid (BentOf Q ⟨(Q.data.toList.set k (UInt8.ofNat y)).toArray⟩) := bent_text hkl hyl hne
  obtain ⟨G, hGe⟩ : ∃ G, w.heap.size = G := ⟨_, rfl⟩
  rw [hGe] at hcv ck fk HCE hG hg4
  have HG := hid hGe
  clear b5 hcell hfz hk hm hy hGe hsz5 hne c0 c1 hQ0
  go_enter Tryd.func14, Tryd.ntmps14
  go_wp2
  go_region
  have B6 : Hid (Below w.heap.size w (w5.setCell ⟨G, k, none⟩ (.int .u8 y)).drew) := below_drewN (B5.out.setCell (by rw [HG.out]; exact Nat.le_refl _) _) 1
  have hback := bent_back (A := Q) (w := w5) (G := G) (bcap := bcap) (k := k) (y := y) hkl hyl HCE.out
  generalize (w5.setCell ⟨G, k, none⟩ (.int .u8 (y : Int))).drew = w6 at B6 hback ⊢
  obtain ⟨T, hT⟩ : ∃ T : ByteArray, ⟨(Q.data.toList.set k (UInt8.ofNat y)).toArray⟩ = T := ⟨_, rfl⟩
  rw [hT] at hback HN
  clear hT
  go_wp2
  go_ret
  exact ⟨T, rfl, HN.out, B6.out⟩
end Go.Proofs.YtneociicjidcnaaDoor
