/-
  The walk of laws.toBitsS: bits laid anew, in memory of their own.
-/
import Derived.Test.YtpknpodmoeaggabBitsTo1
import Derived.Test.YtpknpodmoeaggabPutBits
namespace Go.Proofs.Ytpknpodmoeaggab
open Go.RowKit

theorem put_bit1 {w : World} {g k : Nat} {t : TypeId} {rs : List BitsD} {rest : List Value} (R : BitsD) (h : BlockIs w g t (bitsCells rs ++ rest)) (hk : rs.length = k) (hr : 6 ≤ rest.length) :
    (∃ o0 o1 o2 o3 o4 o5, w.cell? ⟨g, k * 6, none⟩ = some o0 ∧ w.cell? ⟨g, k * 6 + 1, none⟩ = some o1 ∧ w.cell? ⟨g, k * 6 + 2, none⟩ = some o2 ∧ w.cell? ⟨g, k * 6 + 3, none⟩ = some o3 ∧ w.cell? ⟨g, k * 6 + 4, none⟩ = some o4 ∧ w.cell? ⟨g, k * 6 + 5, none⟩ = some o5) ∧ (∀ j, w.frozen? ⟨g, j, none⟩ = false) ∧
    BlockIs ((((((w.setCell ⟨g, k * 6, none⟩ (.int .i64 R.src)).setCell ⟨g, k * 6 + 1, none⟩ (.int .i64 R.ident)).setCell ⟨g, k * 6 + 2, none⟩ (.slice R.tx.ad R.tx.len R.tx.cap)).setCell ⟨g, k * 6 + 3, none⟩ (.slice R.ax.ad R.ax.len R.ax.cap)).setCell ⟨g, k * 6 + 4, none⟩ (.int .i64 R.total)).setCell ⟨g, k * 6 + 5, none⟩ (.int .i64 R.lim)) g t (bitsCells (rs ++ [R]) ++ rest.drop 6) := by
  have hlen : (bitsCells rs).length = k * 6 := by rw [bitsCells_length, hk]
  match rest, hr with
  | z0 :: z1 :: z2 :: z3 :: z4 :: z5 :: r', _ =>
    have hs := (((((h.set (k * 6) (.int .i64 R.src)).set (k * 6 + 1) (.int .i64 R.ident)).set (k * 6 + 2) (.slice R.tx.ad R.tx.len R.tx.cap)).set (k * 6 + 3) (.slice R.ax.ad R.ax.len R.ax.cap)).set (k * 6 + 4) (.int .i64 R.total)).set (k * 6 + 5) (.int .i64 R.lim)
    have e3 := bits_sets (bitsCells rs) (.int .i64 R.src) (.int .i64 R.ident) (.slice R.tx.ad R.tx.len R.tx.cap) (.slice R.ax.ad R.ax.len R.ax.cap) (.int .i64 R.total) (.int .i64 R.lim) z0 z1 z2 z3 z4 z5 r'
    rw [hlen] at e3
    rw [e3] at hs
    refine ⟨⟨z0, z1, z2, z3, z4, z5, h.cell ?_, h.cell ?_, h.cell ?_, h.cell ?_, h.cell ?_, h.cell ?_⟩, fun j => h.thaw j, ?_⟩
    · rw [List.getElem?_append_right (by omega), hlen, Nat.sub_self]; rfl
    · rw [List.getElem?_append_right (by omega), hlen, show k * 6 + 1 - k * 6 = 1 by omega]; rfl
    · rw [List.getElem?_append_right (by omega), hlen, show k * 6 + 2 - k * 6 = 2 by omega]; rfl
    · rw [List.getElem?_append_right (by omega), hlen, show k * 6 + 3 - k * 6 = 3 by omega]; rfl
    · rw [List.getElem?_append_right (by omega), hlen, show k * 6 + 4 - k * 6 = 4 by omega]; rfl
    · rw [List.getElem?_append_right (by omega), hlen, show k * 6 + 5 - k * 6 = 5 by omega]; rfl
    · rw [bitsR_snoc, List.append_assoc]
      exact hs
theorem six_far {w : World} {g k j : Nat} {t : TypeId} {xs : List Value} {R : BitsD} (h : BlockIs w j t xs) (hne : g ≠ j) : BlockIs ((((((w.setCell ⟨g, k * 6, none⟩ (.int .i64 R.src)).setCell ⟨g, k * 6 + 1, none⟩ (.int .i64 R.ident)).setCell ⟨g, k * 6 + 2, none⟩ (.slice R.tx.ad R.tx.len R.tx.cap)).setCell ⟨g, k * 6 + 3, none⟩ (.slice R.ax.ad R.ax.len R.ax.cap)).setCell ⟨g, k * 6 + 4, none⟩ (.int .i64 R.total)).setCell ⟨g, k * 6 + 5, none⟩ (.int .i64 R.lim)) j t xs :=
  (((((h.far hne _).far hne _).far hne _).far hne _).far hne _).far hne _
theorem not_same {w : World} {g j : Nat} {t t' : TypeId} {cs xs : List Value} (hg : BlockIs w g t cs) (hj : BlockIs w j t' xs) (ht : t ≠ t') : g ≠ j := by
  intro e
  subst e
  exact ht (block_one hg hj).1
theorem Nest.six {w : World} {g k lo hi : Nat} {cs : List Value} {R : BitsD} {l : List BitD} {rs : List BitsD} (h : Nest w l rs lo hi) (hg : BlockIs w g 60 cs) : Nest ((((((w.setCell ⟨g, k * 6, none⟩ (.int .i64 R.src)).setCell ⟨g, k * 6 + 1, none⟩ (.int .i64 R.ident)).setCell ⟨g, k * 6 + 2, none⟩ (.slice R.tx.ad R.tx.len R.tx.cap)).setCell ⟨g, k * 6 + 3, none⟩ (.slice R.ax.ad R.ax.len R.ax.cap)).setCell ⟨g, k * 6 + 4, none⟩ (.int .i64 R.total)).setCell ⟨g, k * 6 + 5, none⟩ (.int .i64 R.lim)) l rs lo hi :=
  h.other (fun _ _ hb => six_far hb (not_same hg hb (by decide))) (fun _ _ hb => six_far hb (not_same hg hb (by decide)))
theorem OwnB.six {w : World} {g k lo hi : Nat} {cs : List Value} {R r : BitsD} {e : BitD} (h : OwnB w e r lo hi) (hg : BlockIs w g 60 cs) : OwnB ((((((w.setCell ⟨g, k * 6, none⟩ (.int .i64 R.src)).setCell ⟨g, k * 6 + 1, none⟩ (.int .i64 R.ident)).setCell ⟨g, k * 6 + 2, none⟩ (.slice R.tx.ad R.tx.len R.tx.cap)).setCell ⟨g, k * 6 + 3, none⟩ (.slice R.ax.ad R.ax.len R.ax.cap)).setCell ⟨g, k * 6 + 4, none⟩ (.int .i64 R.total)).setCell ⟨g, k * 6 + 5, none⟩ (.int .i64 R.lim)) e r lo hi :=
  h.other (fun _ _ hb => six_far hb (not_same hg hb (by decide))) (fun _ _ hb => six_far hb (not_same hg hb (by decide)))
theorem six_size (w : World) (g k : Nat) (R : BitsD) : ((((((w.setCell ⟨g, k * 6, none⟩ (.int .i64 R.src)).setCell ⟨g, k * 6 + 1, none⟩ (.int .i64 R.ident)).setCell ⟨g, k * 6 + 2, none⟩ (.slice R.tx.ad R.tx.len R.tx.cap)).setCell ⟨g, k * 6 + 3, none⟩ (.slice R.ax.ad R.ax.len R.ax.cap)).setCell ⟨g, k * 6 + 4, none⟩ (.int .i64 R.total)).setCell ⟨g, k * 6 + 5, none⟩ (.int .i64 R.lim)).heap.size = w.heap.size := by simp [World.size_setCell]
set_option maxRecDepth 1000000 in
set_option maxHeartbeats 4000000 in
theorem toBitsS_any (ao : Option Addr) (l : List BitD) (cap : Nat) (hl : l.length ≤ 1048576) (hs : ∀ e ∈ l, SmallB e) (w : World) (ha : BitsHold w ao l) :
    Calls Try.prog 19 #[.slice ao l.length cap] w fun e w' => e = .returned (.slice (some ⟨w.heap.size, 0, none⟩) l.length l.length) ∧ OwnBits w' (some ⟨w.heap.size, 0, none⟩) l w.heap.size w'.heap.size ∧ Below w.heap.size w w' := by
  obtain ⟨i0, hi, hz0, hz1, hz2⟩ := info_parts toBits_info
  have HA := hid ha
  have HSM := hid hs
  clear ha hs
  go_enter Try.func19, Try.ntmps19
  go_wp2_with (at_make; refine wpList_make_full _ rfl (.tmp 6) (.tmp 6) 39 rfl w.heap.size 60 i0 (.agg #[.int .i64 0, .int .i64 0, .slice none 0 0, .slice none 0 0, .int .i64 0, .int .i64 0]) 6 Try.underlying39 hi hz0 hz1 _ _ _ _ l.length rfl rfl rfl rfl ?b2 ?b3 ?b4 ?_)
  case b2 => rw [hz2]; omega
  case b3 => unfold maxLen; omega
  case b4 => exact Nat.le_refl _
  intro w1 hown hgrow
  have HM := hid (BlockIs.made hown)
  have hB1 := (Below.refl w.heap.size w).grown hgrow (Nat.le_refl _) (fun k h => by cases h)
  have B1 := hid hB1
  clear hown hgrow hB1 hi hz0 hz1 hz2 i0
  go_wp2
  go_loopg [4] l.length (fun q i wr => ∃ (k : Nat), k + q = l.length ∧ i = .int .i64 k ∧ Hid (Below w.heap.size w wr) ∧ ∃ rs rest, Hid (rs.length = k) ∧ Hid (rest.length = (l.length - k) * 6) ∧ Hid (BlockIs wr w.heap.size 60 (bitsCells rs ++ rest)) ∧ Hid (Nest wr (l.take k) rs w.heap.size wr.heap.size))
  case atStart => exact ⟨0, by omega, rfl, B1, [], _, rfl, made_bits l.length, HM, B1.out.size⟩
  case round =>
    obtain ⟨k, hkg, rfl, BR, rs, rest, hrk, hrl, FP, NR⟩ := hrel
    clear HM B1
    cases gk with
    | zero =>
      have hlt : ¬ (k : Int) < (l.length : Int) := by omega
      rw [List.take_of_length_le (show l.length ≤ k by omega)] at NR
      go_wp2
      go_ret
      exact ⟨rfl, ⟨rs, Or.inr ⟨w.heap.size, rest, rfl, Nat.le_refl _, FP.out.lt, FP.out⟩, NR.out⟩, BR.out⟩
    | succ q =>
      have hlt : k < l.length := by omega
      have hlt' : (k : Int) < (l.length : Int) := by omega
      obtain ⟨rs0, hat, htwo⟩ := HA.out.on BR.out
      have hll := htwo.length
      have hkr : k < rs0.length := by omega
      have hho := htwo.get k hlt hkr
      obtain ⟨b, off, rfl, hc⟩ := hat (by intro e; rw [e] at hkr; simp at hkr)
      obtain ⟨x0, x1, x2, x3, x4, x5⟩ := hc k hkr
      obtain ⟨Q, hQ⟩ : ∃ R, rs0[k] = R := ⟨_, rfl⟩
      rw [hQ] at x0 x1 x2 x3 x4 x5 hho
      have hsm := smallB_take HSM.out k hlt
      have HTK : Hid (l.take (k + 1) = l.take k ++ [l[k]]) := List.take_succ_eq_append_getElem hlt
      have CC := hid (toBits_any l[k] Q hsm wr hho)
      obtain ⟨e, he⟩ : ∃ e, l[k] = e := ⟨_, rfl⟩
      rw [he] at CC HTK
      clear hat htwo hll hc hQ hho hsm he
      go_wp2_with fail
      refine Calls.mono CC.out ?_
      rintro e9 w2 ⟨R, rfl, ho, b2⟩
      have fp2 := FP.out.on b2 FP.out.lt
      obtain ⟨⟨z0, z1, z2, z3, z4, z5, y0, y1, y2, y3, y4, y5⟩, hf, hnew⟩ := put_bit1 R fp2 hrk.out (by rw [hrl.out, show l.length - k = (l.length - (k + 1)) + 1 by omega, Nat.succ_mul]; omega)
      have B2 := hid (below_via BR.out b2)
      have N2 := hid (((NR.out.on b2).snoc ho).six (R := R) (k := k) fp2)
      rw [← six_size w2 w.heap.size k R] at N2
      have f0 := hf (k * 6)
      have f1 := hf (k * 6 + 1)
      have f2 := hf (k * 6 + 2)
      have f3 := hf (k * 6 + 3)
      have f4 := hf (k * 6 + 4)
      have f5 := hf (k * 6 + 5)
      have HN := hid hnew
      have HR : Hid ((rest.drop 6).length = (l.length - (k + 1)) * 6) := (show _ = _ by rw [List.length_drop, hrl.out]; omega)
      have HK1 : Hid ((rs ++ [R]).length = k + 1) := (show _ = _ by rw [List.length_append, hrk.out]; rfl)
      clear x0 x1 x2 x3 x4 x5 CC hf hnew b2 FP hrl hrk BR NR fp2 ho
      go_wp2
      go_roundg q
      case measure => omega
      case rel => exact ⟨k + 1, by omega, by go_num, (((((B2.out.setCell (Nat.le_refl _) _).setCell (Nat.le_refl _) _).setCell (Nat.le_refl _) _).setCell (Nat.le_refl _) _).setCell (Nat.le_refl _) _).setCell (Nat.le_refl _) _, rs ++ [R], rest.drop 6, HK1, HR, HN, by rw [HTK.out]; exact N2⟩
end Go.Proofs.Ytpknpodmoeaggab
