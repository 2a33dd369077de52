/-
  The walk of spec.TidyBits: what it answers.
-/
import Derived.Test.YtpknpodmoeaggabCopyBitsS
namespace Go.Proofs.Ytpknpodmoeaggab
open Go.RowKit

theorem two_small {l : List BitD} {now : Int} (h : ∀ e ∈ l, SmallB e) : ∀ e ∈ tidyB l now, SmallB e := fun e he => h e (List.mem_filter.1 he).1
set_option maxRecDepth 1000000 in
set_option maxHeartbeats 4000000 in
theorem specTidyBits_any (ao : Option Addr) (l : List BitD) (cap : Nat) (now : Int) (hl : l.length ≤ 1048576) (hs : ∀ e ∈ l, SmallB e) (w : World) (ha : BitsHold w ao l) :
    Calls Try.prog 24 #[.slice ao l.length cap, .int .i64 now] w fun e w' => BitsDid (tidyB l now) w e w' := by
  have HSM := hid hs
  have hr0 := bitsR_nil w w.heap.size (Nat.le_refl _)
  have hb0 := below_more (Below.refl w.heap.size w) (.cells #[] 60)
  obtain ⟨W0, hW0⟩ : ∃ W, w.alloc (.cells #[] 60) = W := ⟨_, rfl⟩
  rw [hW0] at hr0 hb0
  have R0 := hid hr0
  have B0 := hid hb0
  obtain ⟨rs0, hat, htwo⟩ := ha
  have hll := htwo.length
  have HAT := hid hat
  have HTWO := hid htwo
  have HLL := hid hll
  clear hr0 hb0 hs hat htwo hll
  go_enter Try.func24, Try.ntmps24
  go_wp2
  go_loopg [5, 6] l.length (fun q v i wr => ∃ (k : Nat), k + q = l.length ∧ i = .int .i64 k ∧ ∃ va vc rs, v = .slice va rs.length vc ∧ Hid (rs.length ≤ k) ∧ Hid (Below w.heap.size w wr) ∧ Hid (wr.ownsRow w.heap.size 60 6 (.slice va rs.length vc) rs.length (bitsCells rs)) ∧ Hid (Two (HoldsB w) (tidyB (l.take k) now) rs))
  case atStart => exact ⟨0, by omega, rfl, _, _, [], rfl, Nat.le_refl _, B0, R0, trivial⟩
  case round =>
    obtain ⟨k, hkg, rfl, va, vc, rs, rfl, hrk, BR, RR, TR⟩ := hrel
    clear B0 R0 hW0
    have hrk2 : rs.length ≤ 1048576 := Nat.le_trans hrk.out (by omega)
    cases gk with
    | zero =>
      have hlt : ¬ (k : Int) < (l.length : Int) := by omega
      rw [List.take_of_length_le (show l.length ≤ k by omega)] at TR
      have hN : (tidyB l now).length = rs.length := TR.out.length
      have hbh : BitsHold wr va (tidyB l now) := ⟨rs, (own_of_row RR.out).bits, TR.out.mono fun _ _ h => h.on BR.out⟩
      have CC := hid (l11CopyBits_any va (tidyB l now) vc (by omega) (two_small HSM.out) wr hbh)
      rw [hN] at CC
      clear hbh
      have HN := hid hN
      clear hN
      go_wp2_with fail
      refine Calls.mono CC.out ?_
      rintro e2 w2 ⟨va2, vc2, rfl, hc2, ho, b2⟩
      have B2 := hid (below_via BR.out b2)
      have HO := hid ho
      have hsz := BR.out.size
      clear ho b2 CC
      go_wp2
      go_ret
      obtain ⟨rs2, h1, h2⟩ := HO.out
      exact ⟨va2, vc2, rfl, hc2, ⟨rs2, h1.down hsz (Nat.le_refl _), h2.low hsz⟩, B2.out⟩
    | succ q =>
      have hlt : k < l.length := by omega
      have hlt' : (k : Int) < (l.length : Int) := by omega
      have hkr : k < rs0.length := by have := HLL.out; omega
      have hho := HTWO.out.get k hlt hkr
      have hne : rs0 ≠ [] := by intro e; rw [e] at hkr; simp at hkr
      obtain ⟨b, off, rfl, hc⟩ := HAT.out.on BR.out hne
      obtain ⟨x0, x1, x2, x3, x4, x5⟩ := hc k hkr
      obtain ⟨R, hR⟩ : ∃ R, rs0[k] = R := ⟨_, rfl⟩
      rw [hR] at x0 x1 x2 x3 x4 x5 hho
      have HTK := hid (tidyB_take l now k hlt)
      obtain ⟨e, he⟩ : ∃ e, l[k] = e := ⟨_, rfl⟩
      rw [he] at hho HTK
      have hlim : R.lim = e.lim := by obtain ⟨_, _, _, _, rfl, _⟩ := hho; rfl
      have HHO := hid hho
      clear hc hR hho hne he hkr
      by_cases hn : now < R.lim
      · rw [if_pos (by rw [← hlim]; exact hn)] at HTK
        have bn := below_more (Below.refl wr.heap.size wr) (.cells #[.int .i64 R.src, .int .i64 R.ident, .slice R.tx.ad R.tx.len R.tx.cap, .slice R.ax.ad R.ax.len R.ax.cap, .int .i64 R.total, .int .i64 R.lim] 60)
        have hnw : BlockIs (wr.alloc (.cells #[.int .i64 R.src, .int .i64 R.ident, .slice R.tx.ad R.tx.len R.tx.cap, .slice R.ax.ad R.ax.len R.ax.cap, .int .i64 R.total, .int .i64 R.lim] 60)) wr.heap.size 60 (bitsCells [R] ++ []) := heap_alloc_new wr _
        have B3 := hid (below_via BR.out bn)
        have hrow := rows_below RR.out bn
        obtain ⟨W3, hW3⟩ : ∃ W, wr.alloc (.cells #[.int .i64 R.src, .int .i64 R.ident, .slice R.tx.ad R.tx.len R.tx.cap, .slice R.ax.ad R.ax.len R.ax.cap, .int .i64 R.total, .int .i64 R.lim] 60) = W := ⟨_, rfl⟩
        rw [hW3] at hnw B3 hrow
        have hda := bitssAt_of hnw
        have hbs : w.heap.size ≤ W3.heap.size := B3.out.size
        have HROW := hid hrow
        have T3 := hid (TR.out.snoc HHO.out)
        clear hlim bn hnw BR RR TR
        go_wp2_with (at_builtin; refine wpList_append_bitss rfl (.tmp 21) (.tmp 26) rfl rfl (base := w.heap.size) (L := rs) (M := [R]) (N := rs.length + 1) rfl rfl rfl (by simp) (by omega) hbs hrow hda ?_)
        intro va' vc' w5 hown hgr
        have B5 := hid (bitsR_down B3.out HROW.out hgr (Nat.le_refl _) hbs)
        have R5 := hid hown
        have hln : (rs ++ [R]).length = rs.length + 1 := by simp
        rw [← hln] at R5 ⊢
        have hk5 : Hid ((rs ++ [R]).length ≤ k + 1) := (show _ ≤ _ by rw [hln]; have := hrk.out; omega)
        clear hln hgr hown HROW B3 hrow hda
        go_wp2
        go_roundg q
        case measure => omega
        case rel => exact ⟨k + 1, by omega, by go_num, va', vc', rs ++ [R], rfl, hk5, B5, R5, by rw [HTK.out]; exact T3⟩
      · rw [if_neg (by rw [← hlim]; exact hn), List.append_nil] at HTK
        clear hlim
        go_wp2
        go_roundg q
        case measure => omega
        case rel => exact ⟨k + 1, by omega, by go_num, va, vc, rs, rfl, Nat.le_trans hrk.out (by omega), BR, RR, by rw [HTK.out]; exact TR⟩
end Go.Proofs.Ytpknpodmoeaggab
