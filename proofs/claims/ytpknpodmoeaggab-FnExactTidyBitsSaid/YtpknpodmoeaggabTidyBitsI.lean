/-
  The walk of impl.TidyBits: what it answers.
-/
import Derived.Test.YtpknpodmoeaggabTidyDid
import Derived.Test.YtpknpodmoeaggabCopiedBitsI
namespace Go.Proofs.Ytpknpodmoeaggab
open Go.RowKit

set_option maxRecDepth 1000000 in
set_option maxHeartbeats 4000000 in
theorem implTidyBits_any (ao : Option Addr) (l : List BitD) (cap : Nat) (now : Int) (hl : l.length ≤ 1048576) (hs : ∀ e ∈ l, SmallB e) (w : World) (ha : BitsHold w ao l) :
    Calls Try.prog 25 #[.slice ao l.length cap, .int .i64 now] w fun e w' => BitsDid (tidyB l now) w e w' := by
  have HA := hid ha
  have HSM := hid hs
  have hr0 := bitsR_nil w w.heap.size (Nat.le_refl _)
  have hb0 := below_more (Below.refl w.heap.size w) (.cells #[] 60)
  obtain ⟨W0, hW0⟩ : ∃ W, w.alloc (.cells #[] 60) = W := ⟨_, rfl⟩
  rw [hW0] at hr0 hb0
  have R0 := hid hr0
  have B0 := hid hb0
  clear hr0 hb0 ha hs
  go_enter Try.func25, Try.ntmps25
  go_wp2
  go_loopg [5, 11] l.length (fun q v i wr => ∃ (k : Nat), k + q = l.length ∧ i = .int .i64 k ∧ ∃ va vc rs, v = .slice va rs.length vc ∧ Hid (rs.length ≤ k) ∧ Hid (Below w.heap.size w wr) ∧ Hid (wr.ownsRow w.heap.size 60 6 (.slice va rs.length vc) rs.length (bitsCells rs)) ∧ Hid (Nest wr (tidyB (l.take k) now) rs w.heap.size wr.heap.size))
  case atStart => exact ⟨0, by omega, rfl, _, _, [], rfl, Nat.le_refl _, B0, R0, B0.out.size⟩
  case round =>
    obtain ⟨k, hkg, rfl, va, vc, rs, rfl, hrk, BR, RR, NR⟩ := hrel
    clear B0 R0 hW0
    cases gk with
    | zero =>
      have hlt : ¬ (k : Int) < (l.length : Int) := by omega
      rw [List.take_of_length_le (show l.length ≤ k by omega)] at NR
      go_wp2
      go_ret
      have hN := NR.out.length
      exact ⟨va, vc, by rw [hN]; rfl, by rw [hN]; exact (row_cap RR.out).1, ⟨rs, own_of_row RR.out, NR.out⟩, BR.out⟩
    | succ q =>
      have hlt : k < l.length := by omega
      have hlt' : (k : Int) < (l.length : Int) := by omega
      obtain ⟨rs0, hat, htwo⟩ := HA.out.on BR.out
      have hll := htwo.length
      have hkr : k < rs0.length := by omega
      have hho := htwo.get k hlt hkr
      have hne : rs0 ≠ [] := by intro e; rw [e] at hkr; simp at hkr
      obtain ⟨b, off, rfl, hc⟩ := hat hne
      obtain ⟨x0, x1, x2, x3, x4, x5⟩ := hc k hkr
      have hsm := smallB_take HSM.out k hlt
      obtain ⟨R, hR⟩ : ∃ R, rs0[k] = R := ⟨_, rfl⟩
      rw [hR] at x0 x1 x2 x3 x4 x5 hho
      obtain ⟨e, he⟩ : ∃ e, l[k] = e := ⟨_, rfl⟩
      rw [he] at hho hsm
      have HHO := hid hho
      have HSE := hid hsm
      clear hat htwo hll hc hR hho hsm hne
      have HTK := hid (tidyB_take l now k hlt)
      rw [he] at HTK
      clear he
      have hrk2 : rs.length ≤ 1048576 := Nat.le_trans hrk.out (by omega)
      have hlim : R.lim = e.lim := by obtain ⟨_, _, _, _, rfl, _⟩ := HHO.out; rfl
      have bx := below_more (Below.refl wr.heap.size wr) (.cells #[.int .i64 R.src, .int .i64 R.ident, .slice R.tx.ad R.tx.len R.tx.cap, .slice R.ax.ad R.ax.len R.ax.cap, .int .i64 R.total, .int .i64 R.lim] 60)
      by_cases hn : now < R.lim
      · rw [if_pos (by rw [← hlim]; exact hn)] at HTK
        have h1 := HHO.out.on bx
        have hb1 : BlockIs (wr.alloc (.cells #[.int .i64 R.src, .int .i64 R.ident, .slice R.tx.ad R.tx.len R.tx.cap, .slice R.ax.ad R.ax.len R.ax.cap, .int .i64 R.total, .int .i64 R.lim] 60)) wr.heap.size 60 [.int .i64 R.src, .int .i64 R.ident, .slice R.tx.ad R.tx.len R.tx.cap, .slice R.ax.ad R.ax.len R.ax.cap, .int .i64 R.total, .int .i64 R.lim] := heap_alloc_new wr _
        have B1 := hid (below_via BR.out bx)
        have R1 := hid (rows_below RR.out bx)
        have N1 := hid (NR.out.on bx)
        have hw1 : wr.heap.size ≤ (wr.alloc (.cells #[.int .i64 R.src, .int .i64 R.ident, .slice R.tx.ad R.tx.len R.tx.cap, .slice R.ax.ad R.ax.len R.ax.cap, .int .i64 R.total, .int .i64 R.lim] 60)).heap.size := bx.size
        clear hlim bx BR RR NR
        obtain ⟨W1, hW1⟩ : ∃ W, wr.alloc (.cells #[.int .i64 R.src, .int .i64 R.ident, .slice R.tx.ad R.tx.len R.tx.cap, .slice R.ax.ad R.ax.len R.ax.cap, .int .i64 R.total, .int .i64 R.lim] 60) = W := ⟨_, rfl⟩
        rw [hW1] at h1 hb1 B1 R1 N1 hw1
        have y0 := hb1.cell (j := 0) rfl
        have y1 := hb1.cell (j := 1) rfl
        have y2 := hb1.cell (j := 2) rfl
        have y3 := hb1.cell (j := 3) rfl
        have y4 := hb1.cell (j := 4) rfl
        have y5 := hb1.cell (j := 5) rfl
        have CC := hid (copiedBits_any e R HSE.out W1 h1)
        clear hb1 h1
        go_wp2_with fail
        refine Calls.mono CC.out ?_
        rintro e2 w2 ⟨r', rfl, ho, b2⟩
        have bn := below_more (Below.refl w2.heap.size w2) (.cells #[.int .i64 r'.src, .int .i64 r'.ident, .slice r'.tx.ad r'.tx.len r'.tx.cap, .slice r'.ax.ad r'.ax.len r'.ax.cap, .int .i64 r'.total, .int .i64 r'.lim] 60)
        have hnw : BlockIs (w2.alloc (.cells #[.int .i64 r'.src, .int .i64 r'.ident, .slice r'.tx.ad r'.tx.len r'.tx.cap, .slice r'.ax.ad r'.ax.len r'.ax.cap, .int .i64 r'.total, .int .i64 r'.lim] 60)) w2.heap.size 60 (bitsCells [r'] ++ []) := heap_alloc_new w2 _
        have B3 := hid (below_via B1.out (below_via b2 bn))
        have hrow := rows_below R1.out (below_via b2 bn)
        have n3 := N1.out.on (below_via b2 bn)
        have o3 := (ho.on bn).down hw1 bn.size
        obtain ⟨W3, hW3⟩ : ∃ W, w2.alloc (.cells #[.int .i64 r'.src, .int .i64 r'.ident, .slice r'.tx.ad r'.tx.len r'.tx.cap, .slice r'.ax.ad r'.ax.len r'.ax.cap, .int .i64 r'.total, .int .i64 r'.lim] 60) = W := ⟨_, rfl⟩
        rw [hW3] at hnw B3 hrow n3 o3
        have hda := bitssAt_of hnw
        have hbs : w.heap.size ≤ W3.heap.size := B3.out.size
        have HROW := hid hrow
        have N3 := hid (n3.snoc o3)
        clear CC y0 y1 y2 y3 y4 y5 bn b2 ho n3 o3 hnw B1 R1 N1
        go_wp2_with (at_builtin; refine wpList_append_bitss rfl (.tmp 19) (.tmp 22) rfl rfl (base := w.heap.size) (L := rs) (M := [r']) (N := rs.length + 1) rfl rfl rfl (by simp) (by omega) hbs hrow hda ?_)
        intro va' vc' w5 hown hgr
        have B5 := hid (bitsR_down B3.out HROW.out hgr (Nat.le_refl _) hbs)
        have N5 := hid ((N3.out.row HROW.out hgr).up hgr.size)
        have R5 := hid hown
        have hln : (rs ++ [r']).length = rs.length + 1 := by simp
        rw [← hln] at R5 ⊢
        have hk5 : Hid ((rs ++ [r']).length ≤ k + 1) := (show _ ≤ _ by rw [hln]; have := hrk.out; omega)
        clear hln hgr hown HROW B3 N3 hrow hda
        go_wp2
        go_roundg q
        case measure => omega
        case rel => exact ⟨k + 1, by omega, by go_num, va', vc', rs ++ [r'], rfl, hk5, B5, R5, by rw [HTK.out]; exact N5⟩
      · rw [if_neg (by rw [← hlim]; exact hn), List.append_nil] at HTK
        have B1 := hid (below_via BR.out bx)
        have R1 := hid (rows_below RR.out bx)
        have N1 := hid ((NR.out.on bx).up bx.size)
        clear hlim bx BR RR NR
        go_wp2
        go_roundg q
        case measure => omega
        case rel => exact ⟨k + 1, by omega, by go_num, va, vc, rs, rfl, Nat.le_trans hrk.out (by omega), B1, R1, by rw [HTK.out]; exact N1⟩
end Go.Proofs.Ytpknpodmoeaggab
