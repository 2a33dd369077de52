/-
  The walk of spec.l11CopyBits: bits in memory of their own, whose lists may grow.
-/
import Derived.Test.YthdklbmachplmaaJoint1
namespace Go.Proofs.Ythdklbmachplmaa
open Go.RowKit

/-- what is copied so -/
def BitsDidR (A : List BitD) (w : World) (e : Ending) (w' : World) : Prop := ∃ va vc rs, e = .returned (.slice va A.length vc) ∧ w'.ownsRow w.heap.size 35 6 (.slice va A.length vc) A.length (bitsCells rs) ∧ NestR w' A rs w.heap.size w'.heap.size ∧ Below w.heap.size w w'

set_option maxRecDepth 1000000 in
set_option maxHeartbeats 4000000 in
theorem l11CopyRow_any (ao : Option Addr) (l : List BitD) (cap : Nat) (hl : l.length ≤ 1048576) (hs : ∀ e ∈ l, SmallB e) (w : World) (ha : BitsHold w ao l) :
    Calls Try.prog 31 #[.slice ao l.length cap] w fun e w' => BitsDidR l w e w' := by
  have HA := hid ha
  have HSM := hid hs
  have hr0 := bitsR_nil w w.heap.size (Nat.le_refl _)
  have hb0 := below_more (Below.refl w.heap.size w) (.cells #[] 35)
  obtain ⟨W0, hW0⟩ : ∃ W, w.alloc (.cells #[] 35) = W := ⟨_, rfl⟩
  rw [hW0] at hr0 hb0
  have R0 := hid hr0
  have B0 := hid hb0
  clear hr0 hb0 ha hs
  go_enter Try.func31, Try.ntmps31
  go_wp2
  go_loopg [3, 4] l.length (fun q v i wr => ∃ (k : Nat), k + q = l.length ∧ i = .int .i64 k ∧ ∃ va vc rs, v = .slice va rs.length vc ∧ Hid (rs.length = k) ∧ Hid (Below w.heap.size w wr) ∧ Hid (wr.ownsRow w.heap.size 35 6 (.slice va rs.length vc) rs.length (bitsCells rs)) ∧ Hid (NestR wr (l.take k) rs w.heap.size wr.heap.size))
  case atStart => exact ⟨0, by omega, rfl, _, _, [], rfl, rfl, B0, R0, B0.out.size⟩
  case round =>
    obtain ⟨k, hkg, rfl, va, vc, rs, rfl, hrk, BR, RR, NR⟩ := hrel
    clear B0 R0 hW0
    cases gk with
    | zero =>
      have hlt : ¬ (k : Int) < (l.length : Int) := by omega
      rw [List.take_of_length_le (show l.length ≤ k by omega)] at NR
      go_wp2
      go_ret
      have hN := NR.out.length
      exact ⟨va, vc, rs, by rw [hN]; rfl, by rw [hN]; exact RR.out, NR.out, BR.out⟩
    | succ q =>
      have hlt : k < l.length := by omega
      have hlt' : (k : Int) < (l.length : Int) := by omega
      obtain ⟨rs0, hat, htwo⟩ := HA.out.on BR.out
      have hll := htwo.length
      have hkr : k < rs0.length := by omega
      have hho := htwo.get k hlt hkr
      have hne : rs0 ≠ [] := by intro e; rw [e] at hkr; simp at hkr
      obtain ⟨b, off, rfl, hc⟩ := hat hne
      obtain ⟨x0, x1, x2, x3, x4, x5⟩ := hc k hkr
      have hsm := smallB_take HSM.out k hlt
      obtain ⟨R, hR⟩ : ∃ R, rs0[k] = R := ⟨_, rfl⟩
      rw [hR] at x0 x1 x2 x3 x4 x5 hho
      obtain ⟨e, he⟩ : ∃ e, l[k] = e := ⟨_, rfl⟩
      rw [he] at hho hsm
      have HHO := hid hho
      have HSE := hid hsm
      clear hat htwo hll hc hR hho hsm hne
      have HTK : Hid (l.take (k + 1) = l.take k ++ [e]) := (show _ = _ by rw [List.take_succ_eq_append_getElem hlt, he])
      clear he
      obtain ⟨ta, tc, aa, ac, rfl, hta, haa⟩ := HHO.out
      obtain ⟨hs1, hs2, _⟩ := HSE.out
      simp only [rawB] at x0 x1 x2 x3 x4 x5
      have bx := below_more (Below.refl wr.heap.size wr) (.cells #[.int .i64 e.src, .int .i64 e.ident, .slice ta e.texts.length tc, .slice aa e.ats.length ac, .int .i64 e.total, .int .i64 e.lim] 35)
      have hx1 : BlockIs (wr.alloc (.cells #[.int .i64 e.src, .int .i64 e.ident, .slice ta e.texts.length tc, .slice aa e.ats.length ac, .int .i64 e.total, .int .i64 e.lim] 35)) wr.heap.size 35 [.int .i64 e.src, .int .i64 e.ident, .slice ta e.texts.length tc, .slice aa e.ats.length ac, .int .i64 e.total, .int .i64 e.lim] := heap_alloc_new wr _
      obtain ⟨W1, hW1⟩ : ∃ W, wr.alloc (.cells #[.int .i64 e.src, .int .i64 e.ident, .slice ta e.texts.length tc, .slice aa e.ats.length ac, .int .i64 e.total, .int .i64 e.lim] 35) = W := ⟨_, rfl⟩
      rw [hW1] at bx hx1
      have h1w : wr.heap.size < W1.heap.size := hx1.lt
      have bt := below_more (Below.refl W1.heap.size W1) (.cells #[] 9)
      have hr1 := vals_nil W1 9 W1.heap.size (Nat.le_refl _)
      obtain ⟨W2, hW2⟩ : ∃ W, W1.alloc (.cells #[] 9) = W := ⟨_, rfl⟩
      rw [hW2] at bt hr1
      have hx2 := hx1.on bt hx1.lt
      have z2 := hx2.cell (j := 2) rfl
      have BB2 := hid (below_via bx bt)
      have hta2 := hta.on BB2.out
      have h2w : W1.heap.size ≤ W2.heap.size := bt.size
      have R1 := hid hr1
      have X2 := hid hx2
      have HAA := hid haa
      clear bx bt hx1 hx2 hta haa HHO HSE
      go_wp2_with (at_builtin; refine wpList_append_vals Try.underlying32 vals_info9 rfl (by decide) rfl (.tmp 17) (.tmp 19) rfl rfl (base := W1.heap.size) (xs := []) (ys := st e.texts) (N := e.texts.length) rfl rfl (st_length _) rfl (Nat.zero_add _) (st_one _) (by omega) h2w hr1 hta2 ?_)
      intro tva tvc w3 hrow3 hgr3
      have bg3 := (Below.refl W1.heap.size W2).grown hgr3 h2w (fun k e => (R1.out.lt k e).1)
      have BB3 := hid (row_grow BB2.out R1.out hgr3 (by omega) (by omega))
      have x3' := X2.out.on bg3 (by omega)
      have u2 := x3'.cell (j := 2) rfl
      have uf2 := x3'.thaw 2
      have x4' : BlockIs (w3.setCell ⟨wr.heap.size, 2, none⟩ (.slice tva e.texts.length tvc)) wr.heap.size 35 [.int .i64 e.src, .int .i64 e.ident, .slice tva e.texts.length tvc, .slice aa e.ats.length ac, .int .i64 e.total, .int .i64 e.lim] := x3'.set 2 _
      have o4 := row_far (j := 2) hrow3 x3' (by decide) (.slice tva e.texts.length tvc)
      have bb4 := BB3.out.setCell (p := ⟨wr.heap.size, 2, none⟩) (Nat.le_refl _) (.slice tva e.texts.length tvc)
      obtain ⟨V4, hV4⟩ : ∃ W, w3.setCell ⟨wr.heap.size, 2, none⟩ (.slice tva e.texts.length tvc) = W := ⟨_, rfl⟩
      rw [hV4] at x4' o4 bb4
      have h4w : W1.heap.size ≤ V4.heap.size := by rw [← hV4, World.size_setCell]; exact Nat.le_trans h2w bg3.size |> fun h => by omega
      have bt := below_more (Below.refl V4.heap.size V4) (.cells #[] 3)
      have hr5 := vals_nil V4 3 V4.heap.size (Nat.le_refl _)
      obtain ⟨W5, hW5⟩ : ∃ W, V4.alloc (.cells #[] 3) = W := ⟨_, rfl⟩
      rw [hW5] at bt hr5
      have hx5 := x4'.on bt x4'.lt
      have z3 := hx5.cell (j := 3) rfl
      have BB5 := hid (below_via bb4 bt)
      have haa5 := HAA.out.on BB5.out
      have h5w : V4.heap.size ≤ W5.heap.size := bt.size
      have O5 := hid (rows_below o4 bt)
      have L4 := hid (fun g hg => (o4.lt g hg).2)
      have R5 := hid hr5
      have X5 := hid hx5
      clear bt x3' x4' bb4 o4 hx5 hrow3 hgr3 bg3 R1 X2 BB2 BB3 hta2 hr1
      go_wp2_with (at_builtin; refine wpList_append_vals Try.underlying33 vals_info3 rfl (by decide) rfl (.tmp 22) (.tmp 24) rfl rfl (base := V4.heap.size) (xs := []) (ys := intCells e.ats) (N := e.ats.length) rfl rfl (intCells_length _) rfl (Nat.zero_add _) (int_one _) (by omega) h5w hr5 haa5 ?_)
      intro ava avc w6 hrow6 hgr6
      have bg6 := (Below.refl V4.heap.size W5).grown hgr6 h5w (fun k e => (R5.out.lt k e).1)
      have BB6 := hid (row_grow BB5.out R5.out hgr6 (by omega) (by omega))
      have x6' := X5.out.on bg6 (by omega)
      have v3 := x6'.cell (j := 3) rfl
      have vf3 := x6'.thaw 3
      have x7' : BlockIs (w6.setCell ⟨wr.heap.size, 3, none⟩ (.slice ava e.ats.length avc)) wr.heap.size 35 [.int .i64 e.src, .int .i64 e.ident, .slice tva e.texts.length tvc, .slice ava e.ats.length avc, .int .i64 e.total, .int .i64 e.lim] := x6'.set 3 _
      have oa7 := row_far (j := 3) hrow6 x6' (by decide) (.slice ava e.ats.length avc)
      have ot6 := row_ext O5.out (fun _ _ q => block_row q R5.out hgr6 (by decide))
      have ot7 := row_far (j := 3) ot6 x6' (by decide) (.slice ava e.ats.length avc)
      have bb7 := BB6.out.setCell (p := ⟨wr.heap.size, 3, none⟩) (Nat.le_refl _) (.slice ava e.ats.length avc)
      obtain ⟨V7, hV7⟩ : ∃ W, w6.setCell ⟨wr.heap.size, 3, none⟩ (.slice ava e.ats.length avc) = W := ⟨_, rfl⟩
      rw [hV7] at x7' oa7 ot7 bb7
      have h7w : V4.heap.size ≤ V7.heap.size := by rw [← hV7, World.size_setCell]; have := bg6.size; omega
      have y0 := x7'.cell (j := 0) rfl
      have y1 := x7'.cell (j := 1) rfl
      have y2 := x7'.cell (j := 2) rfl
      have y3 := x7'.cell (j := 3) rfl
      have y4 := x7'.cell (j := 4) rfl
      have y5 := x7'.cell (j := 5) rfl
      have hob : OwnRB V7 e (rawB e tva tvc ava avc) wr.heap.size V7.heap.size := ⟨tva, tvc, ava, avc, V4.heap.size, rfl, RowIn.down ⟨ot7, L4.out⟩ (by omega) (Nat.le_refl _), ⟨oa7, fun g hg => (oa7.lt g hg).2⟩, by omega, h7w⟩
      have bn := below_more (Below.refl V7.heap.size V7) (.cells #[.int .i64 e.src, .int .i64 e.ident, .slice tva e.texts.length tvc, .slice ava e.ats.length avc, .int .i64 e.total, .int .i64 e.lim] 35)
      have hnw : BlockIs (V7.alloc (.cells #[.int .i64 e.src, .int .i64 e.ident, .slice tva e.texts.length tvc, .slice ava e.ats.length avc, .int .i64 e.total, .int .i64 e.lim] 35)) V7.heap.size 35 (bitsCells [rawB e tva tvc ava avc] ++ []) := heap_alloc_new V7 _
      have bx8 := below_via bb7 bn
      have B8 := hid (below_via BR.out bx8)
      have hrow := rows_below RR.out bx8
      have n8 := NR.out.on bx8
      have o8 := (hob.on bn).down (Nat.le_refl _) bn.size
      obtain ⟨W8, hW8⟩ : ∃ W, V7.alloc (.cells #[.int .i64 e.src, .int .i64 e.ident, .slice tva e.texts.length tvc, .slice ava e.ats.length avc, .int .i64 e.total, .int .i64 e.lim] 35) = W := ⟨_, rfl⟩
      rw [hW8] at hnw B8 hrow n8 o8
      have hda := bitssAt_of hnw
      have hbs : w.heap.size ≤ W8.heap.size := B8.out.size
      have HROW := hid hrow
      have N8 := hid (n8.snoc o8)
      have hkl : k ≤ 1048576 := by omega
      have hrl : rs.length ≤ 1048576 := by rw [hrk.out]; exact hkl
      clear x6' x7' oa7 ot6 ot7 bb7 hob bn hnw bx8 n8 o8 BR RR NR O5 L4 R5 X5 BB5 BB6 hrow6 hgr6 bg6 haa5 hr5 HAA
      go_wp2_with (at_builtin; refine wpList_append_bitss rfl (.tmp 27) (.tmp 29) rfl rfl (base := w.heap.size) (L := rs) (M := [rawB e tva tvc ava avc]) (N := rs.length + 1) rfl rfl rfl (by simp) (by omega) hbs hrow hda ?_)
      intro va' vc' w9 hown hgr
      have B9 := hid (bitsR_down B8.out HROW.out hgr (Nat.le_refl _) hbs)
      have N9 := hid ((N8.out.row HROW.out hgr).up hgr.size)
      have R9 := hid hown
      have hln : (rs ++ [rawB e tva tvc ava avc]).length = rs.length + 1 := by simp
      rw [← hln] at R9 ⊢
      have hk9 : Hid ((rs ++ [rawB e tva tvc ava avc]).length = k + 1) := (show _ = _ by rw [hln, hrk.out])
      clear hln hgr hown HROW B8 N8 hrow hda
      go_wp2
      go_roundg q
      case measure => omega
      case rel => exact ⟨k + 1, by omega, by go_num, va', vc', rs ++ [rawB e tva tvc ava avc], rfl, hk9, B9, R9, by rw [HTK.out]; exact N9⟩
end Go.Proofs.Ythdklbmachplmaa
