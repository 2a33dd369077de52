/-
  For every slice of bytes, laws.FnFrames returns true: drawn records come back from their frames, and of frames that are cut anywhere just the whole ones do; nothing that was in memory is written. The table that impl reads is tied to the program's text (the card).
-/
import Derived.Test.YtfkknmhokiacaaaDoorCards
import Derived.Test.YtfkknmhokiacaaaDoorTie
import Derived.Test.YtfkknmhokiacaaaDoorUnframeI
import Derived.Test.YtfkknmhokiacaaaDoorPlainFrames
import Derived.Test.YtfkknmhokiacaaaDoorDrawPlaces
import Derived.Test.YtfkknmhokiacaaaDoorDrawHex
import Derived.Test.YtfkknmhokiacaaaDoorBig
import Derived.Test.YtfkknmhokiacaaaDoorSameTexts
import Derived.WalkSmall
import Derived.WalkKit
import Derived.ProofKit
import Derived.OpenShut
import Derived.OpenVars
import Derived.Deep.DeepHandedRow
import Derived.Lib.LaidTab
import Derived.Stop.LaidErr
namespace Go.Proofs.YtfkknmhokiacaaaDoor.fnFrames
open Go.ChangeShapes Go.WideShapes Go.ChangeAt Go.ChangeMaps Go.RowKit

theorem frames_info3 : (Tryd.prog.info? 3).map (fun i => (i.zero, i.size, i.bytes)) = some (some (.int .i64 0), 1, 8) := by kernel_rfl

abbrev one3 : ByteArray := ⟨#[111, 110, 101]⟩
abbrev two3 : ByteArray := ⟨#[116, 119, 111]⟩
abbrev more3 : ByteArray := ⟨#[116, 104, 114, 101, 101, 32, 97, 110, 100, 32, 109, 111, 114, 101]⟩

/-- what lies in memory behind the loop's k rounds -/
def FrAt (w : World) (L g z : Nat) (ts : List ByteArray) (k : Nat) (en : Value) (wr : World) : Prop :=
  wr.ownsRow (L + 1) 3 1 en (k + 1) (is (endsN ts k)) ∧ wr.ownsRow w.heap.size 9 1 (.slice (some ⟨L, 0, none⟩) 3 3) 3 (st ts) ∧ wr.cell? ⟨g, 0, none⟩ = some (.int .i64 z) ∧ Below w.heap.size w wr

theorem frAt_on {w : World} {L g z k : Nat} {ts : List ByteArray} {en : Value} {wr w2 : World} (h : FrAt w L g z ts k en wr) (hb : Below wr.heap.size wr w2) : FrAt w L g z ts k en w2 := by
  obtain ⟨h1, h2, h3, h4⟩ := h
  refine ⟨kept_onS h1 hb, kept_onS h2 hb, ?_, h4.trans (hb.mono h4.size)⟩
  exact (hb.cell (p := ⟨g, 0, none⟩) (World.block_lt_of_cell? wr _ h3)).trans h3

theorem row_made (w : World) (e : TypeId) (base : Nat) (cells : Array Value) (hb : base ≤ w.heap.size) (hm : cells.size ≤ 3) : (w.alloc (.cells cells e)).ownsRow base e 1 (.slice (some ⟨w.heap.size, 0, none⟩) cells.size cells.size) cells.size cells.toList :=
  ⟨by simp, Or.inr ⟨w.heap.size, cells.size, cells, rfl, hb, World.alloc_heap_new _ _, Nat.le_refl _, by unfold maxLen; omega, by simp, by simp [← Array.length_toList]⟩⟩

theorem frAt_start {w W4 : World} {L g z : Nat} {ts : List ByteArray} (hsz : W4.heap.size = L + 1) (h2 : W4.ownsRow w.heap.size 9 1 (.slice (some ⟨L, 0, none⟩) 3 3) 3 (st ts)) (h3 : W4.cell? ⟨g, 0, none⟩ = some (.int .i64 z)) (h4 : Below w.heap.size w W4) :
    FrAt w L g z ts 0 (.slice (some ⟨L + 1, 0, none⟩) 1 1) (W4.alloc (.cells #[.int .i64 0] 3)) := by
  have hb := (Below.refl W4.heap.size W4).alloc (Nat.le_refl _) (.cells #[.int .i64 0] 3)
  refine ⟨?_, kept_onS h2 hb, (hb.cell (p := ⟨g, 0, none⟩) (World.block_lt_of_cell? W4 _ h3)).trans h3, h4.trans (hb.mono h4.size)⟩
  rw [← hsz]
  exact row_made W4 3 W4.heap.size #[.int .i64 0] (Nat.le_refl _) (by decide)

theorem frAt_step {w wq w1 : World} {L g z k : Nat} {ts : List ByteArray} {en en' : Value} {B : Obj} (h : FrAt w L g z ts k en wq) (hgL : g < L) (hwL : w.heap.size ≤ L)
    (hown' : w1.ownsRow (L + 1) 3 1 en' (k + 1 + 1) (is (endsN ts k) ++ [.int .i64 ((catN ts (k + 1)).size : Int)])) (hgrow : (wq.alloc B).grownBy w1 en.ownBlock) : FrAt w L g z ts (k + 1) en' w1 := by
  obtain ⟨h1, h2, h3, h4⟩ := h
  have hlo : ∀ j, en.ownBlock = some j → L + 1 ≤ j := fun j hj => (h1.lt j hj).1
  refine ⟨?_, (h2.alloc B).kept hgrow (.inr ?_), ?_, ?_⟩
  · rw [endsN_succ, is_append]
    exact hown'
  · intro e
    have := hlo L e.symm
    omega
  · have hlt : g < wq.heap.size := World.block_lt_of_cell? wq _ h3
    have hq : (wq.alloc B).cell? ⟨g, 0, none⟩ = some (.int .i64 z) := (((Below.refl wq.heap.size wq).alloc (Nat.le_refl _) B).cell (p := ⟨g, 0, none⟩) hlt).trans h3
    have hb := hgrow.block g (by simp; omega) (fun e => by have := hlo g e.symm; omega)
    simp only [World.cell?] at hq ⊢
    rw [hb]
    exact hq
  · exact (h4.alloc h4.size B).grown hgrow (by have := h4.size; simp; omega) (fun j hj => by have := hlo j hj; omega)

theorem row_prefix {w : World} {base L m : Nat} {ts : List ByteArray} (hm : m ≤ 3) (h : w.ownsRow base 9 1 (.slice (some ⟨L, 0, none⟩) 3 3) 3 (st ts)) : w.ownsRow base 9 1 (.slice (some ⟨L, 0, none⟩) m 3) m (st (ts.take m)) := by
  obtain ⟨h1, h2⟩ := h
  rcases h2 with ⟨hv, _⟩ | ⟨g, cap, cur, hv, hgb, hh, hle, hmx, hsz, hx⟩
  · cases hv
  · simp only [Value.slice.injEq, Option.some.injEq, Addr.mk.injEq, and_true, true_and] at hv
    obtain ⟨rfl, rfl⟩ := hv
    rw [st_length] at h1
    refine ⟨by rw [st_length, List.length_take]; omega, Or.inr ⟨L, 3, cur, rfl, hgb, hh, hm, hmx, hsz, ?_⟩⟩
    have : st (ts.take m) = (st ts).take m := by simp [st, List.map_take]
    rw [this, ← hx, List.take_take]
    congr 1
    omega

theorem extract_all (s : ByteArray) : s.extract 0 s.size = s := by
  apply bytes_ext
  rw [extract_take, List.take_of_length_le (by simp)]

theorem frames_cut {t1 : ByteArray} (h1 : 1 ≤ t1.size) (h9 : t1.size ≤ 900) (k : Nat) (hk : k ≤ (catN [t1, two3, more3] 3).size) :
    ∃ m, m ≤ 3 ∧ ufT ((catN [t1, two3, more3] 3).extract 0 k) = [t1, two3, more3].take m ∧ ufE ((catN [t1, two3, more3] 3).extract 0 k) = (catN [t1, two3, more3] m).size ∧ (catN [t1, two3, more3] m).size ≤ k ∧ (m = 3 ∨ m < 3 ∧ k < (catN [t1, two3, more3] (m + 1)).size) := by
  have hs := cat_sizes t1 two3 more3
  have hle := catN_le [t1, two3, more3] (by
    intro t ht
    simp only [List.mem_cons, List.not_mem_nil, or_false] at ht
    rcases ht with rfl | rfl | rfl
    · exact h9
    · decide
    · decide) 3 (by simp)
  rcases three_cut (cat3_list t1 two3 more3) ⟨h1, by omega⟩ (by decide) (by decide) (by omega) k hk with ⟨a, b, c⟩ | ⟨a, a2, b, c⟩ | ⟨a, a2, b, c⟩ | ⟨a, b, c⟩
  · exact ⟨0, by omega, b, c, Nat.zero_le _, .inr ⟨by omega, by rw [hs.1]; exact a⟩⟩
  · exact ⟨1, by omega, b, by rw [hs.1]; exact c, by rw [hs.1]; exact a, .inr ⟨by omega, by rw [hs.2.1]; exact a2⟩⟩
  · exact ⟨2, by omega, b, by rw [hs.2.1]; exact c, by rw [hs.2.1]; exact a, .inr ⟨by omega, by rw [hs.2.2]; exact a2⟩⟩
  · exact ⟨3, by omega, b, by rw [hs.2.2]; exact c, by rw [hs.2.2]; omega, .inl rfl⟩

theorem frames_whole {t1 : ByteArray} (h1 : 1 ≤ t1.size) (h9 : t1.size ≤ 900) : ufT (catN [t1, two3, more3] 3) = [t1, two3, more3] ∧ ufE (catN [t1, two3, more3] 3) = (catN [t1, two3, more3] 3).size := by
  obtain ⟨m, hm, h2, h3, h4, h5⟩ := frames_cut h1 h9 _ (Nat.le_refl _)
  rw [extract_all] at h2 h3
  have hs := cat_sizes t1 two3 more3
  have f1 := frm_size t1
  have f2 := frm_size two3
  have f3 := frm_size more3
  have hm3 : m = 3 := by
    rcases h5 with h5 | ⟨h5, h6⟩
    · exact h5
    · exfalso
      rcases (show m = 0 ∨ m = 1 ∨ m = 2 by omega) with rfl | rfl | rfl
      · rw [hs.2.2, show 0 + 1 = 1 from rfl, hs.1] at h6; omega
      · rw [hs.2.2, show 1 + 1 = 2 from rfl, hs.2.1] at h6; omega
      · exact absurd h6 (Nat.lt_irrefl _)
  subst hm3
  exact ⟨h2, h3⟩

theorem list_cell {w wr : World} {L g z k : Nat} {ts : List ByteArray} {en : Value} (h : FrAt w L g z ts k en wr) (j : Nat) (hj : j < ts.length) : wr.cell? ⟨L, j, none⟩ = some (.string ts[j]) := by
  have := h.2.1.cells (g := L) rfl j _ (st_at ts j hj)
  rwa [add_at] at this

theorem ends_cell2 {w wr : World} {L g z k c : Nat} {ts : List ByteArray} {eo : Option Addr} (h : FrAt w L g z ts k (.slice eo (k + 1) c) wr) (j : Nat) (hj : j ≤ k) : ∃ G, eo = some ⟨G, 0, none⟩ ∧ wr.cell? ⟨G, j, none⟩ = some (.int .i64 ((catN ts j).size : Int)) := by
  obtain ⟨_, ao, c2, hv, hf⟩ := row_lie h.1
  obtain ⟨G, e1, _, _, _, _, hc, _⟩ := hf (by omega)
  simp only [Value.slice.injEq] at hv
  obtain ⟨rfl, _, _⟩ := hv
  exact ⟨G, e1, hc j _ (by simp [is, endsN_at ts k j hj])⟩

theorem ends_cell {w wr : World} {L g z k : Nat} {ts : List ByteArray} {G c : Nat} (h : FrAt w L g z ts k (.slice (some ⟨G, 0, none⟩) (k + 1) c) wr) (j : Nat) (hj : j ≤ k) : wr.cell? ⟨G, j, none⟩ = some (.int .i64 ((catN ts j).size : Int)) := by
  have := h.1.cells (g := G) rfl j (.int .i64 ((catN ts j).size : Int)) (by simp [is, endsN_at ts k j hj])
  rwa [add_at] at this

set_option maxRecDepth 1000000 in
set_option maxHeartbeats 2000000 in
theorem walk (ao : Option Addr) (len cap : Nat) (hcap : len ≤ cap) (w : World) (hr : Bytes w ao len) (ht : Steps w) :
    Calls Tryd.prog 3 #[.slice ao len cap] w fun e w' => e = .returned (.bool true) ∧ Below w.heap.size w w' := by
  obtain ⟨i0, hi, hz0, hz1, hz2⟩ := info_parts frames_info3
  have HR := (show Hid (Bytes w ao len) from hr)
  have HT := (show Hid (Steps w) from ht)
  clear hr ht
  by_cases hbig : 1048576 < len
  · go_enter Tryd.func3, Tryd.ntmps3
    go_wp2
    go_ret
    exact ⟨rfl, Below.refl _ _⟩
  have hlen : len ≤ 1048576 := by omega
  clear hbig
  go_enter Tryd.func3, Tryd.ntmps3
  go_wp2_with fail
  refine (big_no ao len cap hlen _).mono ?_
  rintro e w0 ⟨rfl, hw0⟩
  rw [hw0]
  clear hw0 w0
  go_wp2_with fail
  refine (drawPlaces_any ao len cap hlen hcap _ HR.out).mono ?_
  rintro e w1 ⟨p, rfl, hp, b1⟩
  have B1 := hid0 b1
  clear b1
  obtain ⟨g, pcap, rfl, hpc, hcell⟩ := hp
  obtain ⟨z, hz, c0⟩ := hcell 0 (by omega)
  have C1 := hid0 c0
  clear hcell c0
  go_wp2_with fail
  refine (drawHex_any ao len cap hlen hcap _ (bytes_on HR.out B1.out)).mono ?_
  rintro e w2 ⟨s0, rfl, hs0, b2⟩
  have C2 : Hid (w2.cell? ⟨g, 0, none⟩ = some (.int .i64 z)) := (b2.cell (p := ⟨g, 0, none⟩) (World.block_lt_of_cell? w1 _ C1.out)).trans C1.out
  have B2 : Hid (Below w.heap.size w w2) := B1.out.trans (b2.mono B1.out.size)
  clear b2 C1 B1
  have hgl : Hid (g < w2.heap.size) := World.block_lt_of_cell? w2 _ C2.out
  obtain ⟨W3, hW3⟩ : ∃ W3, w2.alloc (.cells #[.string s0, .string two3, .string more3] 9) = W3 := ⟨_, rfl⟩
  have O3 : Hid (W3.ownsRow w.heap.size 9 1 (.slice (some ⟨w2.heap.size, 0, none⟩) 3 3) 3 (st [s0, two3, more3])) := by
    rw [← hW3]
    exact row_made w2 9 w.heap.size #[.string s0, .string two3, .string more3] B2.out.size (by simp)
  have B3 : Hid (Below w.heap.size w W3) := by rw [← hW3]; exact B2.out.alloc B2.out.size _
  have C3 : Hid (W3.cell? ⟨g, 0, none⟩ = some (.int .i64 z)) := by
    rw [← hW3]
    exact (((Below.refl w2.heap.size w2).alloc (Nat.le_refl _) _).cell (p := ⟨g, 0, none⟩) hgl.out).trans C2.out
  have S3 : Hid (W3.heap.size = w2.heap.size + 1) := by rw [← hW3]; exact World.size_alloc _ _
  have q0 : W3.cell? ⟨w2.heap.size, 0, none⟩ = some (.string s0) := by
    have := O3.out.cells (g := w2.heap.size) rfl 0 _ rfl
    rwa [add_at] at this
  obtain ⟨_, _, f0⟩ := at_row O3.out 0 (by omega)
  have hwL : Hid (w.heap.size ≤ w2.heap.size) := B2.out.size
  by_cases h900 : s0.size = 0 ∨ 900 < s0.size
  · obtain ⟨W4, hW4⟩ : ∃ W4, W3.setCell ⟨w2.heap.size, 0, none⟩ (.string one3) = W4 := ⟨_, rfl⟩
    obtain ⟨L, hL⟩ : ∃ L, w2.heap.size = L := ⟨_, rfl⟩
    obtain ⟨ts, hts⟩ : ∃ ts, [one3, two3, more3] = ts := ⟨_, rfl⟩
    have hsz1 : 1 ≤ one3.size := by decide
    have hsz9 : one3.size ≤ 900 := by decide
    have hall : Hid (∀ t ∈ ts, 1 ≤ t.size ∧ t.size ≤ 900) := by
      rw [← hts]
      intro t ht
      simp only [List.mem_cons, List.not_mem_nil, or_false] at ht
      rcases ht with rfl | rfl | rfl
      · decide
      · decide
      · decide
    have hl3 : ts.length = 3 := by rw [← hts]; rfl
    have S4 : Hid (W4.heap.size = w2.heap.size + 1) := by rw [← hW4]; exact (World.size_setCell _ _ _).trans S3.out
    have FA : Hid (FrAt w w2.heap.size g z ts 0 (.slice (some ⟨w2.heap.size + 1, 0, none⟩) 1 1) (W4.alloc (.cells #[.int .i64 0] 3))) := by
      rw [← hts]
      refine frAt_start S4.out ?_ ?_ ?_
      · rw [← hW4]
        exact ownsRow_set O3.out (g := w2.heap.size) rfl 0 (.string one3)
      · rw [← hW4]
        exact (((Below.refl w2.heap.size W3).setCell (p := ⟨w2.heap.size, 0, none⟩) (Nat.le_refl _) _).cell (p := ⟨g, 0, none⟩) hgl.out).trans C3.out
      · rw [← hW4]
        exact B3.out.setCell (p := ⟨w2.heap.size, 0, none⟩) hwL.out _
    by_cases hz0s : s0.size = 0
    · have h0t : ((s0.size : Int) == 0) = true := by rw [beq_iff_eq]; omega
      rw [hL] at S3 S4 FA hwL hgl q0 f0 hW4
      have s3 := S3.out
      have s4 := S4.out
      have hts3 : Hid (∃ t1, 1 ≤ t1.size ∧ t1.size ≤ 900 ∧ ts = [t1, two3, more3]) := ⟨_, hsz1, hsz9, hts.symm⟩
      clear hts O3 C3 B3 C2 B2 hs0
      go_wp2
      go_loopw [5, 6, 7] (fun f en i wr => ∃ (k : Nat), k ≤ 3 ∧ i = .int .i64 k ∧ f = .string (catN ts k) ∧ FrAt w L g z ts k en wr) (fun _ _ i _ => 3 - (intOf i).toNat)
      case atStart => exact ⟨0, by omega, rfl, rfl, FA.out⟩
      case round =>
        obtain ⟨k, hk, rfl, rfl, hfa⟩ := hrel
        have HFA := hid0 hfa
        have hcl := catN_le ts (fun t ht => (hall.out t ht).2) k (by omega)
        obtain ⟨_, eo, ec, hev, _⟩ := row_lie hfa.1
        subst hev
        clear hfa
        by_cases hlt : k < 3
        · have hkl : k < ts.length := by omega
          have hq := list_cell HFA.out k hkl
          have hcs := catN_succ ts k hkl
          have hts1 := hall.out ts[k] (List.getElem_mem hkl)
          have hcl2 := catN_le ts (fun t ht => (hall.out t ht).2) (k + 1) (by omega)
          obtain ⟨T, hT⟩ : ∃ T, ts[k] = T := ⟨_, rfl⟩
          rw [hT] at hq hcs hts1
          have cF' := fun w h => implFrame_yes T hts1.1 (by omega) w h
          obtain ⟨Q, hQ⟩ : ∃ Q, frm T = Q := ⟨_, rfl⟩
          rw [hQ] at cF' hcs
          have hqs : (catN ts k).size + Q.size = (catN ts (k + 1)).size := by rw [hcs, ByteArray.size_append]
          have cF := hid0 cF'
          have HCS := hid0 hcs
          clear cF' hQ hT hcs
          obtain ⟨X, hX⟩ : ∃ X, catN ts k = X := ⟨_, rfl⟩
          rw [hX] at HCS hcl hqs ⊢
          go_wp2_with fail
          refine (cF.out _ (steps_on HT.out HFA.out.2.2.2)).mono ?_
          rintro e w4 ⟨rfl, b4⟩
          have HF4 := hid0 (frAt_on HFA.out b4)
          have hsz4 : L + 1 ≤ w4.heap.size := by
            have h1 := World.block_lt_of_cell? wr _ hq
            have h2 := b4.size
            have h3 : L < wr.heap.size := h1
            omega
          clear b4 HFA cF hq
          go_wp2_with (at_builtin; refine wpList_append_own _ rfl (.tmp 57) (.tmp 60) 24 rfl (L + 1) 3 i0 (.int .i64 0) 1 8 Tryd.underlying24 hi hz0 hz1 hz2 rfl (by decide) _ _ _ rfl (HF4.out.1.alloc _) ⟨w4.heap.size, 0, none⟩ 1 1 [.int .i64 ((catN ts (k + 1)).size : Int)] rfl rfl (one_new _ _ _) (by intro u hu; simp at hu; subst hu; rfl) (by unfold maxLen; omega) (by omega) (by simp; omega) ?_)
          intro v' w5 hown' hgrow _
          have HF5 := hid0 (frAt_step HF4.out hgl.out hwL.out hown' hgrow)
          clear hown' hgrow HF4
          go_wp2
          go_roundw
          case rel => exact ⟨k + 1, by omega, by go_num, by rw [HCS.out], HF5.out⟩
          case measure => simp [intOf]; omega
        · have hk3 : k = 3 := by omega
          subst hk3
          have HW : Hid (ufT (catN ts 3) = ts ∧ ufE (catN ts 3) = (catN ts 3).size) := by
            obtain ⟨t1, a1, a2, rfl⟩ := hts3.out
            exact frames_whole a1 a2
          obtain ⟨kk, hkk⟩ : ∃ kk, z % ((catN ts 3).size + 1) = kk := ⟨_, rfl⟩
          have hkl : kk ≤ (catN ts 3).size := by
            have := Nat.mod_lt z (show 0 < (catN ts 3).size + 1 by omega)
            omega
          have hk' : (z : Int) % (((catN ts 3).size : Int) + 1) = (kk : Int) := by
            rw [← hkk]
            simp
          have HC : Hid (∃ m, m ≤ 3 ∧ ufT ((catN ts 3).extract 0 kk) = ts.take m ∧ ufE ((catN ts 3).extract 0 kk) = (catN ts m).size ∧ (catN ts m).size ≤ kk ∧ (m = 3 ∨ m < 3 ∧ kk < (catN ts (m + 1)).size)) := by
            obtain ⟨t1, a1, a2, rfl⟩ := hts3.out
            exact frames_cut a1 a2 kk hkl
          obtain ⟨m, hm, hmT, hmE, hmk, hm3⟩ := HC.out
          have P1' := fun w h => implUnframe_any (catN ts 3) w h
          have P2' := fun w h => implUnframe_any ((catN ts 3).extract 0 kk) w h
          unfold unframeAns at P1' P2'
          rw [HW.out.1, HW.out.2] at P1'
          rw [hmT, hmE] at P2'
          obtain ⟨G, rfl, e3⟩ := ends_cell2 HFA.out 3 (Nat.le_refl _)
          have HE : Hid (∀ j, j ≤ 3 → wr.cell? ⟨G, j, none⟩ = some (.int .i64 ((catN ts j).size : Int))) := fun j hj => ends_cell HFA.out j hj
          have HSZ : Hid (∀ j, j ≤ 3 → (catN ts j).size ≤ 909 * 3) := fun j hj => Nat.le_trans (catN_le ts (fun t ht => (hall.out t ht).2) j (by omega)) (by omega)
          have hq2 := slice_upto (P := Tryd.prog) Tryd.underlying9 (catN ts 3) kk (kk : Int) rfl hkl
          have hm3s := hid0 hm3
          obtain ⟨F, hF⟩ : ∃ F, catN ts 3 = F := ⟨_, rfl⟩
          rw [hF] at P1' hkl hcl hk' hq2 P2' ⊢
          obtain ⟨C, hC⟩ : ∃ C, F.extract 0 kk = C := ⟨_, rfl⟩
          rw [hC] at P2' hq2
          have P1 := hid0 P1'
          have P2 := hid0 P2'
          have hQ0 : (((F.size : Int) + 1) == 0) = false := beq_eq_false_iff_ne.2 (by omega)
          have HF := hid0 hF
          clear P1' P2' hC hF HW HC hmT hmE hts3 hkk e3 hm3
          go_wp2_with fail
          refine (P1.out _ (steps_on HT.out HFA.out.2.2.2)).mono ?_
          rintro e w4 ⟨v4, rfl, o4, b4⟩
          rw [hl3] at o4
          have O4 := hid0 o4
          have HF4 := hid0 (frAt_on HFA.out b4)
          have HE4 : Hid (∀ j, j ≤ 3 → w4.cell? ⟨G, j, none⟩ = some (.int .i64 ((catN ts j).size : Int))) := fun j hj => ends_cell HF4.out j hj
          have cS := hid0 (sameTexts_same (base := wr.heap.size) (base' := w.heap.size) (ts := ts) (w := w4) (v := v4) (v' := .slice (some ⟨L, 0, none⟩) 3 3) (by omega) (by rw [hl3]; exact O4.out) (by rw [hl3]; exact HF4.out.2.1))
          clear o4 b4 HFA P1
          go_wp2_with (go_at_call 10; refine Calls.mono cS.out ?_; rintro e w5 ⟨rfl, b5⟩; have hg5 := (frAt_on HF4.out b5).2.2.1)
          have HF5 := hid0 (frAt_on HF4.out b5)
          clear b5 HF4 HE4 cS O4 hg5
          refine (P2.out _ (steps_on HT.out HF5.out.2.2.2)).mono ?_
          rintro e w6 ⟨v6, rfl, o6, b6⟩
          have HF6 := hid0 (frAt_on HF5.out b6)
          have hml : (ts.take m).length = m := by rw [List.length_take]; omega
          rw [hml] at o6
          obtain ⟨_, a6, c6, hv6, _⟩ := row_lie o6
          subst hv6
          have O6 := hid0 o6
          have e6 := ends_cell HF6.out m hm
          have cS := hid0 (sameTexts_same (base := w5.heap.size) (base' := w.heap.size) (ts := ts.take m) (w := w6) (v := .slice a6 m c6) (v' := .slice (some ⟨L, 0, none⟩) m 3) (by omega) (by rw [hml]; exact O6.out) (by rw [hml]; exact row_prefix hm HF6.out.2.1))
          have HB6 := hid0 HF6.out.2.2.2
          have hme := HSZ.out m hm
          clear o6 b6 HF5 P2
          obtain ⟨X, hX⟩ : ∃ X, (catN ts m).size = X := ⟨_, rfl⟩
          rw [hX] at hmk e6 hme ⊢
          rcases hm3s.out with rfl | ⟨hlt3, hkn⟩
          · go_wp2_with (go_at_call 10; refine Calls.mono cS.out ?_; rintro e w7 ⟨rfl, b7⟩)
            go_ret
            exact ⟨rfl, HB6.out.trans (b7.mono HB6.out.size)⟩
          · have e7 := ends_cell HF6.out (m + 1) (by omega)
            have hme2 := HSZ.out (m + 1) (by omega)
            obtain ⟨Y, hY⟩ : ∃ Y, (catN ts (m + 1)).size = Y := ⟨_, rfl⟩
            rw [hY] at hkn e7 hme2
            have hm3f : ((m : Int) == 3) = false := by rw [beq_eq_false_iff_ne]; omega
            go_wp2_with (go_at_call 10; refine Calls.mono cS.out ?_; rintro e w7 ⟨rfl, b7⟩; have e8 := (b7.cell (p := ⟨G, m + 1, none⟩) (World.block_lt_of_cell? w6 _ e7)).trans e7)
            go_ret
            exact ⟨rfl, HB6.out.trans (b7.mono HB6.out.size)⟩
    · have h0f : ((s0.size : Int) == 0) = false := by rw [beq_eq_false_iff_ne]; omega
      have h9t : (900 : Int) < (s0.size : Int) := by omega
      rw [hL] at S3 S4 FA hwL hgl q0 f0 hW4
      have s3 := S3.out
      have s4 := S4.out
      have hts3 : Hid (∃ t1, 1 ≤ t1.size ∧ t1.size ≤ 900 ∧ ts = [t1, two3, more3]) := ⟨_, hsz1, hsz9, hts.symm⟩
      clear hts O3 C3 B3 C2 B2 hs0
      go_wp2
      go_loopw [5, 6, 7] (fun f en i wr => ∃ (k : Nat), k ≤ 3 ∧ i = .int .i64 k ∧ f = .string (catN ts k) ∧ FrAt w L g z ts k en wr) (fun _ _ i _ => 3 - (intOf i).toNat)
      case atStart => exact ⟨0, by omega, rfl, rfl, FA.out⟩
      case round =>
        obtain ⟨k, hk, rfl, rfl, hfa⟩ := hrel
        have HFA := hid0 hfa
        have hcl := catN_le ts (fun t ht => (hall.out t ht).2) k (by omega)
        obtain ⟨_, eo, ec, hev, _⟩ := row_lie hfa.1
        subst hev
        clear hfa
        by_cases hlt : k < 3
        · have hkl : k < ts.length := by omega
          have hq := list_cell HFA.out k hkl
          have hcs := catN_succ ts k hkl
          have hts1 := hall.out ts[k] (List.getElem_mem hkl)
          have hcl2 := catN_le ts (fun t ht => (hall.out t ht).2) (k + 1) (by omega)
          obtain ⟨T, hT⟩ : ∃ T, ts[k] = T := ⟨_, rfl⟩
          rw [hT] at hq hcs hts1
          have cF' := fun w h => implFrame_yes T hts1.1 (by omega) w h
          obtain ⟨Q, hQ⟩ : ∃ Q, frm T = Q := ⟨_, rfl⟩
          rw [hQ] at cF' hcs
          have hqs : (catN ts k).size + Q.size = (catN ts (k + 1)).size := by rw [hcs, ByteArray.size_append]
          have cF := hid0 cF'
          have HCS := hid0 hcs
          clear cF' hQ hT hcs
          obtain ⟨X, hX⟩ : ∃ X, catN ts k = X := ⟨_, rfl⟩
          rw [hX] at HCS hcl hqs ⊢
          go_wp2_with fail
          refine (cF.out _ (steps_on HT.out HFA.out.2.2.2)).mono ?_
          rintro e w4 ⟨rfl, b4⟩
          have HF4 := hid0 (frAt_on HFA.out b4)
          have hsz4 : L + 1 ≤ w4.heap.size := by
            have h1 := World.block_lt_of_cell? wr _ hq
            have h2 := b4.size
            have h3 : L < wr.heap.size := h1
            omega
          clear b4 HFA cF hq
          go_wp2_with (at_builtin; refine wpList_append_own _ rfl (.tmp 57) (.tmp 60) 24 rfl (L + 1) 3 i0 (.int .i64 0) 1 8 Tryd.underlying24 hi hz0 hz1 hz2 rfl (by decide) _ _ _ rfl (HF4.out.1.alloc _) ⟨w4.heap.size, 0, none⟩ 1 1 [.int .i64 ((catN ts (k + 1)).size : Int)] rfl rfl (one_new _ _ _) (by intro u hu; simp at hu; subst hu; rfl) (by unfold maxLen; omega) (by omega) (by simp; omega) ?_)
          intro v' w5 hown' hgrow _
          have HF5 := hid0 (frAt_step HF4.out hgl.out hwL.out hown' hgrow)
          clear hown' hgrow HF4
          go_wp2
          go_roundw
          case rel => exact ⟨k + 1, by omega, by go_num, by rw [HCS.out], HF5.out⟩
          case measure => simp [intOf]; omega
        · have hk3 : k = 3 := by omega
          subst hk3
          have HW : Hid (ufT (catN ts 3) = ts ∧ ufE (catN ts 3) = (catN ts 3).size) := by
            obtain ⟨t1, a1, a2, rfl⟩ := hts3.out
            exact frames_whole a1 a2
          obtain ⟨kk, hkk⟩ : ∃ kk, z % ((catN ts 3).size + 1) = kk := ⟨_, rfl⟩
          have hkl : kk ≤ (catN ts 3).size := by
            have := Nat.mod_lt z (show 0 < (catN ts 3).size + 1 by omega)
            omega
          have hk' : (z : Int) % (((catN ts 3).size : Int) + 1) = (kk : Int) := by
            rw [← hkk]
            simp
          have HC : Hid (∃ m, m ≤ 3 ∧ ufT ((catN ts 3).extract 0 kk) = ts.take m ∧ ufE ((catN ts 3).extract 0 kk) = (catN ts m).size ∧ (catN ts m).size ≤ kk ∧ (m = 3 ∨ m < 3 ∧ kk < (catN ts (m + 1)).size)) := by
            obtain ⟨t1, a1, a2, rfl⟩ := hts3.out
            exact frames_cut a1 a2 kk hkl
          obtain ⟨m, hm, hmT, hmE, hmk, hm3⟩ := HC.out
          have P1' := fun w h => implUnframe_any (catN ts 3) w h
          have P2' := fun w h => implUnframe_any ((catN ts 3).extract 0 kk) w h
          unfold unframeAns at P1' P2'
          rw [HW.out.1, HW.out.2] at P1'
          rw [hmT, hmE] at P2'
          obtain ⟨G, rfl, e3⟩ := ends_cell2 HFA.out 3 (Nat.le_refl _)
          have HE : Hid (∀ j, j ≤ 3 → wr.cell? ⟨G, j, none⟩ = some (.int .i64 ((catN ts j).size : Int))) := fun j hj => ends_cell HFA.out j hj
          have HSZ : Hid (∀ j, j ≤ 3 → (catN ts j).size ≤ 909 * 3) := fun j hj => Nat.le_trans (catN_le ts (fun t ht => (hall.out t ht).2) j (by omega)) (by omega)
          have hq2 := slice_upto (P := Tryd.prog) Tryd.underlying9 (catN ts 3) kk (kk : Int) rfl hkl
          have hm3s := hid0 hm3
          obtain ⟨F, hF⟩ : ∃ F, catN ts 3 = F := ⟨_, rfl⟩
          rw [hF] at P1' hkl hcl hk' hq2 P2' ⊢
          obtain ⟨C, hC⟩ : ∃ C, F.extract 0 kk = C := ⟨_, rfl⟩
          rw [hC] at P2' hq2
          have P1 := hid0 P1'
          have P2 := hid0 P2'
          have hQ0 : (((F.size : Int) + 1) == 0) = false := beq_eq_false_iff_ne.2 (by omega)
          have HF := hid0 hF
          clear P1' P2' hC hF HW HC hmT hmE hts3 hkk e3 hm3
          go_wp2_with fail
          refine (P1.out _ (steps_on HT.out HFA.out.2.2.2)).mono ?_
          rintro e w4 ⟨v4, rfl, o4, b4⟩
          rw [hl3] at o4
          have O4 := hid0 o4
          have HF4 := hid0 (frAt_on HFA.out b4)
          have HE4 : Hid (∀ j, j ≤ 3 → w4.cell? ⟨G, j, none⟩ = some (.int .i64 ((catN ts j).size : Int))) := fun j hj => ends_cell HF4.out j hj
          have cS := hid0 (sameTexts_same (base := wr.heap.size) (base' := w.heap.size) (ts := ts) (w := w4) (v := v4) (v' := .slice (some ⟨L, 0, none⟩) 3 3) (by omega) (by rw [hl3]; exact O4.out) (by rw [hl3]; exact HF4.out.2.1))
          clear o4 b4 HFA P1
          go_wp2_with (go_at_call 10; refine Calls.mono cS.out ?_; rintro e w5 ⟨rfl, b5⟩; have hg5 := (frAt_on HF4.out b5).2.2.1)
          have HF5 := hid0 (frAt_on HF4.out b5)
          clear b5 HF4 HE4 cS O4 hg5
          refine (P2.out _ (steps_on HT.out HF5.out.2.2.2)).mono ?_
          rintro e w6 ⟨v6, rfl, o6, b6⟩
          have HF6 := hid0 (frAt_on HF5.out b6)
          have hml : (ts.take m).length = m := by rw [List.length_take]; omega
          rw [hml] at o6
          obtain ⟨_, a6, c6, hv6, _⟩ := row_lie o6
          subst hv6
          have O6 := hid0 o6
          have e6 := ends_cell HF6.out m hm
          have cS := hid0 (sameTexts_same (base := w5.heap.size) (base' := w.heap.size) (ts := ts.take m) (w := w6) (v := .slice a6 m c6) (v' := .slice (some ⟨L, 0, none⟩) m 3) (by omega) (by rw [hml]; exact O6.out) (by rw [hml]; exact row_prefix hm HF6.out.2.1))
          have HB6 := hid0 HF6.out.2.2.2
          have hme := HSZ.out m hm
          clear o6 b6 HF5 P2
          obtain ⟨X, hX⟩ : ∃ X, (catN ts m).size = X := ⟨_, rfl⟩
          rw [hX] at hmk e6 hme ⊢
          rcases hm3s.out with rfl | ⟨hlt3, hkn⟩
          · go_wp2_with (go_at_call 10; refine Calls.mono cS.out ?_; rintro e w7 ⟨rfl, b7⟩)
            go_ret
            exact ⟨rfl, HB6.out.trans (b7.mono HB6.out.size)⟩
          · have e7 := ends_cell HF6.out (m + 1) (by omega)
            have hme2 := HSZ.out (m + 1) (by omega)
            obtain ⟨Y, hY⟩ : ∃ Y, (catN ts (m + 1)).size = Y := ⟨_, rfl⟩
            rw [hY] at hkn e7 hme2
            have hm3f : ((m : Int) == 3) = false := by rw [beq_eq_false_iff_ne]; omega
            go_wp2_with (go_at_call 10; refine Calls.mono cS.out ?_; rintro e w7 ⟨rfl, b7⟩; have e8 := (b7.cell (p := ⟨G, m + 1, none⟩) (World.block_lt_of_cell? w6 _ e7)).trans e7)
            go_ret
            exact ⟨rfl, HB6.out.trans (b7.mono HB6.out.size)⟩
  · obtain ⟨W4, hW4⟩ : ∃ W4, W3 = W4 := ⟨_, rfl⟩
    obtain ⟨L, hL⟩ : ∃ L, w2.heap.size = L := ⟨_, rfl⟩
    have hsz1 : 1 ≤ s0.size := by omega
    have hsz9 : s0.size ≤ 900 := by omega
    have h0f : ((s0.size : Int) == 0) = false := by rw [beq_eq_false_iff_ne]; omega
    subst hW4
    obtain ⟨ts, hts⟩ : ∃ ts, [s0, two3, more3] = ts := ⟨_, rfl⟩
    have hall : Hid (∀ t ∈ ts, 1 ≤ t.size ∧ t.size ≤ 900) := by
      rw [← hts]
      intro t ht
      simp only [List.mem_cons, List.not_mem_nil, or_false] at ht
      rcases ht with rfl | rfl | rfl
      · exact ⟨hsz1, hsz9⟩
      · decide
      · decide
    have hl3 : ts.length = 3 := by rw [← hts]; rfl
    have FA : Hid (FrAt w w2.heap.size g z ts 0 (.slice (some ⟨w2.heap.size + 1, 0, none⟩) 1 1) (W3.alloc (.cells #[.int .i64 0] 3))) := by
      rw [← hts]
      exact frAt_start S3.out O3.out C3.out B3.out
    rw [hL] at S3 FA hwL hgl q0 f0
    have s3 := S3.out
    have hts3 : Hid (∃ t1, 1 ≤ t1.size ∧ t1.size ≤ 900 ∧ ts = [t1, two3, more3]) := ⟨_, hsz1, hsz9, hts.symm⟩
    clear hts O3 C3 B3 C2 B2 hs0
    go_wp2
    go_loopw [5, 6, 7] (fun f en i wr => ∃ (k : Nat), k ≤ 3 ∧ i = .int .i64 k ∧ f = .string (catN ts k) ∧ FrAt w L g z ts k en wr) (fun _ _ i _ => 3 - (intOf i).toNat)
    case atStart => exact ⟨0, by omega, rfl, rfl, FA.out⟩
    case round =>
      obtain ⟨k, hk, rfl, rfl, hfa⟩ := hrel
      have HFA := hid0 hfa
      have hcl := catN_le ts (fun t ht => (hall.out t ht).2) k (by omega)
      obtain ⟨_, eo, ec, hev, _⟩ := row_lie hfa.1
      subst hev
      clear hfa
      by_cases hlt : k < 3
      · have hkl : k < ts.length := by omega
        have hq := list_cell HFA.out k hkl
        have hcs := catN_succ ts k hkl
        have hts1 := hall.out ts[k] (List.getElem_mem hkl)
        have hcl2 := catN_le ts (fun t ht => (hall.out t ht).2) (k + 1) (by omega)
        obtain ⟨T, hT⟩ : ∃ T, ts[k] = T := ⟨_, rfl⟩
        rw [hT] at hq hcs hts1
        have cF' := fun w h => implFrame_yes T hts1.1 (by omega) w h
        obtain ⟨Q, hQ⟩ : ∃ Q, frm T = Q := ⟨_, rfl⟩
        rw [hQ] at cF' hcs
        have hqs : (catN ts k).size + Q.size = (catN ts (k + 1)).size := by rw [hcs, ByteArray.size_append]
        have cF := hid0 cF'
        have HCS := hid0 hcs
        clear cF' hQ hT hcs
        obtain ⟨X, hX⟩ : ∃ X, catN ts k = X := ⟨_, rfl⟩
        rw [hX] at HCS hcl hqs ⊢
        go_wp2_with fail
        refine (cF.out _ (steps_on HT.out HFA.out.2.2.2)).mono ?_
        rintro e w4 ⟨rfl, b4⟩
        have HF4 := hid0 (frAt_on HFA.out b4)
        have hsz4 : L + 1 ≤ w4.heap.size := by
          have h1 := World.block_lt_of_cell? wr _ hq
          have h2 := b4.size
          have h3 : L < wr.heap.size := h1
          omega
        clear b4 HFA cF hq
        go_wp2_with (at_builtin; refine wpList_append_own _ rfl (.tmp 57) (.tmp 60) 24 rfl (L + 1) 3 i0 (.int .i64 0) 1 8 Tryd.underlying24 hi hz0 hz1 hz2 rfl (by decide) _ _ _ rfl (HF4.out.1.alloc _) ⟨w4.heap.size, 0, none⟩ 1 1 [.int .i64 ((catN ts (k + 1)).size : Int)] rfl rfl (one_new _ _ _) (by intro u hu; simp at hu; subst hu; rfl) (by unfold maxLen; omega) (by omega) (by simp; omega) ?_)
        intro v' w5 hown' hgrow _
        have HF5 := hid0 (frAt_step HF4.out hgl.out hwL.out hown' hgrow)
        clear hown' hgrow HF4
        go_wp2
        go_roundw
        case rel => exact ⟨k + 1, by omega, by go_num, by rw [HCS.out], HF5.out⟩
        case measure => simp [intOf]; omega
      · have hk3 : k = 3 := by omega
        subst hk3
        have HW : Hid (ufT (catN ts 3) = ts ∧ ufE (catN ts 3) = (catN ts 3).size) := by
          obtain ⟨t1, a1, a2, rfl⟩ := hts3.out
          exact frames_whole a1 a2
        obtain ⟨kk, hkk⟩ : ∃ kk, z % ((catN ts 3).size + 1) = kk := ⟨_, rfl⟩
        have hkl : kk ≤ (catN ts 3).size := by
          have := Nat.mod_lt z (show 0 < (catN ts 3).size + 1 by omega)
          omega
        have hk' : (z : Int) % (((catN ts 3).size : Int) + 1) = (kk : Int) := by
          rw [← hkk]
          simp
        have HC : Hid (∃ m, m ≤ 3 ∧ ufT ((catN ts 3).extract 0 kk) = ts.take m ∧ ufE ((catN ts 3).extract 0 kk) = (catN ts m).size ∧ (catN ts m).size ≤ kk ∧ (m = 3 ∨ m < 3 ∧ kk < (catN ts (m + 1)).size)) := by
          obtain ⟨t1, a1, a2, rfl⟩ := hts3.out
          exact frames_cut a1 a2 kk hkl
        obtain ⟨m, hm, hmT, hmE, hmk, hm3⟩ := HC.out
        have P1' := fun w h => implUnframe_any (catN ts 3) w h
        have P2' := fun w h => implUnframe_any ((catN ts 3).extract 0 kk) w h
        unfold unframeAns at P1' P2'
        rw [HW.out.1, HW.out.2] at P1'
        rw [hmT, hmE] at P2'
        obtain ⟨G, rfl, e3⟩ := ends_cell2 HFA.out 3 (Nat.le_refl _)
        have HE : Hid (∀ j, j ≤ 3 → wr.cell? ⟨G, j, none⟩ = some (.int .i64 ((catN ts j).size : Int))) := fun j hj => ends_cell HFA.out j hj
        have HSZ : Hid (∀ j, j ≤ 3 → (catN ts j).size ≤ 909 * 3) := fun j hj => Nat.le_trans (catN_le ts (fun t ht => (hall.out t ht).2) j (by omega)) (by omega)
        have hq2 := slice_upto (P := Tryd.prog) Tryd.underlying9 (catN ts 3) kk (kk : Int) rfl hkl
        have hm3s := hid0 hm3
        obtain ⟨F, hF⟩ : ∃ F, catN ts 3 = F := ⟨_, rfl⟩
        rw [hF] at P1' hkl hcl hk' hq2 P2' ⊢
        obtain ⟨C, hC⟩ : ∃ C, F.extract 0 kk = C := ⟨_, rfl⟩
        rw [hC] at P2' hq2
        have P1 := hid0 P1'
        have P2 := hid0 P2'
        have hQ0 : (((F.size : Int) + 1) == 0) = false := beq_eq_false_iff_ne.2 (by omega)
        have HF := hid0 hF
        clear P1' P2' hC hF HW HC hmT hmE hts3 hkk e3 hm3
        go_wp2_with fail
        refine (P1.out _ (steps_on HT.out HFA.out.2.2.2)).mono ?_
        rintro e w4 ⟨v4, rfl, o4, b4⟩
        rw [hl3] at o4
        have O4 := hid0 o4
        have HF4 := hid0 (frAt_on HFA.out b4)
        have HE4 : Hid (∀ j, j ≤ 3 → w4.cell? ⟨G, j, none⟩ = some (.int .i64 ((catN ts j).size : Int))) := fun j hj => ends_cell HF4.out j hj
        have cS := hid0 (sameTexts_same (base := wr.heap.size) (base' := w.heap.size) (ts := ts) (w := w4) (v := v4) (v' := .slice (some ⟨L, 0, none⟩) 3 3) (by omega) (by rw [hl3]; exact O4.out) (by rw [hl3]; exact HF4.out.2.1))
        clear o4 b4 HFA P1
        go_wp2_with (go_at_call 10; refine Calls.mono cS.out ?_; rintro e w5 ⟨rfl, b5⟩; have hg5 := (frAt_on HF4.out b5).2.2.1)
        have HF5 := hid0 (frAt_on HF4.out b5)
        clear b5 HF4 HE4 cS O4 hg5
        refine (P2.out _ (steps_on HT.out HF5.out.2.2.2)).mono ?_
        rintro e w6 ⟨v6, rfl, o6, b6⟩
        have HF6 := hid0 (frAt_on HF5.out b6)
        have hml : (ts.take m).length = m := by rw [List.length_take]; omega
        rw [hml] at o6
        obtain ⟨_, a6, c6, hv6, _⟩ := row_lie o6
        subst hv6
        have O6 := hid0 o6
        have e6 := ends_cell HF6.out m hm
        have cS := hid0 (sameTexts_same (base := w5.heap.size) (base' := w.heap.size) (ts := ts.take m) (w := w6) (v := .slice a6 m c6) (v' := .slice (some ⟨L, 0, none⟩) m 3) (by omega) (by rw [hml]; exact O6.out) (by rw [hml]; exact row_prefix hm HF6.out.2.1))
        have HB6 := hid0 HF6.out.2.2.2
        have hme := HSZ.out m hm
        clear o6 b6 HF5 P2
        obtain ⟨X, hX⟩ : ∃ X, (catN ts m).size = X := ⟨_, rfl⟩
        rw [hX] at hmk e6 hme ⊢
        rcases hm3s.out with rfl | ⟨hlt3, hkn⟩
        · go_wp2_with (go_at_call 10; refine Calls.mono cS.out ?_; rintro e w7 ⟨rfl, b7⟩)
          go_ret
          exact ⟨rfl, HB6.out.trans (b7.mono HB6.out.size)⟩
        · have e7 := ends_cell HF6.out (m + 1) (by omega)
          have hme2 := HSZ.out (m + 1) (by omega)
          obtain ⟨Y, hY⟩ : ∃ Y, (catN ts (m + 1)).size = Y := ⟨_, rfl⟩
          rw [hY] at hkn e7 hme2
          have hm3f : ((m : Int) == 3) = false := by rw [beq_eq_false_iff_ne]; omega
          go_wp2_with (go_at_call 10; refine Calls.mono cS.out ?_; rintro e w7 ⟨rfl, b7⟩; have e8 := (b7.cell (p := ⟨G, m + 1, none⟩) (World.block_lt_of_cell? w6 _ e7)).trans e7)
          go_ret
          exact ⟨rfl, HB6.out.trans (b7.mono HB6.out.size)⟩

theorem own : ownKnob Tryd.prog.godebug = none := by kernel_rfl
theorem laidOut : laidOutB Tryd.prog = true := by kernel_rfl
theorem rowed : varsRowed Tryd.prog Rows.fnFramesSpec.vars = true := by kernel_rfl
/-- what the row's list gives: what loop.example/g00232/impl.fourSteps holds -/
theorem table0 {W : World} (h : laidMetH Tryd.prog Rows.fnFramesRow.laid W) : Lib.TabIs Tryd.prog W "loop.example/g00232/impl.fourSteps" .u32 stepsTab := by
  have h1 : laidMet Tryd.prog Rows.fnFramesRow.laid W := h
  unfold Rows.fnFramesRow at h1
  have h2 := h1
  rw [show (Rows.laid_loop_example_g00232_impl_fourSteps : DataW Unit) = Lib.tabData .u32 stepsTab by kernel_rfl] at h2
  exact Lib.tabIs_of_head (show Tryd.prog.globalNamed "loop.example/g00232/impl.fourSteps" = some 0 by kernel_rfl) (show (Tryd.prog.globals[0]?).map (·.type) = some 64 by kernel_rfl) Tryd.underlying64 Tryd.underlying43 (show Tryd.prog.cellsOf 43 = 1 by kernel_rfl) (show Tryd.prog.cellsOf 64 = 16 by kernel_rfl) h2
set_option maxRecDepth 1000000 in
theorem contract (H : Type) (enc : TypeId × Value → H) (W : World) (base : Nat) (args : Array Value) (ds gs : List (DataW H)) (before : List MemPlace)
    (hval : ∀ (j : Nat) t v, Tryd.f3.params[j]? = some t → args[j]? = some v → Value.okWide Tryd.prog W .any base t v)
    (hW : DataW.Whole enc Tryd.prog Tryd.f3.params.toList Rows.fnFramesSpec.vars false W args.toList ds gs before) (hL : laidMetH Tryd.prog Rows.fnFramesRow.laid W) :
    Calls Tryd.prog 3 args W fun e W' => ∃ v, e = .returned v ∧ Rows.fnFramesSpec.post enc Tryd.prog Tryd.f3 false true false false W args v W' := by
  have hW' := hW
  obtain ⟨p, q, hA0, hV0, rfl, hfz, hnd⟩ := hW
  have hV : DataW.TrodVars enc Tryd.prog W (fun _ => true) Rows.fnFramesSpec.vars gs q := hV0
  have hA : DataW.TrodAll enc Tryd.prog W 0 (fun _ => true) true Tryd.f3.params.toList args.toList ds p := hA0
  rw [Tryd.params3] at hA hval
  obtain ⟨v0, vs0, d0, ds0, p0, q0, hargs0, rfl, rfl, h0, r0⟩ := trodAll_cons hA
  obtain ⟨rfl, rfl, rfl⟩ := trodAll_nil r0
  obtain rfl : args = #[v0] := by cases args; simp_all
  obtain ⟨a0, len0, cap0, rfl⟩ := okWide_slice Tryd.underlying22 (hval 0 22 v0 rfl rfl)
  have k0 := h0
  have lt0 : ∀ x ∈ p0, x.block < W.heap.size := by obtain ⟨m, hm⟩ := k0; exact DataW.trod_lt m _ _ _ hm
  have hb0 : len0 ≤ cap0 ∧ Bytes W a0 len0 := by
    obtain ⟨fuel, hf⟩ := h0
    rcases open_ints Tryd.underlying22 Tryd.underlying5 (by kernel_rfl) hf with ⟨hcs, _⟩ | ⟨x, l, c, zs, hcs, _, hl, hm, hz, _, hcell, hwz⟩
    · simp [Value.cells] at hcs
      obtain ⟨rfl, rfl, rfl⟩ := hcs
      exact ⟨Nat.le_refl _, fun h => by omega⟩
    · simp [Value.cells] at hcs
      obtain ⟨rfl, rfl, rfl⟩ := hcs
      refine ⟨hl, fun hp => ?_⟩
      have hzl : zs.length = cap0 := by simpa using hz
      obtain ⟨b, off, rfl, hc⟩ := ints_at hcell (by omega)
      refine ⟨b, off, rfl, fun j hj => ?_⟩
      have hjz : j < zs.length := by omega
      have hb8 := bounds_u8 (hwz (zs.getD j 0) (by simp [List.getD, hjz]))
      exact ⟨zs.getD j 0, hb8.1, hb8.2, hc j hjz⟩
  clear hA0 hV0
  have hgs : gs.length = 1 := by
    have := hV
    clear hV hW' hL
    match gs, this with
    | [_], _ => rfl
  match gs, hgs, hV, hW' with
  | [g0], _, hV, hW' =>
    refine (walk a0 len0 cap0 hb0.1 W hb0.2 (table0 hL)).mono fun e W' ⟨he, bel⟩ => ?_
    subst he
    exact ⟨_, rfl, _, _, _, [], _, _, hW', trodAll_mk1 (shut_bool Tryd.underlying4 _), trodAll_cons_mk (Below.trod laidOut (by kernel_rfl) (of_decide_eq_true (by kernel_rfl)) k0 bel lt0) (trodAll_mk0), Below.trodVars laidOut bel rowed hV, bel.frame _, fun h => by cases h⟩

def put (cs : Array Value) : Obj → Obj
  | .cells _ t frozen => .cells cs t frozen
  | o => o

/-- a world for the witness: the tables hold what their initialisers lay -/
def laidWorld (w : World) : World := { w with heap := (w.heap.modify 0 (put (([0, 1166650509, 2333301018, 3466261911, 3189058079, 4221339282, 889615109, 1888477064, 3558460437, 2442158232, 1594529039, 444807554, 1779230218, 797264519, 3776954128, 2761298845] : List Int).map (Value.int .u32)).toArray)) }
theorem laid_met (os : Os) : laidMet Tryd.prog Rows.fnFramesRow.laid ((laidWorld (World.holding Tryd.prog os ⟨#[], #[], []⟩)).forCall (fun _ _ => 0) ⟨#[], #[.slice none 0 0], []⟩).memory :=
  laidMet_of_run' 8 (by kernel_rfl) (by kernel_rfl)
theorem reads (os : Os) {H : Type} (enc : TypeId × Value → H) : ∃ places, DataW.whole enc Tryd.prog ((laidWorld (World.holding Tryd.prog os ⟨#[], #[], []⟩)).forCall (fun _ _ => 0) ⟨#[], #[.slice none 0 0], []⟩).memory Tryd.f3.params.toList Rows.fnFramesSpec.vars false #[Value.slice none 0 0].toList 8 = some ([.nil], [Rows.laid_loop_example_g00232_impl_fourSteps], places) :=
  ⟨(List.range 16).map (MemPlace.cell 0), by kernel_rfl⟩

set_option maxRecDepth 1000000 in
theorem lifted (os : Os) (started : os.Started) (H : Type) (enc : TypeId × Value → H) (F : Stop.Interp) :
    ReturnsInHanded {} Tryd.checked os 3 .any ((OpenSpec.ofChange Rows.fnFramesSpec).preRow enc Tryd.prog Tryd.f3 Rows.fnFramesRow.domain false Rows.fnFramesRow.laid) (((OpenSpec.ofChange Rows.fnFramesSpec).at F).post enc Tryd.prog Tryd.f3 false true false false) := by
  obtain ⟨places, hx⟩ := reads os enc
  refine returnsInHanded_of_row (C := Tryd.checked) (s := OpenSpec.ofChange Rows.fnFramesSpec) own started (by kernel_rfl) Tryd.func3
    (witness_row_at (enc := enc) (C := Tryd.checked) false (laidWorld (World.holding Tryd.prog os ⟨#[], #[], []⟩)) #[.slice none 0 0] rfl (by kernel_rfl) (by kernel_rfl) (by kernel_rfl)
      (OpenSpec.preRow_of_cond 8 hx (by kernel_rfl) (fun k hk => by cases hk) (by kernel_rfl) (laid_met os))) ?_
  intro W base args ds gs before hval hW _ _ _ hL _ _
  exact contract H enc W base args ds gs before hval hW hL

theorem said : Rows.FnFramesSaid :=
  OpenClaim.holds_of_cond 3 Tryd.f3 rfl rfl rfl rfl rfl rfl rfl ⟨rfl, rfl, rfl, rfl, rfl⟩ rfl rfl rfl rfl rfl (by kernel_rfl) Tryd.func3 (by kernel_rfl)
    (of_decide_eq_true (by kernel_rfl)) (by unfold Func.isWrapper; first | (rw [if_pos (by decide +kernel)]; kernel_rfl) | (rw [if_neg (by decide +kernel)]; exact ⟨rfl, rfl⟩))
    (fun os started H enc _ F => by rw [OpenClaim.pre_eq_preRow]; exact lifted os started H enc F)

theorem plain (f : FuncId) (fn : Func) (hf : Tryd.pinned.checked.prog.funcNamed "loop.example/g00232/laws.FnFrames" = some f) (hfn : Tryd.pinned.checked.prog.funcs[f]? = some fn) :
    false = Tryd.pinned.checked.prog.looks [] ∧ ∀ (j : Nat) t, fn.params[j]? = some t → Tryd.pinned.checked.prog.wantsStandIn t = false := by
  obtain rfl : f = 3 := Option.some.inj ((show Tryd.prog.funcNamed "loop.example/g00232/laws.FnFrames" = some 3 by kernel_rfl).symm.trans hf) |>.symm
  obtain rfl : fn = Tryd.f3 := (Option.some.inj (Tryd.func3.symm.trans hfn)).symm
  refine ⟨by kernel_rfl, fun j t ht => ?_⟩
  rw [Tryd.params3] at ht
  obtain rfl : t = 22 := by simpa using Array.mem_of_getElem? ht
  exact (show Tryd.prog.wantsStandIn 22 = false by kernel_rfl)

theorem card : Rows.FnFramesCardSaid :=
  Claim7.holds_tied_plain_at .later [] _ _ _ _ said (fun _ h => by cases h) (by kernel_rfl) (fun _ h => by cases h) fnFrames_row_tie rfl ⟨rfl, rfl⟩ (by kernel_rfl) rfl plain (by kernel_rfl)
end Go.Proofs.YtfkknmhokiacaaaDoor.fnFrames
