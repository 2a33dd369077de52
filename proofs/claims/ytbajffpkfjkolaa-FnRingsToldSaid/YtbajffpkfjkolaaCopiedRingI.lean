/-
  The walk of impl.copiedRing: a ring is laid anew, in memory of its own.
-/
import Derived.Test.YtbajffpkfjkolaaPutSlot
import Derived.Test.YtbajffpkfjkolaaOwnAt
import Derived.Test.YtbajffpkfjkolaaClone
import Derived.Deep.RegionWith
namespace Go.Proofs.Ytbajffpkfjkolaa
open Go.RowKit

/-- a text is copied while a slot is laid anew -/
theorem copy_slot {wr : World} {G k : Nat} {l : List SlotD} {rest : List Value} (hlt : k < l.length) (hts : l[k].text.size ≤ 1048576) (hbl : BlockIs wr G 42 (slotCells (l.take k) ++ rest)) (hr : rest.length = (l.length - k) * 2) :
    Calls Try.prog 40 #[.string l[k].text] (wr.alloc (.cells #[.int .i64 l[k].own, .string l[k].text] 42)).drew fun e W' => e = .returned (.string l[k].text) ∧ (W'.cell? ⟨wr.heap.size, 0, none⟩ = some (.int .i64 l[k].own) ∧ W'.cell? ⟨wr.heap.size, 1, none⟩ = some (.string l[k].text)) ∧ (∃ o0 o1, W'.cell? ⟨G, k * 2, none⟩ = some o0 ∧ W'.cell? ⟨G, k * 2 + 1, none⟩ = some o1) ∧ (W'.frozen? ⟨G, k * 2, none⟩ = false ∧ W'.frozen? ⟨G, k * 2 + 1, none⟩ = false) ∧ Hid (Below wr.heap.size wr W' ∧ ∃ r', r'.length = (l.length - (k + 1)) * 2 ∧ BlockIs ((W'.setCell ⟨G, k * 2, none⟩ (.int .i64 l[k].own)).setCell ⟨G, k * 2 + 1, none⟩ (.string l[k].text)) G 42 (slotCells (l.take (k + 1)) ++ r')) := by
  have hx : BlockIs (wr.alloc (.cells #[.int .i64 l[k].own, .string l[k].text] 42)) wr.heap.size 42 [.int .i64 l[k].own, .string l[k].text] := heap_alloc_new wr _
  have hd : Below (wr.alloc (.cells #[.int .i64 l[k].own, .string l[k].text] 42)).heap.size (wr.alloc (.cells #[.int .i64 l[k].own, .string l[k].text] 42)) (wr.alloc (.cells #[.int .i64 l[k].own, .string l[k].text] 42)).drew := below_drewN (Below.refl _ _) 1
  have hb1 := below_drewN (below_more (Below.refl wr.heap.size wr) (.cells #[.int .i64 l[k].own, .string l[k].text] 42)) 1
  refine (clone_any l[k].text (by omega) _).mono ?_
  rintro e W' ⟨rfl, hb⟩
  have k0 := (hx.on hd hx.lt).on hb (hx.on hd hx.lt).lt
  have hbw := below_via hb1 hb
  obtain ⟨h0, h1, h2⟩ := put_slot hlt hbl hr hbw hbl.lt
  exact ⟨rfl, ⟨k0.cell (j := 0) rfl, k0.cell (j := 1) rfl⟩, h0, ⟨h1 _, h1 _⟩, hbw, h2⟩

set_option maxRecDepth 1000000 in
set_option maxHeartbeats 1000000 in
theorem copiedRing_any (s t : Int) (ao : Option Addr) (l : List SlotD) (cap : Nat) (hl : l.length ≤ 1048576) (hsm : ∀ f ∈ l, slotOne f ≤ 1048576) (w : World) (ha : SlotsAt w ao l) :
    Calls Try.prog 22 #[.agg #[.slice ao l.length cap, .int .i64 s, .int .i64 t]] w fun e w' => ∃ g, w.heap.size ≤ g ∧ e = .returned (.agg #[.slice (some ⟨g, 0, none⟩) l.length l.length, .int .i64 s, .int .i64 t]) ∧ BlockIs w' g 42 (slotCells l) ∧ Below w.heap.size w w' := by
  obtain ⟨i0, hi, hz0, hz1, hz2⟩ := info_parts toSlot_info
  have HSM := hid hsm
  have hx0 : BlockIs ((w.alloc (.cells #[.slice ao l.length cap, .int .i64 s, .int .i64 t] 26)).alloc (.cells #[.slice none 0 0, .int .i64 0, .int .i64 0] 26)) w.heap.size 26 [.slice ao l.length cap, .int .i64 s, .int .i64 t] := by
    show ((w.heap.push _).push _)[w.heap.size]? = some _
    rw [Array.getElem?_push, if_neg (by simp), Array.getElem?_push, if_pos rfl]
  have hx1 : BlockIs ((w.alloc (.cells #[.slice ao l.length cap, .int .i64 s, .int .i64 t] 26)).alloc (.cells #[.slice none 0 0, .int .i64 0, .int .i64 0] 26)) (w.heap.size + 1) 26 [.slice none 0 0, .int .i64 0, .int .i64 0] := by
    show ((w.heap.push _).push _)[w.heap.size + 1]? = some _
    rw [Array.getElem?_push, if_pos (by simp)]
  have hb0 := below_more (below_more (Below.refl w.heap.size w) (.cells #[.slice ao l.length cap, .int .i64 s, .int .i64 t] 26)) (.cells #[.slice none 0 0, .int .i64 0, .int .i64 0] 26)
  have hs0 : ((w.alloc (.cells #[.slice ao l.length cap, .int .i64 s, .int .i64 t] 26)).alloc (.cells #[.slice none 0 0, .int .i64 0, .int .i64 0] 26)).heap.size = w.heap.size + 2 := by simp [World.alloc, -World.alloc_eq]
  obtain ⟨W0, hW0⟩ : ∃ W0, (w.alloc (.cells #[.slice ao l.length cap, .int .i64 s, .int .i64 t] 26)).alloc (.cells #[.slice none 0 0, .int .i64 0, .int .i64 0] 26) = W0 := ⟨_, rfl⟩
  rw [hW0] at hx0 hx1 hb0 hs0
  have HB0 := hid hb0
  have HX0 := hid hx0
  have HX1 := hid hx1
  have HS0 := hid hs0
  have HA := hid (ha.on hb0)
  have x00 := hx0.cell (j := 0) rfl
  clear ha hsm hx0 hx1 hb0 hs0
  go_enter Try.func22, Try.ntmps22
  go_wp2_with (at_make; refine wpList_make_full _ rfl (.tmp 8) (.tmp 8) 24 rfl W0.heap.size 42 i0 (.agg #[.int .i64 0, .string ByteArray.empty]) 2 Try.underlying24 hi hz0 hz1 _ _ _ _ l.length rfl rfl rfl rfl ?b2 ?b3 ?b4 ?_)
  case b2 => rw [hz2]; omega
  case b3 => unfold maxLen; omega
  case b4 => exact Nat.le_refl _
  intro w1 hown hgrow
  have HM := hid (BlockIs.made hown)
  have hB1 := (Below.refl W0.heap.size W0).grown hgrow (Nat.le_refl _) (fun k h => by cases h)
  have B1 := hid hB1
  have y00 := (HX0.out.on hB1 HX0.out.lt).cell (j := 0) rfl
  obtain ⟨G, hG⟩ : ∃ G, W0.heap.size = G := ⟨_, rfl⟩
  have HG := hid hG
  rw [hG] at B1 HM
  rw [hG]
  clear hown hgrow hB1 x00 hG
  go_wp2
  go_loopg [13] l.length (fun g i wr => ∃ (k : Nat), k + g = l.length ∧ i = .int .i64 k ∧ Hid (Below G W0 wr) ∧ ∃ rest, Hid (rest.length = (l.length - k) * 2) ∧ Hid (BlockIs wr G 42 (slotCells (l.take k) ++ rest)))
  case atStart => exact ⟨0, by omega, rfl, B1, _, made_slot l.length, HM⟩
  case round =>
    obtain ⟨k, hkg, rfl, BR, rest, hrl, FP⟩ := hrel
    clear HM B1 y00
    have BR' : Hid (Below W0.heap.size W0 wr) := by rw [HG.out]; exact BR.out
    cases gk with
    | zero =>
      have hlt : ¬ (k : Int) < (l.length : Int) := by omega
      have HP : Hid (BlockIs wr G 42 (slotCells l)) := by
        have h0 : rest = [] := List.length_eq_zero_iff.1 (by rw [hrl.out, show l.length - k = 0 by omega, Nat.zero_mul])
        have := FP.out
        rw [h0, List.append_nil, List.take_of_length_le (by omega)] at this
        exact this
      have k0 := HX0.out.on BR'.out HX0.out.lt
      have k1 := HX1.out.on BR'.out HX1.out.lt
      have c01 := k0.cell (j := 1) rfl
      have c02 := k0.cell (j := 2) rfl
      have c10 := k1.cell (j := 0) rfl
      have c11 := k1.cell (j := 1) rfl
      have c12 := k1.cell (j := 2) rfl
      have f10 := k1.thaw 0
      have f11 := k1.thaw 1
      have f12 := k1.thaw 2
      have hGw : w.heap.size + 2 = G := by rw [← HG.out, HS0.out]
      have HGw := hid hGw
      have HBL := hid (below_via HB0.out BR'.out)
      clear FP hrl k0 k1 hGw
      go_wp2
      refine bodyPost_ret (v := .agg #[.slice (some ⟨G, 0, none⟩) l.length l.length, .int .i64 s, .int .i64 t]) (by simp [results, Try.results22, go_sem, c10, c11, c12]) rfl ⟨G, by have := HGw.out; omega, rfl, ?_, ?_⟩
      · have := HGw.out
        exact ((HP.out.far (by omega) _).far (by omega) _).far (by omega) _
      · exact ((HBL.out.setCell (by show _ ≤ _ + 1; omega) _).setCell (by show _ ≤ _ + 1; omega) _).setCell (by show _ ≤ _ + 1; omega) _
    | succ g =>
      have hlt : k < l.length := by omega
      have hlt' : (k : Int) < (l.length : Int) := by omega
      have hne : l ≠ [] := by intro e; rw [e] at hlt; simp at hlt
      have hts : l[k].text.size ≤ 1048576 := by have := HSM.out l[k] (List.getElem_mem hlt); unfold slotOne at this; omega
      obtain ⟨b, off, rfl, hc⟩ := HA.out.on BR'.out hne
      obtain ⟨x0, x1⟩ := hc k hlt
      have CC := hid (copy_slot hlt hts FP.out hrl.out)
      have FPLT := hid FP.out.lt
      clear hc FP hrl
      go_wp2
      go_region_with (go_at_call 40; refine Calls.mono CC.out ?_; rintro e w2 ⟨rfl, ⟨y0, y1⟩, ⟨o0, o1, z0, z1⟩, ⟨f0, f1⟩, HW⟩)
      all_goals
        obtain ⟨hb2, r', hr', hnew⟩ := HW.out
        have B2 := hid ((BR.out.trans (hb2.mono (by have := FPLT.out; omega))))
        have HN := hid hnew
        have HR := hid hr'
        clear hb2 hr' hnew HW CC
        go_wp2
        go_roundg g
        case measure => omega
        case rel => exact ⟨k + 1, by omega, by go_num, hid ((B2.out.setCell (Nat.le_refl _) _).setCell (Nat.le_refl _) _), r', HR, HN⟩
end Go.Proofs.Ytbajffpkfjkolaa
