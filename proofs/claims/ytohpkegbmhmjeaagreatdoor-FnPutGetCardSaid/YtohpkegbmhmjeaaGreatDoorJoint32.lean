/-
  The walk of impl's shelf.open: a session is begun.
-/
import Derived.Test.YtohpkegbmhmjeaaGreatDoorJoint30
import Derived.Test.YtohpkegbmhmjeaaGreatDoorJoint1
import Derived.WalkKit
namespace Go.Proofs.YtohpkegbmhmjeaaGreatDoor
open Go.RowKit Go.Maps

set_option maxRecDepth 1000000 in
set_option maxHeartbeats 4000000 in
theorem shOpen_any (w0 : World) (b c : Nat) (ls : List SessionD) (li : List ItemD) (index : Int) (x : CommandD) (hm : mayDo ls li index x = true) (w : World) (ht : Lib.TabIs Tryz.prog w0 "internal/strconv.uint64pow10" .u64 Lib.pow10Tab) (hb0 : Below w0.heap.size w0 w) (hwbc : w0.heap.size ≤ b ∧ w0.heap.size ≤ c) (h : ShelfAt w b c ls li) :
    Calls Tryz.prog 46 #[.agg #[.map (some b), .map (some c)], .int .i64 index] w fun e w' => ShDid w0 b c (openedD ls index) li (txt [111, 112, 101, 110] ++ ⟨#[32]⟩ ++ decT index) w e w' := by
  obtain ⟨⟨h0, h1⟩, ⟨⟨ha, hsf, hl3⟩, hai, hif, hl8⟩, hx⟩ := may_facts hm
  have HT := hid ht
  have hbb : Below w.heap.size w (w.alloc (.cells #[.map (some b), .map (some c)] 65)) := below_more (Below.refl w.heap.size w) _
  have hy0 : BlockIs (w.alloc (.cells #[.map (some b), .map (some c)] 65)) w.heap.size 65 [.map (some b), .map (some c)] := heap_alloc_new w _
  have hs0 := h.on hbb
  have hw00 := hb0.trans (hbb.mono hb0.size)
  obtain ⟨W, hW⟩ : ∃ W, (w.alloc (.cells #[.map (some b), .map (some c)] 65)) = W := ⟨_, rfl⟩
  rw [hW] at hbb hy0 hs0 hw00
  have BB := hid hbb
  have Y0 := hid hy0
  have SA := hid hs0
  have B0 := hid hw00
  have y00 := hy0.cell (j := 0) rfl
  have y01 := hy0.cell (j := 1) rfl
  clear hbb hy0 hs0 hw00 ht
  obtain ⟨w1, hrun, s1, p1, t1⟩ := SA.out.putS ha (by omega) (⟨index, 0, ⟨#[]⟩⟩ : SessionD) (by show _ ≤ index; omega) (by show index ≤ _; omega)
  have hrun' : (Instr.mapUpdate 62 (.map (some b)) (.int .i64 index) (.agg #[.int .i64 index, .int .i64 0, .string ⟨#[]⟩])).run Tryz.prog W = .ok () w1 := hrun
  have hasc1 := asc_putIn token_ordered ha (⟨index, 0, ⟨#[]⟩⟩ : SessionD)
  have hlen := len_putIn (lt := tokenLt) ls (⟨index, 0, ⟨#[]⟩⟩ : SessionD)
  have hl4 : (putIn tokenLt ls (⟨index, 0, ⟨#[]⟩⟩ : SessionD)).length ≤ 4 := by have := split_len token_ordered (⟨index, 0, ⟨#[]⟩⟩ : SessionD) ls; omega
  obtain ⟨L, hL⟩ : ∃ L, putIn tokenLt ls (⟨index, 0, ⟨#[]⟩⟩ : SessionD) = L := ⟨_, rfl⟩
  have HOP : Hid (openedD ls index = if L.length > 3 then L.tail else L) := by show _ = _; rw [openedD, hL]
  have HL := hid hL
  rw [hL] at s1 hasc1 hlen hl4
  have hln := s1.lenS hasc1
  have S1 := hid s1
  have P1 := hid ((Past.below BB.out).trans p1)
  have B1 := hid (below_turn B0.out t1 hwbc.1)
  have z0 := (p1.2 _ _ _ Y0.out).cell (j := 0) rfl
  have HZ := hid (p1.2 _ _ _ Y0.out)
  clear hrun s1 p1 t1 hL hlen hm
  by_cases h3 : (3 : Int) < (L.length : Int)
  · have hO : openedD ls index = L.tail := by rw [HOP.out, if_pos (by omega)]
    have HO := hid hO
    clear hO HOP
    obtain ⟨s, L', hsL⟩ : ∃ s L', L = s :: L' := by
      cases L with
      | nil => simp at h3
      | cons s L' => exact ⟨s, L', rfl⟩
    have HSL := hid hsL
    clear hsL
    obtain ⟨D, hD1, hD2, hD3⟩ := keysS S1.out.2.1 hasc1
    have CK := hid ((callsIn_wide (n := 5)).1 (Tryz.maps_Keys_69 (some b) w1))
    have CC := hid ((callsIn_wide (n := 5)).1 (Tryz.slices_Collect_keys_68_69 b _ D heldR w1 hD1 (by unfold maxLen; omega) (by omega)))
    have bk := below_more (Below.refl w1.heap.size w1) (.cells #[.map (some b)] 62)
    have BK := hid bk
    have hzk := (HZ.out.on bk HZ.out.lt).cell (j := 0) rfl
    have HD3 := hid hD3
    clear hD1 hD3 bk
    go_enter Tryz.func46, Tryz.ntmps46
    go_wp2_with fail
    refine Calls.mono CK.out ?_
    rintro e w2 ⟨rfl, hw2⟩
    rw [hw2]
    clear hw2 w2 CK
    go_wp2_with fail
    refine Calls.mono CC.out ?_
    rintro e w3 ⟨v, ss, rfl, hS, hrow, _, b3⟩
    have hperm := hS.trans HD3.out.symm
    have hss : ss.length = L.length := by rw [hperm.length_eq, List.length_map]
    have hsne : ss ≠ [] := by intro e; rw [e] at hss; simp at hss; omega
    obtain ⟨g, gc, rfl, hcells⟩ := row_ints hrow hsne
    have hmin : Lib.minOf ss = s.token := by rw [HSL.out] at hperm hasc1; exact min_head hasc1 hperm
    have CM := hid (AnyG.slices_Min_int Tryz.min67 g 0 ss.length gc ss w3 (by omega) (Nat.le_refl _) (by omega) (fun j hj => by rw [Nat.zero_add]; have := hcells j hj; simpa [List.getD, hj] using this))
    rw [List.take_length, hmin] at CM
    have b13 := below_via BK.out b3
    have S3 := hid (S1.out.on b13)
    have B3 := hid (B1.out.trans (b13.mono B1.out.size))
    have P3 := hid (P1.out.trans (Past.below b13))
    have z3 := (HZ.out.on b13 HZ.out.lt).cell (j := 0) rfl
    have hmem : ∀ x, x ∈ L.tail ↔ x ∈ L ∧ x.token ≠ s.token := by
      intro x
      rw [HSL.out] at hasc1 ⊢
      have hq := (List.pairwise_cons.1 hasc1).1
      rw [List.tail_cons, List.mem_cons]
      constructor
      · intro hx
        exact ⟨Or.inr hx, fun e => tokenLt_ne (hq x hx) e.symm⟩
      · rintro ⟨rfl | hx, hne⟩
        · exact absurd rfl hne
        · exact hx
    have hsb : -9223372036854775808 ≤ s.token ∧ s.token ≤ 9223372036854775807 := by
      have hs : s ∈ putIn tokenLt ls (⟨index, 0, ⟨#[]⟩⟩ : SessionD) := by rw [HL.out, HSL.out]; simp
      rcases mem_putS.1 hs with rfl | ⟨hs, _⟩
      · show _ ≤ index ∧ index ≤ _; omega
      · have := session_bounds (hsf s hs); omega
    obtain ⟨w4, hdel, s4, p4, t4⟩ := S3.out.dropS (ls' := L.tail) s.token hsb.1 hsb.2 hmem 0
    have B4 := hid (below_turn B3.out t4 hwbc.1)
    have S4 := hid s4
    have P4 := hid (P3.out.trans p4)
    have CN := hid (numberedReply_any (txt [111, 112, 101, 110]) index (by decide) h0 (by omega) w4 (table_low HT.out B4.out))
    clear hS hrow b3 hperm hss hsne hcells hmin b13 hmem hsb s4 p4 t4 hzk
    go_wp2_with fail
    refine Calls.mono CM.out ?_
    rintro e w5 ⟨rfl, hw5⟩
    rw [hw5]
    clear hw5 w5
    go_wp2_with fail
    refine Calls.mono CN.out ?_
    rintro e w6 ⟨rfl, b6⟩
    have BE := hid b6
    clear b6
    go_wp2
    go_ret
    rw [HO.out]
    exact ⟨rfl, S4.out.on BE.out, P4.out.trans (Past.below BE.out), B4.out.trans (BE.out.mono B4.out.size)⟩
  · have hO : openedD ls index = L := by rw [HOP.out, if_neg (by omega)]
    have HO := hid hO
    clear hO HOP
    have CN := hid (numberedReply_any (txt [111, 112, 101, 110]) index (by decide) h0 (by omega) w1 (table_low HT.out B1.out))
    go_enter Tryz.func46, Tryz.ntmps46
    go_wp2_with fail
    refine Calls.mono CN.out ?_
    rintro e w6 ⟨rfl, b6⟩
    have BE := hid b6
    clear b6
    go_wp2
    go_ret
    rw [HO.out]
    exact ⟨rfl, S1.out.on BE.out, P1.out.trans (Past.below BE.out), B1.out.trans (BE.out.mono B1.out.size)⟩
end Go.Proofs.YtohpkegbmhmjeaaGreatDoor
