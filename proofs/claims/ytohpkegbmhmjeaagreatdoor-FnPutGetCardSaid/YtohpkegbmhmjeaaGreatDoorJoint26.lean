/-
  The walk of impl.shelfOf: a keep by its Tokens and Keys.
-/
import Derived.Test.YtohpkegbmhmjeaaGreatDoorJoint1
import Derived.Deep.LoopGhost
import Derived.WalkKit
namespace Go.Proofs.YtohpkegbmhmjeaaGreatDoor
open Go.RowKit

theorem take_putS {ls : List SessionD} (h : AscBy tokenLt ls) {k : Nat} (hk : k < ls.length) : putIn tokenLt (ls.take k) ls[k] = ls.take (k + 1) := by
  refine asc_same token_ordered (asc_putIn token_ordered (h.sublist (List.take_sublist k ls)) _) (h.sublist (List.take_sublist (k + 1) ls)) fun y => ?_
  rw [mem_putS, List.take_succ_eq_append_getElem hk, List.mem_append, List.mem_singleton]
  constructor
  · rintro (q | ⟨q, _⟩)
    · exact Or.inr q
    · exact Or.inl q
  · rintro (q | q)
    · obtain ⟨j, hj, rfl⟩ := List.getElem_of_mem q
      rw [List.length_take] at hj
      refine Or.inr ⟨q, ?_⟩
      rw [List.getElem_take]
      exact tokenLt_ne (asc_at h (by omega) hk)
    · exact Or.inl q
theorem take_putK {li : List ItemD} (h : AscBy keyLt li) {k : Nat} (hk : k < li.length) : putIn keyLt (li.take k) li[k] = li.take (k + 1) := by
  refine asc_same key_ordered (asc_putIn key_ordered (h.sublist (List.take_sublist k li)) _) (h.sublist (List.take_sublist (k + 1) li)) fun y => ?_
  rw [mem_putK, List.take_succ_eq_append_getElem hk, List.mem_append, List.mem_singleton]
  constructor
  · rintro (q | ⟨q, _⟩)
    · exact Or.inr q
    · exact Or.inl q
  · rintro (q | q)
    · obtain ⟨j, hj, rfl⟩ := List.getElem_of_mem q
      rw [List.length_take] at hj
      refine Or.inr ⟨q, ?_⟩
      rw [List.getElem_take]
      exact keyLt_ne (asc_at h (by omega) hk)
    · exact Or.inl q
/-- what stands while a shelf is filled -/
def ShelfIn (w W : World) (kv : List Value) (ls : List SessionD) (li : List ItemD) : Prop :=
  (Below w.heap.size w W ∧ BlockIs W w.heap.size 27 kv) ∧ BlockIs W (w.heap.size + 1) 65 [.map none, .map none] ∧ BlockIs W (w.heap.size + 4) 65 [.map (some (w.heap.size + 2)), .map (some (w.heap.size + 3))] ∧ ShelfAt W (w.heap.size + 2) (w.heap.size + 3) ls li
theorem ShelfIn.on {w W W2 : World} {kv : List Value} {ls : List SessionD} {li : List ItemD} (h : ShelfIn w W kv ls li) (hb : Below W.heap.size W W2) : ShelfIn w W2 kv ls li :=
  ⟨⟨below_via h.1.1 hb, h.1.2.on hb h.1.2.lt⟩, h.2.1.on hb h.2.1.lt, h.2.2.1.on hb h.2.2.1.lt, h.2.2.2.on hb⟩
theorem ShelfIn.turn {w W W2 : World} {b : Nat} {kv : List Value} {ls ls' : List SessionD} {li li' : List ItemD} (h : ShelfIn w W kv ls li) (ht : W.mapTurned W2 b) (hp : Past W W2) (hw : w.heap.size ≤ b) (hs : ShelfAt W2 (w.heap.size + 2) (w.heap.size + 3) ls' li') : ShelfIn w W2 kv ls' li' :=
  ⟨⟨h.1.1.grown ht.grown h.1.1.size (fun k e => by cases e; exact hw), hp.2 _ _ _ h.1.2⟩, hp.2 _ _ _ h.2.1, hp.2 _ _ _ h.2.2.1, hs⟩

set_option maxRecDepth 1000000 in
set_option maxHeartbeats 4000000 in
theorem shelfOf_any (ao bo : Option Addr) (ls : List SessionD) (li : List ItemD) (ac bc : Nat) (hko : keepOk ls li = true) (w : World) (ha : SessionsAt w ao ls) (hi : ItemsAt w bo li) :
    Calls Tryz.prog 26 #[.agg #[.slice ao ls.length ac, .slice bo li.length bc]] w fun e w' => ∃ b c, e = .returned (.agg #[.map (some b), .map (some c)]) ∧ (w.heap.size ≤ b ∧ w.heap.size ≤ c) ∧ ShelfAt w' b c ls li ∧ Below w.heap.size w w' := by
  obtain ⟨⟨hasc, hsf, hl3⟩, hasc2, hif, hl8⟩ := keep_facts hko
  obtain ⟨W1, hW1⟩ : ∃ W, ((((w.alloc (.cells #[.slice ao ls.length ac, .slice bo li.length bc] 27)).alloc (.cells #[.map none, .map none] 65)).alloc (.map #[] 0)).alloc (.map #[] 0)).alloc (.cells #[.map (some (w.heap.size + 2)), .map (some (w.heap.size + 3))] 65) = W := ⟨_, rfl⟩
  have hb1 : Below w.heap.size w W1 := by rw [← hW1]; exact below_more (below_more (below_more (below_more (below_more (Below.refl _ w) _) _) _) _) _
  have hx0 : BlockIs W1 w.heap.size 27 [.slice ao ls.length ac, .slice bo li.length bc] := by
    rw [← hW1]
    show (((((w.heap.push _).push _).push _).push _).push _)[w.heap.size]? = some _
    rw [Array.getElem?_push, if_neg (by simp; omega), Array.getElem?_push, if_neg (by simp; omega), Array.getElem?_push, if_neg (by simp; omega), Array.getElem?_push, if_neg (by simp), Array.getElem?_push, if_pos rfl]
  have hx1 : BlockIs W1 (w.heap.size + 1) 65 [.map none, .map none] := by
    rw [← hW1]
    show (((((w.heap.push _).push _).push _).push _).push _)[w.heap.size + 1]? = some _
    rw [Array.getElem?_push, if_neg (by simp), Array.getElem?_push, if_neg (by simp), Array.getElem?_push, if_neg (by simp), Array.getElem?_push, if_pos (by simp)]
  have hx4 : BlockIs W1 (w.heap.size + 4) 65 [.map (some (w.heap.size + 2)), .map (some (w.heap.size + 3))] := by
    rw [← hW1]
    show (((((w.heap.push _).push _).push _).push _).push _)[w.heap.size + 4]? = some _
    rw [Array.getElem?_push, if_pos (by simp)]
  have hs1 : ShelfAt W1 (w.heap.size + 2) (w.heap.size + 3) [] [] := by
    rw [← hW1]
    have m1 := HMap.made 3 sesKl sesV ((w.alloc (.cells #[.slice ao ls.length ac, .slice bo li.length bc] 27)).alloc (.cells #[.map none, .map none] 65))
    have m2 := HMap.made 9 itKl itV (((w.alloc (.cells #[.slice ao ls.length ac, .slice bo li.length bc] 27)).alloc (.cells #[.map none, .map none] 65)).alloc (.map #[] 0))
    rw [show ((w.alloc (.cells #[.slice ao ls.length ac, .slice bo li.length bc] 27)).alloc (.cells #[.map none, .map none] 65)).heap.size = w.heap.size + 2 by simp [World.alloc, -World.alloc_eq]] at m1
    rw [show (((w.alloc (.cells #[.slice ao ls.length ac, .slice bo li.length bc] 27)).alloc (.cells #[.map none, .map none] 65)).alloc (.map #[] 0)).heap.size = w.heap.size + 3 by simp [World.alloc, -World.alloc_eq]] at m2
    exact ⟨by omega, (m1.on (below_more (Below.refl _ _) _)).on (below_more (Below.refl _ _) _), m2.on (below_more (Below.refl _ _) _)⟩
  have SI : Hid (ShelfIn w W1 [.slice ao ls.length ac, .slice bo li.length bc] [] []) := ⟨⟨hb1, hx0⟩, hx1, hx4, hs1⟩
  have HA := hid (ha.on hb1)
  have HI := hid (hi.on hb1)
  have BX := hid (Below.refl W1.heap.size W1)
  have X0 := hid hx0
  have x0 := hx0.cell (j := 0) rfl
  have x1 := hx0.cell (j := 1) rfl
  have HB1 := hid hb1
  obtain ⟨U0, hU0⟩ : ∃ W, (w.alloc (.cells #[.slice ao ls.length ac, .slice bo li.length bc] 27)).alloc (.cells #[.map none, .map none] 65) = W := ⟨_, rfl⟩
  obtain ⟨U1, hU1⟩ : ∃ W, U0.alloc (.map #[] 0) = W := ⟨_, rfl⟩
  obtain ⟨U2, hU2⟩ : ∃ W, U1.alloc (.map #[] 0) = W := ⟨_, rfl⟩
  have z0 : U0.heap.size = w.heap.size + 2 := by rw [← hU0]; simp [World.alloc, -World.alloc_eq]
  have z1 : U1.heap.size = w.heap.size + 3 := by rw [← hU1]; simp [World.alloc, -World.alloc_eq, z0]
  have z2 : U2.heap.size = w.heap.size + 4 := by rw [← hU2]; simp [World.alloc, -World.alloc_eq, z1]
  have hm1 : (Instr.makeMap 62 none).run Tryz.prog U0 = .ok (.map (some (w.heap.size + 2))) U1 := by rw [← z0, ← hU1]; rfl
  have hm2 : (Instr.makeMap 63 none).run Tryz.prog U1 = .ok (.map (some (w.heap.size + 3))) U2 := by rw [← z1, ← hU2]; rfl
  rw [hU0, hU1, hU2] at hW1
  clear hU1 hU2 z0 z1
  have HA0 := hid ha
  have HI0 := hid hi
  clear hb1 hx0 hx1 hx4 hs1 ha hi
  go_enter Tryz.func26, Tryz.ntmps26
  go_wp2
  go_loopg [14] ls.length (fun q i wr => ∃ (k : Nat), k + q = ls.length ∧ i = .int .i64 k ∧ Hid (ShelfIn w wr [.slice ao ls.length ac, .slice bo li.length bc] (ls.take k) []))
  case atStart => exact ⟨0, by omega, rfl, SI⟩
  case round =>
    obtain ⟨k, hkg, rfl, SR⟩ := hrel
    clear SI hm1 hm2 hU0 hW1 z2
    have s0 := SR.out.2.2.1.cell (j := 0) rfl
    have s1 := SR.out.2.2.1.cell (j := 1) rfl
    have kk1 := SR.out.1.2.cell (j := 1) rfl
    cases gk with
    | zero =>
      have hlt : ¬ (k : Int) < (ls.length : Int) := by omega
      obtain rfl : k = ls.length := by omega
      rw [List.take_length] at SR
      have SI := SR
      clear SR
      go_wp2
      go_loopg [27] li.length (fun q i wr => ∃ (k : Nat), k + q = li.length ∧ i = .int .i64 k ∧ Hid (ShelfIn w wr [.slice ao ls.length ac, .slice bo li.length bc] ls (li.take k)))
      case atStart => exact ⟨0, by omega, rfl, SI⟩
      case round =>
        obtain ⟨k, hkg, rfl, SR⟩ := hrel
        clear SI
        have s0 := SR.out.2.2.1.cell (j := 0) rfl
        have s1 := SR.out.2.2.1.cell (j := 1) rfl
        have kk1 := SR.out.1.2.cell (j := 1) rfl
        cases gk with
        | zero =>
          have hlt : ¬ (k : Int) < (li.length : Int) := by omega
          obtain rfl : k = li.length := by omega
          rw [List.take_length] at SR
          obtain ⟨⟨m1, _⟩, m2, m3, m4⟩ := SR.out
          have r0 := m2.cell (j := 0) rfl
          have r1 := m2.cell (j := 1) rfl
          have f0 := m2.thaw 0
          have f1 := m2.thaw 1
          have BE := hid ((m1.setCell (p := ⟨w.heap.size + 1, 0, none⟩) (by show _ ≤ _ + 1; omega) (.map (some (w.heap.size + 2)))).setCell (p := ⟨w.heap.size + 1, 1, none⟩) (by show _ ≤ _ + 1; omega) (.map (some (w.heap.size + 3))))
          have SE := hid ((m4.far (j := 0) m2 (.map (some (w.heap.size + 2)))).far (j := 1) (m2.set 0 (.map (some (w.heap.size + 2)))) (.map (some (w.heap.size + 3))))
          clear m1 m2 m3 m4 SR
          go_wp2
          refine bodyPost_ret (v := .agg #[.map (some (w.heap.size + 2)), .map (some (w.heap.size + 3))]) (by simp [results, Tryz.results26, go_sem, r0, r1]) rfl ⟨_, _, rfl, ⟨by omega, by omega⟩, SE.out, BE.out⟩
        | succ q =>
          have hlt : k < li.length := by omega
          have hlt' : (k : Int) < (li.length : Int) := by omega
          have hk0 : (0 : Int) ≤ (k : Int) := by omega
          have hne : li ≠ [] := by intro e; rw [e] at hlt; simp at hlt
          obtain ⟨b, off, rfl, hc⟩ := HI0.out.on SR.out.1.1 hne
          obtain ⟨y0, y1, y2⟩ := hc k hlt
          clear hc
          have bn := below_more (Below.refl wr.heap.size wr) (.cells #[.string li[k].key, .string li[k].val, .int .i64 li[k].ver] 41)
          have nn : BlockIs (wr.alloc (.cells #[.string li[k].key, .string li[k].val, .int .i64 li[k].ver] 41)) wr.heap.size 41 [.string li[k].key, .string li[k].val, .int .i64 li[k].ver] := heap_alloc_new wr _
          have sn := SR.out.on bn
          obtain ⟨V, hV⟩ : ∃ V, wr.alloc (.cells #[.string li[k].key, .string li[k].val, .int .i64 li[k].ver] 41) = V := ⟨_, rfl⟩
          rw [hV] at nn sn
          have n0 := nn.cell (j := 0) rfl
          have n1 := nn.cell (j := 1) rfl
          have n2 := nn.cell (j := 2) rfl
          have v0 := sn.2.2.1.cell (j := 0) rfl
          have v1 := sn.2.2.1.cell (j := 1) rfl
          have hb := item_bounds (hif _ (List.getElem_mem hlt))
          obtain ⟨w5, hrun, s5, p5, t5⟩ := sn.2.2.2.putI (hasc2.sublist (List.take_sublist k li)) (by rw [List.length_take]; omega) li[k] (by unfold maxLen; omega)
          rw [take_putK hasc2 hlt] at s5
          have hrun' : (Instr.mapUpdate 63 (.map (some (w.heap.size + 3))) (.string li[k].key) (.agg #[.string li[k].key, .string li[k].val, .int .i64 li[k].ver])).run Tryz.prog V = .ok () w5 := hrun
          have S5 := hid (sn.turn t5 p5 (by omega) s5)
          clear bn nn sn hrun s5 p5 t5 SR
          go_wp2
          go_roundg q
          case measure => omega
          case rel => exact ⟨k + 1, by omega, by go_num, S5⟩
    | succ q =>
      have hlt : k < ls.length := by omega
      have hlt' : (k : Int) < (ls.length : Int) := by omega
      have hk0 : (0 : Int) ≤ (k : Int) := by omega
      have hne : ls ≠ [] := by intro e; rw [e] at hlt; simp at hlt
      obtain ⟨b, off, rfl, hc⟩ := HA0.out.on SR.out.1.1 hne
      obtain ⟨y0, y1, y2⟩ := hc k hlt
      clear hc
      have bn := below_more (Below.refl wr.heap.size wr) (.cells #[.int .i64 ls[k].token, .int .i64 ls[k].last, .string ls[k].reply] 36)
      have nn : BlockIs (wr.alloc (.cells #[.int .i64 ls[k].token, .int .i64 ls[k].last, .string ls[k].reply] 36)) wr.heap.size 36 [.int .i64 ls[k].token, .int .i64 ls[k].last, .string ls[k].reply] := heap_alloc_new wr _
      have sn := SR.out.on bn
      obtain ⟨V, hV⟩ : ∃ V, wr.alloc (.cells #[.int .i64 ls[k].token, .int .i64 ls[k].last, .string ls[k].reply] 36) = V := ⟨_, rfl⟩
      rw [hV] at nn sn
      have n0 := nn.cell (j := 0) rfl
      have n1 := nn.cell (j := 1) rfl
      have n2 := nn.cell (j := 2) rfl
      have v0 := sn.2.2.1.cell (j := 0) rfl
      have v1 := sn.2.2.1.cell (j := 1) rfl
      have hb := session_bounds (hsf _ (List.getElem_mem hlt))
      obtain ⟨w5, hrun, s5, p5, t5⟩ := sn.2.2.2.putS (hasc.sublist (List.take_sublist k ls)) (by rw [List.length_take]; omega) ls[k] (by omega) (by omega)
      rw [take_putS hasc hlt] at s5
      have hrun' : (Instr.mapUpdate 62 (.map (some (w.heap.size + 2))) (.int .i64 ls[k].token) (.agg #[.int .i64 ls[k].token, .int .i64 ls[k].last, .string ls[k].reply])).run Tryz.prog V = .ok () w5 := hrun
      have S5 := hid (sn.turn t5 p5 (by omega) s5)
      clear bn nn sn hrun s5 p5 t5 SR
      go_wp2
      go_roundg q
      case measure => omega
      case rel => exact ⟨k + 1, by omega, by go_num, S5⟩
end Go.Proofs.YtohpkegbmhmjeaaGreatDoor
