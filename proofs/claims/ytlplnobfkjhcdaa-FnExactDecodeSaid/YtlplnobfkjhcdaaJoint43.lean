/-
  The walk of impl.Decode.
  The walk of laws.eqIntS: two lists of numbers compared.
-/
import Derived.Test.YtlplnobfkjhcdaaJoint42
import Derived.Test.YtlplnobfkjhcdaaJoint1
namespace Go.Proofs.Ytlplnobfkjhcdaa
open Go.RowKit Go.Sort

set_option maxRecDepth 1000000 in
set_option maxHeartbeats 1000000 in
theorem implDecode_any (s : ByteArray) (hs : s.size ≤ 1048576) (w : World) : Calls Try.prog 5 #[.string s] w fun e w' => decDid (readMsg s) w e w' := by
  have hX := below_more (Below.refl w.heap.size w) (.cells #[.int .i64 0, .int .i64 0, .int .i64 0, .int .i64 0, .int .i64 0, .int .i64 0, .int .i64 0, .bool false, .slice none 0 0, .slice none 0 0, .string ⟨#[]⟩, .bool false] 25)
  have P0 : Hid (BlockIs (w.alloc (.cells #[.int .i64 0, .int .i64 0, .int .i64 0, .int .i64 0, .int .i64 0, .int .i64 0, .int .i64 0, .bool false, .slice none 0 0, .slice none 0 0, .string ⟨#[]⟩, .bool false] 25)) w.heap.size 25 [.int .i64 0, .int .i64 0, .int .i64 0, .int .i64 0, .int .i64 0, .int .i64 0, .int .i64 0, .bool false, .slice none 0 0, .slice none 0 0, .string ⟨#[]⟩, .bool false]) := heap_alloc_new w _
  have B0 := hid hX
  clear hX
  obtain ⟨w0, hw0⟩ : ∃ W, w.alloc (.cells #[.int .i64 0, .int .i64 0, .int .i64 0, .int .i64 0, .int .i64 0, .int .i64 0, .int .i64 0, .bool false, .slice none 0 0, .slice none 0 0, .string ⟨#[]⟩, .bool false] 25) = W := ⟨_, rfl⟩
  rw [hw0] at P0 B0
  go_enter Try.func5, Try.ntmps5
  go_wp2_with fail
  refine (wholeMsg_read s hs w0).mono ?_
  intro e w1 hd
  clear hw0
  cases hm : readMsg s with
  | none =>
    rw [hm] at hd
    obtain ⟨rfl, hb⟩ := hd
    have P1 := hid (P0.out.on hb P0.out.lt)
    have B1 := hid (below_via B0.out hb)
    have HM := hid hm
    clear hb hm P0 B0
    obtain ⟨VF, hVF⟩ : ∃ W, w1.setRow w.heap.size #[.int .i64 0, .int .i64 0, .int .i64 0, .int .i64 0, .int .i64 0, .int .i64 0, .int .i64 0, .bool false, .slice none 0 0, .slice none 0 0, .string ⟨#[]⟩, .bool false] = W := ⟨_, rfl⟩
    have PF : BlockIs VF w.heap.size 25 [.int .i64 0, .int .i64 0, .int .i64 0, .int .i64 0, .int .i64 0, .int .i64 0, .int .i64 0, .bool false, .slice none 0 0, .slice none 0 0, .string ⟨#[]⟩, .bool false] := by rw [← hVF]; exact whole_block P1.out _
    have p0 := PF.cell (j := 0) rfl
    have p1 := PF.cell (j := 1) rfl
    have p2 := PF.cell (j := 2) rfl
    have p3 := PF.cell (j := 3) rfl
    have p4 := PF.cell (j := 4) rfl
    have p5 := PF.cell (j := 5) rfl
    have p6 := PF.cell (j := 6) rfl
    have p7 := PF.cell (j := 7) rfl
    have p8 := PF.cell (j := 8) rfl
    have p9 := PF.cell (j := 9) rfl
    have p10 := PF.cell (j := 10) rfl
    have p11 := PF.cell (j := 11) rfl
    clear PF
    go_wp2_with (first | (refine wpList_store_whole msg_size P1.out rfl rfl _ _ rfl _ rfl rfl rfl (by simp [Value.oneCell']) ?_; rw [hVF]) | fail)
    refine bodyPost_ret (v := .tuple #[.agg #[.int .i64 0, .int .i64 0, .int .i64 0, .int .i64 0, .int .i64 0, .int .i64 0, .int .i64 0, .bool false, .slice none 0 0, .slice none 0 0, .string ⟨#[]⟩, .bool false], .bool false]) (by simp [results, Try.results5, go_sem, p0, p1, p2, p3, p4, p5, p6, p7, p8, p9, p10, p11]) rfl ?_
    rw [HM.out]
    exact ⟨rfl, by rw [← hVF]; exact below_setRow B1.out (Nat.le_refl _) _⟩
  | some d =>
    rw [hm] at hd
    obtain ⟨va, vc, vb, vd, rfl, ⟨hre, hri⟩, hb⟩ := hd
    have P1 := hid (P0.out.on hb P0.out.lt)
    have B1 := hid (below_via B0.out hb)
    have RE1 := hid (row_down hre (show w.heap.size ≤ w0.heap.size from B0.out.size))
    have RI1 := hid (row_down hri (show w.heap.size ≤ w0.heap.size from B0.out.size))
    clear hre hri
    have HM := hid hm
    clear hb hm P0 B0
    obtain ⟨VF, hVF⟩ : ∃ W, w1.setRow w.heap.size #[.int .i64 d.kind, .int .i64 d.src, .int .i64 d.dst, .int .i64 d.term, .int .i64 d.index, .int .i64 d.logTerm, .int .i64 d.commit, .bool d.ok, .slice va d.ents.length vc, .slice vb d.conf.length vd, .string d.data, .bool d.last] = W := ⟨_, rfl⟩
    have PF : BlockIs VF w.heap.size 25 [.int .i64 d.kind, .int .i64 d.src, .int .i64 d.dst, .int .i64 d.term, .int .i64 d.index, .int .i64 d.logTerm, .int .i64 d.commit, .bool d.ok, .slice va d.ents.length vc, .slice vb d.conf.length vd, .string d.data, .bool d.last] := by rw [← hVF]; exact whole_block P1.out _
    have p0 := PF.cell (j := 0) rfl
    have p1 := PF.cell (j := 1) rfl
    have p2 := PF.cell (j := 2) rfl
    have p3 := PF.cell (j := 3) rfl
    have p4 := PF.cell (j := 4) rfl
    have p5 := PF.cell (j := 5) rfl
    have p6 := PF.cell (j := 6) rfl
    have p7 := PF.cell (j := 7) rfl
    have p8 := PF.cell (j := 8) rfl
    have p9 := PF.cell (j := 9) rfl
    have p10 := PF.cell (j := 10) rfl
    have p11 := PF.cell (j := 11) rfl
    clear PF
    go_wp2_with (first | (refine wpList_store_whole msg_size P1.out rfl rfl _ _ rfl _ rfl rfl rfl (by simp [Value.oneCell']) ?_; rw [hVF]) | fail)
    refine bodyPost_ret (v := .tuple #[.agg #[.int .i64 d.kind, .int .i64 d.src, .int .i64 d.dst, .int .i64 d.term, .int .i64 d.index, .int .i64 d.logTerm, .int .i64 d.commit, .bool d.ok, .slice va d.ents.length vc, .slice vb d.conf.length vd, .string d.data, .bool d.last], .bool true]) (by simp [results, Try.results5, go_sem, p0, p1, p2, p3, p4, p5, p6, p7, p8, p9, p10, p11]) rfl ?_
    rw [HM.out]
    refine ⟨va, vc, vb, vd, rfl, ⟨?_, ?_⟩, by rw [← hVF]; exact below_setRow B1.out (Nat.le_refl _) _⟩
    · rw [← hVF]; exact row_ext RE1.out fun g cs h9 => whole_other h9 (fun e => by rw [← e] at h9; exact absurd (block_one h9 P1.out).1 (by decide)) _
    · rw [← hVF]; exact row_ext RI1.out fun g cs h9 => whole_other h9 (fun e => by rw [← e] at h9; exact absurd (block_one h9 P1.out).1 (by decide)) _
end Go.Proofs.Ytlplnobfkjhcdaa

namespace Go.Proofs.Ytlplnobfkjhcdaa
open Go.RowKit

set_option maxRecDepth 1000000 in
theorem eqIntS_same (ao bo : Option Addr) (zs : List Int) (cap cap' : Nat) (hl : zs.length ≤ 140737488355328) (w : World) (ha : IntsAt w ao zs) (hb : IntsAt w bo zs) :
    Calls Try.prog 18 #[.slice ao zs.length cap, .slice bo zs.length cap'] w fun e w' => e = .returned (.bool true) ∧ Below w.heap.size w w' := by
  have HA := hid ha
  have HB := hid hb
  clear ha hb
  go_enter Try.func18, Try.ntmps18
  go_wp2
  go_loopg [5] zs.length (fun q i wr => ∃ (k nq : Nat), wr = w.drewN nq ∧ k + q = zs.length ∧ i = .int .i64 k)
  case atStart => exact ⟨0, 0, rfl, by omega, rfl⟩
  case round =>
    obtain ⟨k, nq, rfl, hkg, rfl⟩ := hrel
    cases gk with
    | zero =>
      have hlt : ¬ (k : Int) < (zs.length : Int) := by omega
      go_wp2
      go_ret
      exact ⟨rfl, below_drewN (Below.refl _ _) _⟩
    | succ q =>
      have hlt : k < zs.length := by omega
      have hlt' : (k : Int) < (zs.length : Int) := by omega
      have hne : zs ≠ [] := by intro e; rw [e] at hlt; simp at hlt
      obtain ⟨b, off, rfl, hc⟩ := HA.out hne
      obtain ⟨b', off', rfl, hc'⟩ := HB.out hne
      have x0 := hc k hlt
      have y0 := hc' k hlt
      clear hc hc'
      go_wp2
      go_quiet (fail)
      go_wp2
      go_roundg q
      case measure => omega
      case rel => exact ⟨k + 1, _, rfl, by omega, by go_num⟩
end Go.Proofs.Ytlplnobfkjhcdaa
