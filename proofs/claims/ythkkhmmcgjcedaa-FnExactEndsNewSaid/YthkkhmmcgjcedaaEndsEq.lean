/-
  The walk of laws.eqStreamS over two new streams.
-/
import Derived.Test.YthkkhmmcgjcedaaEndsNil
import Derived.Test.YthkkhmmcgjcedaaEqStr
import Derived.Test.YthkkhmmcgjcedaaAnyChain
namespace Go.Proofs.Ythkkhmmcgjcedaa
open Go.RowKit

theorem load_strO {W : World} {b off : Nat} {cs : List Value} (hc : ∀ j v, cs[j]? = some v → W.cell? ⟨b, off + j, none⟩ = some v) (hn : cs.length = 13) : (Instr.loadAt 42 (.pointer (some ⟨b, off, none⟩))).run Try.prog W = .ok (.agg cs.toArray) W :=
  run_loadAt_mid W b off 42 cs _ hc Try.underlying42 rfl (by rw [str_size, hn])
theorem cells_mid {W : World} {b off : Nat} {t : TypeId} {pre cs post : List Value} (h : BlockIs W b t (pre ++ (cs ++ post))) (ho : pre.length = off) : ∀ j v, cs[j]? = some v → W.cell? ⟨b, off + j, none⟩ = some v := by
  intro j v hv
  subst ho
  refine h.cell ?_
  have hlt := (List.getElem?_eq_some_iff.1 hv).1
  rw [List.getElem?_append_right (by omega), Nat.add_sub_cancel_left, List.getElem?_append_left hlt]
  exact hv
set_option maxRecDepth 1000000 in
set_option maxHeartbeats 2000000 in
theorem eqStreamS_two (p p' : Nat) (x y : StrD) (hx : x.late = []) (hy : y.late = []) (w : World) (h : BlockIs w p 42 [.int .i64 x.st, .int .i64 x.iss, .int .i64 x.una, .int .i64 x.rcv, .string x.wait, .int .i64 x.sent, .int .i64 x.fin, .bool x.pf, .string x.inn, .slice none 0 0, .bool x.owe, .int .i64 x.due, .int .i64 x.times, .int .i64 y.st, .int .i64 y.iss, .int .i64 y.una, .int .i64 y.rcv, .string y.wait, .int .i64 y.sent, .int .i64 y.fin, .bool y.pf, .string y.inn, .slice none 0 0, .bool y.owe, .int .i64 y.due, .int .i64 y.times]) (h' : BlockIs w p' 42 [.int .i64 x.st, .int .i64 x.iss, .int .i64 x.una, .int .i64 x.rcv, .string x.wait, .int .i64 x.sent, .int .i64 x.fin, .bool x.pf, .string x.inn, .slice none 0 0, .bool x.owe, .int .i64 x.due, .int .i64 x.times, .int .i64 y.st, .int .i64 y.iss, .int .i64 y.una, .int .i64 y.rcv, .string y.wait, .int .i64 y.sent, .int .i64 y.fin, .bool y.pf, .string y.inn, .slice none 0 0, .bool y.owe, .int .i64 y.due, .int .i64 y.times]) : Calls Try.prog 16 #[.slice (some ⟨p, 0, none⟩) 2 2, .slice (some ⟨p', 0, none⟩) 2 2] w fun e w' => e = .returned (.bool true) ∧ Below w.heap.size w w' := by
  have H := hid h
  have H' := hid h'
  have CE : Hid (∀ (d : StrD), d.late = [] → ∀ W, Calls Try.prog 29 #[.agg #[.int .i64 d.st, .int .i64 d.iss, .int .i64 d.una, .int .i64 d.rcv, .string d.wait, .int .i64 d.sent, .int .i64 d.fin, .bool d.pf, .string d.inn, .slice none 0 0, .bool d.owe, .int .i64 d.due, .int .i64 d.times], .agg #[.int .i64 d.st, .int .i64 d.iss, .int .i64 d.una, .int .i64 d.rcv, .string d.wait, .int .i64 d.sent, .int .i64 d.fin, .bool d.pf, .string d.inn, .slice none 0 0, .bool d.owe, .int .i64 d.due, .int .i64 d.times]] W fun e w' => e = .returned (.bool true) ∧ Below W.heap.size W w') := by
    intro d hd W
    have := eqStream_same d none none 0 0 (by rw [hd]; simp) W (fun h0 => absurd hd h0) (fun h0 => absurd hd h0)
    rw [hd] at this
    exact this
  have HX := hid hx
  have HY := hid hy
  clear h h' hx hy
  go_enter Try.func16, Try.ntmps16
  go_wp2
  go_loopg [5] 2 (fun n i wr => Hid (Below w.heap.size w wr) ∧ ∃ k : Nat, k + n = 2 ∧ i = .int .i64 k)
  case atStart => exact ⟨(show Below _ _ _ from Below.refl _ _), 0, rfl, rfl⟩
  case round =>
    obtain ⟨BR, k, hk, rfl⟩ := hrel
    obtain rfl | rfl | rfl : k = 0 ∨ k = 1 ∨ k = 2 := by omega
    · go_wp2
      refine wp_region_chain_b (N := 27) (by kernel_rfl) (by kernel_rfl) rfl (by kernel_rfl) [(0, .slice (some ⟨p, 0, none⟩) 2 2), (1, .slice (some ⟨p', 0, none⟩) 2 2), (5, .int .i64 0)] (by intro p hp; simp only [List.mem_cons, List.not_mem_nil, or_false] at hp; rcases hp with rfl | rfl | rfl <;> rfl) (fun W => Below w.heap.size w W) (fun j v _ _ => match j with | 0 => v = .slice (some ⟨p, 0, none⟩) 2 2 | 1 => v = .int .i64 0 | 2 => v = .pointer (some ⟨p, 0, none⟩) | 3 => v = .agg #[.int .i64 x.st, .int .i64 x.iss, .int .i64 x.una, .int .i64 x.rcv, .string x.wait, .int .i64 x.sent, .int .i64 x.fin, .bool x.pf, .string x.inn, .slice none 0 0, .bool x.owe, .int .i64 x.due, .int .i64 x.times] | 4 => v = .slice (some ⟨p', 0, none⟩) 2 2 | 5 => v = .int .i64 0 | 6 => v = .pointer (some ⟨p', 0, none⟩) | 7 => v = .agg #[.int .i64 x.st, .int .i64 x.iss, .int .i64 x.una, .int .i64 x.rcv, .string x.wait, .int .i64 x.sent, .int .i64 x.fin, .bool x.pf, .string x.inn, .slice none 0 0, .bool x.owe, .int .i64 x.due, .int .i64 x.times] | 8 => v = .bool true | 9 => v = .bool false | _ => True) (fun i => i) (fun _ _ => false) (fun _ _ _ => True) (fun q9 W => match q9 with | 0 => True | _ => True) (fun m k => decide ((m, k) ∈ ([] : List (Nat × Nat)))) ?_ (fun _ => 0) (by kernel_rfl) (fun _ _ => rfl) ?_ (below_via BR.out (below_drewN (Below.refl _ _) 1)) (fun q9 => match q9 with | 0 => trivial | _ + 1 => trivial) ?_ ?_
      · intro i m x y hen hxy hm
        match m, hen, hm with
        | 0, hen, hm =>
          exact trivial
        | n + 1, _, _ => exact trivial
      · intro i j v u x y hsz hij hdd hwt hxy hg
        match j, hg with
        | 0, hg => exact hg
        | 1, hg => exact hg
        | 2, hg => exact hg
        | 3, hg => exact hg
        | 4, hg => exact hg
        | 5, hg => exact hg
        | 6, hg => exact hg
        | 7, hg => exact hg
        | 8, hg => exact hg
        | 9, hg => exact hg
        | n + 10, _ => exact trivial
      · refine ⟨?_, ?_, ?_, ?_, ?_, ?_, ?_, ?_, ?_, ?_, trivial⟩
        · intro A W hC hI hg hb
          have h0 : A.eval (.tmp 0) = .slice (some ⟨p, 0, none⟩) 2 2 := hb 0 _ (.head _) (chain_of (by kernel_rfl))
          exact does_value (v := .slice (some ⟨p, 0, none⟩) 2 2) (w' := W) (by simp only [execOp, h0]; simp [go_sem]) ⟨rfl, hC, trivial⟩
        · intro A W hC hI hg hb
          have h5 : A.eval (.tmp 5) = .int .i64 0 := hb 5 _ (.tail _ (.tail _ (.head _))) (chain_of (by kernel_rfl))
          exact does_value (v := .int .i64 0) (w' := W) (by simp only [execOp, h5]; simp [go_sem]) ⟨rfl, hC, trivial⟩
        · intro A W hC hI hg hb
          have h17 : A.eval (.tmp 17) = .slice (some ⟨p, 0, none⟩) 2 2 := hg 0 17 (by decide) rfl (by simp [Op.operands]) (by kernel_rfl) (by kernel_rfl) rfl
          have h18 : A.eval (.tmp 18) = .int .i64 0 := hg 1 18 (by decide) rfl (by simp [Op.operands]) (by kernel_rfl) (by kernel_rfl) rfl
          exact does_value (v := .pointer (some ⟨p, 0, none⟩)) (w' := W) (by simp only [execOp, h17, h18]; simp [go_sem]) ⟨rfl, hC, trivial⟩
        · intro A W hC hI hg hb
          have h19 : A.eval (.tmp 19) = .pointer (some ⟨p, 0, none⟩) := hg 2 19 (by decide) rfl (by simp [Op.operands]) (by kernel_rfl) (by kernel_rfl) rfl
          have hm : BlockIs W _ _ ([] ++ ([.int .i64 x.st, .int .i64 x.iss, .int .i64 x.una, .int .i64 x.rcv, .string x.wait, .int .i64 x.sent, .int .i64 x.fin, .bool x.pf, .string x.inn, .slice none 0 0, .bool x.owe, .int .i64 x.due, .int .i64 x.times] ++ [.int .i64 y.st, .int .i64 y.iss, .int .i64 y.una, .int .i64 y.rcv, .string y.wait, .int .i64 y.sent, .int .i64 y.fin, .bool y.pf, .string y.inn, .slice none 0 0, .bool y.owe, .int .i64 y.due, .int .i64 y.times])) := H.out.on hC H.out.lt
          have hld : (Instr.loadAt 42 (.pointer (some ⟨p, 0, none⟩))).run Try.prog W = .ok (.agg #[.int .i64 x.st, .int .i64 x.iss, .int .i64 x.una, .int .i64 x.rcv, .string x.wait, .int .i64 x.sent, .int .i64 x.fin, .bool x.pf, .string x.inn, .slice none 0 0, .bool x.owe, .int .i64 x.due, .int .i64 x.times]) W := load_strO (cs := [.int .i64 x.st, .int .i64 x.iss, .int .i64 x.una, .int .i64 x.rcv, .string x.wait, .int .i64 x.sent, .int .i64 x.fin, .bool x.pf, .string x.inn, .slice none 0 0, .bool x.owe, .int .i64 x.due, .int .i64 x.times]) (cells_mid hm rfl) rfl
          exact does_value (v := .agg #[.int .i64 x.st, .int .i64 x.iss, .int .i64 x.una, .int .i64 x.rcv, .string x.wait, .int .i64 x.sent, .int .i64 x.fin, .bool x.pf, .string x.inn, .slice none 0 0, .bool x.owe, .int .i64 x.due, .int .i64 x.times]) (w' := W) (by simp only [execOp, h19, hld, Sem.run_bind, Sem.run_pure, Result.andThen_ok]) ⟨rfl, hC, trivial⟩
        · intro A W hC hI hg hb
          have h1 : A.eval (.tmp 1) = .slice (some ⟨p', 0, none⟩) 2 2 := hb 1 _ (.tail _ (.head _)) (chain_of (by kernel_rfl))
          exact does_value (v := .slice (some ⟨p', 0, none⟩) 2 2) (w' := W) (by simp only [execOp, h1]; simp [go_sem]) ⟨rfl, hC, trivial⟩
        · intro A W hC hI hg hb
          have h5 : A.eval (.tmp 5) = .int .i64 0 := hb 5 _ (.tail _ (.tail _ (.head _))) (chain_of (by kernel_rfl))
          exact does_value (v := .int .i64 0) (w' := W) (by simp only [execOp, h5]; simp [go_sem]) ⟨rfl, hC, trivial⟩
        · intro A W hC hI hg hb
          have h21 : A.eval (.tmp 21) = .slice (some ⟨p', 0, none⟩) 2 2 := hg 4 21 (by decide) rfl (by simp [Op.operands]) (by kernel_rfl) (by kernel_rfl) rfl
          have h22 : A.eval (.tmp 22) = .int .i64 0 := hg 5 22 (by decide) rfl (by simp [Op.operands]) (by kernel_rfl) (by kernel_rfl) rfl
          exact does_value (v := .pointer (some ⟨p', 0, none⟩)) (w' := W) (by simp only [execOp, h21, h22]; simp [go_sem]) ⟨rfl, hC, trivial⟩
        · intro A W hC hI hg hb
          have h23 : A.eval (.tmp 23) = .pointer (some ⟨p', 0, none⟩) := hg 6 23 (by decide) rfl (by simp [Op.operands]) (by kernel_rfl) (by kernel_rfl) rfl
          have hm : BlockIs W _ _ ([] ++ ([.int .i64 x.st, .int .i64 x.iss, .int .i64 x.una, .int .i64 x.rcv, .string x.wait, .int .i64 x.sent, .int .i64 x.fin, .bool x.pf, .string x.inn, .slice none 0 0, .bool x.owe, .int .i64 x.due, .int .i64 x.times] ++ [.int .i64 y.st, .int .i64 y.iss, .int .i64 y.una, .int .i64 y.rcv, .string y.wait, .int .i64 y.sent, .int .i64 y.fin, .bool y.pf, .string y.inn, .slice none 0 0, .bool y.owe, .int .i64 y.due, .int .i64 y.times])) := H'.out.on hC H'.out.lt
          have hld : (Instr.loadAt 42 (.pointer (some ⟨p', 0, none⟩))).run Try.prog W = .ok (.agg #[.int .i64 x.st, .int .i64 x.iss, .int .i64 x.una, .int .i64 x.rcv, .string x.wait, .int .i64 x.sent, .int .i64 x.fin, .bool x.pf, .string x.inn, .slice none 0 0, .bool x.owe, .int .i64 x.due, .int .i64 x.times]) W := load_strO (cs := [.int .i64 x.st, .int .i64 x.iss, .int .i64 x.una, .int .i64 x.rcv, .string x.wait, .int .i64 x.sent, .int .i64 x.fin, .bool x.pf, .string x.inn, .slice none 0 0, .bool x.owe, .int .i64 x.due, .int .i64 x.times]) (cells_mid hm rfl) rfl
          exact does_value (v := .agg #[.int .i64 x.st, .int .i64 x.iss, .int .i64 x.una, .int .i64 x.rcv, .string x.wait, .int .i64 x.sent, .int .i64 x.fin, .bool x.pf, .string x.inn, .slice none 0 0, .bool x.owe, .int .i64 x.due, .int .i64 x.times]) (w' := W) (by simp only [execOp, h23, hld, Sem.run_bind, Sem.run_pure, Result.andThen_ok]) ⟨rfl, hC, trivial⟩
        · intro A W hC hI hg hb
          have h20 : A.eval (.tmp 20) = .agg #[.int .i64 x.st, .int .i64 x.iss, .int .i64 x.una, .int .i64 x.rcv, .string x.wait, .int .i64 x.sent, .int .i64 x.fin, .bool x.pf, .string x.inn, .slice none 0 0, .bool x.owe, .int .i64 x.due, .int .i64 x.times] := hg 3 20 (by decide) rfl (by simp [Op.operands, Call.operands]) (by kernel_rfl) (by kernel_rfl) rfl
          have h24 : A.eval (.tmp 24) = .agg #[.int .i64 x.st, .int .i64 x.iss, .int .i64 x.una, .int .i64 x.rcv, .string x.wait, .int .i64 x.sent, .int .i64 x.fin, .bool x.pf, .string x.inn, .slice none 0 0, .bool x.owe, .int .i64 x.due, .int .i64 x.times] := hg 7 24 (by decide) rfl (by simp [Op.operands, Call.operands]) (by kernel_rfl) (by kernel_rfl) rfl
          simp [go_sem] at h20 h24
          refine does_enter (f := 29) (args := #[.agg #[.int .i64 x.st, .int .i64 x.iss, .int .i64 x.una, .int .i64 x.rcv, .string x.wait, .int .i64 x.sent, .int .i64 x.fin, .bool x.pf, .string x.inn, .slice none 0 0, .bool x.owe, .int .i64 x.due, .int .i64 x.times], .agg #[.int .i64 x.st, .int .i64 x.iss, .int .i64 x.una, .int .i64 x.rcv, .string x.wait, .int .i64 x.sent, .int .i64 x.fin, .bool x.pf, .string x.inn, .slice none 0 0, .bool x.owe, .int .i64 x.due, .int .i64 x.times]]) (w' := W) (by simp [go_sem, h20, h24]) ?_
          refine (CE.out x HX.out W).mono ?_
          rintro e W' ⟨rfl, hb⟩
          exact ⟨_, rfl, rfl, below_via hC hb, trivial⟩
        · intro A W hC hI hg hb
          have h25 : A.eval (.tmp 25) = .bool true := hg 8 25 (by decide) rfl (by simp [Op.operands]) (by kernel_rfl) (by kernel_rfl) rfl
          exact does_value (v := .bool false) (w' := W) (by simp only [execOp, h25]; simp [go_sem]) ⟨rfl, hC, trivial⟩
      · intro vs wE hC hI hg
        have h9 : vs 9 = .bool false := hg 9 (by decide) (fun k => by simp)
        clear hg hI
        change Exit.then _ _ _ (laidBy _ vs _ 10 _) wE
        simp only [laidBy, if_true, dstAt, List.getElem?_toArray, List.getElem?_cons_succ, List.getElem?_cons_zero, Option.bind_some]
        simp only [Act.put, List.setIfInBounds_toArray, List.set_cons_succ, List.set_cons_zero]
        rw [h9]
        have BL := hid hC
        clear hC h9
        go_wp2
        go_roundg (gk - 1)
        case measure => omega
        case rel => exact ⟨BL, 1, by omega, by go_num⟩
    · go_wp2
      refine wp_region_chain_b (N := 27) (by kernel_rfl) (by kernel_rfl) rfl (by kernel_rfl) [(0, .slice (some ⟨p, 0, none⟩) 2 2), (1, .slice (some ⟨p', 0, none⟩) 2 2), (5, .int .i64 1)] (by intro p hp; simp only [List.mem_cons, List.not_mem_nil, or_false] at hp; rcases hp with rfl | rfl | rfl <;> rfl) (fun W => Below w.heap.size w W) (fun j v _ _ => match j with | 0 => v = .slice (some ⟨p, 0, none⟩) 2 2 | 1 => v = .int .i64 1 | 2 => v = .pointer (some ⟨p, 13, none⟩) | 3 => v = .agg #[.int .i64 y.st, .int .i64 y.iss, .int .i64 y.una, .int .i64 y.rcv, .string y.wait, .int .i64 y.sent, .int .i64 y.fin, .bool y.pf, .string y.inn, .slice none 0 0, .bool y.owe, .int .i64 y.due, .int .i64 y.times] | 4 => v = .slice (some ⟨p', 0, none⟩) 2 2 | 5 => v = .int .i64 1 | 6 => v = .pointer (some ⟨p', 13, none⟩) | 7 => v = .agg #[.int .i64 y.st, .int .i64 y.iss, .int .i64 y.una, .int .i64 y.rcv, .string y.wait, .int .i64 y.sent, .int .i64 y.fin, .bool y.pf, .string y.inn, .slice none 0 0, .bool y.owe, .int .i64 y.due, .int .i64 y.times] | 8 => v = .bool true | 9 => v = .bool false | _ => True) (fun i => i) (fun _ _ => false) (fun _ _ _ => True) (fun q9 W => match q9 with | 0 => True | _ => True) (fun m k => decide ((m, k) ∈ ([] : List (Nat × Nat)))) ?_ (fun _ => 0) (by kernel_rfl) (fun _ _ => rfl) ?_ (below_via BR.out (below_drewN (Below.refl _ _) 1)) (fun q9 => match q9 with | 0 => trivial | _ + 1 => trivial) ?_ ?_
      · intro i m x y hen hxy hm
        match m, hen, hm with
        | 0, hen, hm =>
          exact trivial
        | n + 1, _, _ => exact trivial
      · intro i j v u x y hsz hij hdd hwt hxy hg
        match j, hg with
        | 0, hg => exact hg
        | 1, hg => exact hg
        | 2, hg => exact hg
        | 3, hg => exact hg
        | 4, hg => exact hg
        | 5, hg => exact hg
        | 6, hg => exact hg
        | 7, hg => exact hg
        | 8, hg => exact hg
        | 9, hg => exact hg
        | n + 10, _ => exact trivial
      · refine ⟨?_, ?_, ?_, ?_, ?_, ?_, ?_, ?_, ?_, ?_, trivial⟩
        · intro A W hC hI hg hb
          have h0 : A.eval (.tmp 0) = .slice (some ⟨p, 0, none⟩) 2 2 := hb 0 _ (.head _) (chain_of (by kernel_rfl))
          exact does_value (v := .slice (some ⟨p, 0, none⟩) 2 2) (w' := W) (by simp only [execOp, h0]; simp [go_sem]) ⟨rfl, hC, trivial⟩
        · intro A W hC hI hg hb
          have h5 : A.eval (.tmp 5) = .int .i64 1 := hb 5 _ (.tail _ (.tail _ (.head _))) (chain_of (by kernel_rfl))
          exact does_value (v := .int .i64 1) (w' := W) (by simp only [execOp, h5]; simp [go_sem]) ⟨rfl, hC, trivial⟩
        · intro A W hC hI hg hb
          have h17 : A.eval (.tmp 17) = .slice (some ⟨p, 0, none⟩) 2 2 := hg 0 17 (by decide) rfl (by simp [Op.operands]) (by kernel_rfl) (by kernel_rfl) rfl
          have h18 : A.eval (.tmp 18) = .int .i64 1 := hg 1 18 (by decide) rfl (by simp [Op.operands]) (by kernel_rfl) (by kernel_rfl) rfl
          exact does_value (v := .pointer (some ⟨p, 13, none⟩)) (w' := W) (by simp only [execOp, h17, h18]; simp [go_sem]) ⟨rfl, hC, trivial⟩
        · intro A W hC hI hg hb
          have h19 : A.eval (.tmp 19) = .pointer (some ⟨p, 13, none⟩) := hg 2 19 (by decide) rfl (by simp [Op.operands]) (by kernel_rfl) (by kernel_rfl) rfl
          have hm : BlockIs W _ _ ([.int .i64 x.st, .int .i64 x.iss, .int .i64 x.una, .int .i64 x.rcv, .string x.wait, .int .i64 x.sent, .int .i64 x.fin, .bool x.pf, .string x.inn, .slice none 0 0, .bool x.owe, .int .i64 x.due, .int .i64 x.times] ++ ([.int .i64 y.st, .int .i64 y.iss, .int .i64 y.una, .int .i64 y.rcv, .string y.wait, .int .i64 y.sent, .int .i64 y.fin, .bool y.pf, .string y.inn, .slice none 0 0, .bool y.owe, .int .i64 y.due, .int .i64 y.times] ++ [])) := H.out.on hC H.out.lt
          have hld : (Instr.loadAt 42 (.pointer (some ⟨p, 13, none⟩))).run Try.prog W = .ok (.agg #[.int .i64 y.st, .int .i64 y.iss, .int .i64 y.una, .int .i64 y.rcv, .string y.wait, .int .i64 y.sent, .int .i64 y.fin, .bool y.pf, .string y.inn, .slice none 0 0, .bool y.owe, .int .i64 y.due, .int .i64 y.times]) W := load_strO (cs := [.int .i64 y.st, .int .i64 y.iss, .int .i64 y.una, .int .i64 y.rcv, .string y.wait, .int .i64 y.sent, .int .i64 y.fin, .bool y.pf, .string y.inn, .slice none 0 0, .bool y.owe, .int .i64 y.due, .int .i64 y.times]) (cells_mid hm rfl) rfl
          exact does_value (v := .agg #[.int .i64 y.st, .int .i64 y.iss, .int .i64 y.una, .int .i64 y.rcv, .string y.wait, .int .i64 y.sent, .int .i64 y.fin, .bool y.pf, .string y.inn, .slice none 0 0, .bool y.owe, .int .i64 y.due, .int .i64 y.times]) (w' := W) (by simp only [execOp, h19, hld, Sem.run_bind, Sem.run_pure, Result.andThen_ok]) ⟨rfl, hC, trivial⟩
        · intro A W hC hI hg hb
          have h1 : A.eval (.tmp 1) = .slice (some ⟨p', 0, none⟩) 2 2 := hb 1 _ (.tail _ (.head _)) (chain_of (by kernel_rfl))
          exact does_value (v := .slice (some ⟨p', 0, none⟩) 2 2) (w' := W) (by simp only [execOp, h1]; simp [go_sem]) ⟨rfl, hC, trivial⟩
        · intro A W hC hI hg hb
          have h5 : A.eval (.tmp 5) = .int .i64 1 := hb 5 _ (.tail _ (.tail _ (.head _))) (chain_of (by kernel_rfl))
          exact does_value (v := .int .i64 1) (w' := W) (by simp only [execOp, h5]; simp [go_sem]) ⟨rfl, hC, trivial⟩
        · intro A W hC hI hg hb
          have h21 : A.eval (.tmp 21) = .slice (some ⟨p', 0, none⟩) 2 2 := hg 4 21 (by decide) rfl (by simp [Op.operands]) (by kernel_rfl) (by kernel_rfl) rfl
          have h22 : A.eval (.tmp 22) = .int .i64 1 := hg 5 22 (by decide) rfl (by simp [Op.operands]) (by kernel_rfl) (by kernel_rfl) rfl
          exact does_value (v := .pointer (some ⟨p', 13, none⟩)) (w' := W) (by simp only [execOp, h21, h22]; simp [go_sem]) ⟨rfl, hC, trivial⟩
        · intro A W hC hI hg hb
          have h23 : A.eval (.tmp 23) = .pointer (some ⟨p', 13, none⟩) := hg 6 23 (by decide) rfl (by simp [Op.operands]) (by kernel_rfl) (by kernel_rfl) rfl
          have hm : BlockIs W _ _ ([.int .i64 x.st, .int .i64 x.iss, .int .i64 x.una, .int .i64 x.rcv, .string x.wait, .int .i64 x.sent, .int .i64 x.fin, .bool x.pf, .string x.inn, .slice none 0 0, .bool x.owe, .int .i64 x.due, .int .i64 x.times] ++ ([.int .i64 y.st, .int .i64 y.iss, .int .i64 y.una, .int .i64 y.rcv, .string y.wait, .int .i64 y.sent, .int .i64 y.fin, .bool y.pf, .string y.inn, .slice none 0 0, .bool y.owe, .int .i64 y.due, .int .i64 y.times] ++ [])) := H'.out.on hC H'.out.lt
          have hld : (Instr.loadAt 42 (.pointer (some ⟨p', 13, none⟩))).run Try.prog W = .ok (.agg #[.int .i64 y.st, .int .i64 y.iss, .int .i64 y.una, .int .i64 y.rcv, .string y.wait, .int .i64 y.sent, .int .i64 y.fin, .bool y.pf, .string y.inn, .slice none 0 0, .bool y.owe, .int .i64 y.due, .int .i64 y.times]) W := load_strO (cs := [.int .i64 y.st, .int .i64 y.iss, .int .i64 y.una, .int .i64 y.rcv, .string y.wait, .int .i64 y.sent, .int .i64 y.fin, .bool y.pf, .string y.inn, .slice none 0 0, .bool y.owe, .int .i64 y.due, .int .i64 y.times]) (cells_mid hm rfl) rfl
          exact does_value (v := .agg #[.int .i64 y.st, .int .i64 y.iss, .int .i64 y.una, .int .i64 y.rcv, .string y.wait, .int .i64 y.sent, .int .i64 y.fin, .bool y.pf, .string y.inn, .slice none 0 0, .bool y.owe, .int .i64 y.due, .int .i64 y.times]) (w' := W) (by simp only [execOp, h23, hld, Sem.run_bind, Sem.run_pure, Result.andThen_ok]) ⟨rfl, hC, trivial⟩
        · intro A W hC hI hg hb
          have h20 : A.eval (.tmp 20) = .agg #[.int .i64 y.st, .int .i64 y.iss, .int .i64 y.una, .int .i64 y.rcv, .string y.wait, .int .i64 y.sent, .int .i64 y.fin, .bool y.pf, .string y.inn, .slice none 0 0, .bool y.owe, .int .i64 y.due, .int .i64 y.times] := hg 3 20 (by decide) rfl (by simp [Op.operands, Call.operands]) (by kernel_rfl) (by kernel_rfl) rfl
          have h24 : A.eval (.tmp 24) = .agg #[.int .i64 y.st, .int .i64 y.iss, .int .i64 y.una, .int .i64 y.rcv, .string y.wait, .int .i64 y.sent, .int .i64 y.fin, .bool y.pf, .string y.inn, .slice none 0 0, .bool y.owe, .int .i64 y.due, .int .i64 y.times] := hg 7 24 (by decide) rfl (by simp [Op.operands, Call.operands]) (by kernel_rfl) (by kernel_rfl) rfl
          simp [go_sem] at h20 h24
          refine does_enter (f := 29) (args := #[.agg #[.int .i64 y.st, .int .i64 y.iss, .int .i64 y.una, .int .i64 y.rcv, .string y.wait, .int .i64 y.sent, .int .i64 y.fin, .bool y.pf, .string y.inn, .slice none 0 0, .bool y.owe, .int .i64 y.due, .int .i64 y.times], .agg #[.int .i64 y.st, .int .i64 y.iss, .int .i64 y.una, .int .i64 y.rcv, .string y.wait, .int .i64 y.sent, .int .i64 y.fin, .bool y.pf, .string y.inn, .slice none 0 0, .bool y.owe, .int .i64 y.due, .int .i64 y.times]]) (w' := W) (by simp [go_sem, h20, h24]) ?_
          refine (CE.out y HY.out W).mono ?_
          rintro e W' ⟨rfl, hb⟩
          exact ⟨_, rfl, rfl, below_via hC hb, trivial⟩
        · intro A W hC hI hg hb
          have h25 : A.eval (.tmp 25) = .bool true := hg 8 25 (by decide) rfl (by simp [Op.operands]) (by kernel_rfl) (by kernel_rfl) rfl
          exact does_value (v := .bool false) (w' := W) (by simp only [execOp, h25]; simp [go_sem]) ⟨rfl, hC, trivial⟩
      · intro vs wE hC hI hg
        have h9 : vs 9 = .bool false := hg 9 (by decide) (fun k => by simp)
        clear hg hI
        change Exit.then _ _ _ (laidBy _ vs _ 10 _) wE
        simp only [laidBy, if_true, dstAt, List.getElem?_toArray, List.getElem?_cons_succ, List.getElem?_cons_zero, Option.bind_some]
        simp only [Act.put, List.setIfInBounds_toArray, List.set_cons_succ, List.set_cons_zero]
        rw [h9]
        have BL := hid hC
        clear hC h9
        go_wp2
        go_roundg (gk - 1)
        case measure => omega
        case rel => exact ⟨BL, 2, by omega, by go_num⟩
    · go_wp2
      go_ret
      exact ⟨rfl, BR.out⟩
end Go.Proofs.Ythkkhmmcgjcedaa
