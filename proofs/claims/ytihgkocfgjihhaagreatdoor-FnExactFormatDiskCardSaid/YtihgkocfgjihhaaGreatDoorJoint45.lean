/-
  The walk of spec.l07Frames: the frames of a log's entries.
-/
import Derived.Test.YtihgkocfgjihhaaGreatDoorJoint44
import Derived.Test.YtihgkocfgjihhaaGreatDoorJoint1
namespace Go.Proofs.YtihgkocfgjihhaaGreatDoor
open Go.RowKit Go.Sort

theorem bytes_news {w : World} {g : Nat} {F : ByteArray} (h : ∀ j (hj : j < F.size), w.cell? ⟨g, j, none⟩ = some (.int .u8 (F[j].toNat : Int))) : ∀ j u, (cs F.data.toList)[j]? = some u → w.cell? ((⟨g, 0, none⟩ : Addr).add j) = some u := by
  intro j u hu
  simp only [cs, List.getElem?_map, Option.map_eq_some_iff] at hu
  obtain ⟨b, hb, rfl⟩ := hu
  obtain ⟨hj, rfl⟩ := List.getElem?_eq_some_iff.1 hb
  have hj' : j < F.size := by simpa using hj
  rw [add_at, h j hj']
  simp
  rfl
theorem cs_ones (l : List UInt8) : ∀ u ∈ cs l, u.oneCell' = true := by
  intro u hu
  simp only [cs, List.mem_map] at hu
  obtain ⟨b, _, rfl⟩ := hu
  rfl
theorem rows_below {x y : World} {base size n : Nat} {t : TypeId} {v : Value} {xs : List Value} (h : x.ownsRow base t size v n xs) (hb : Below x.heap.size x y) : y.ownsRow base t size v n xs := by
  refine ⟨h.1, h.2.imp id ?_⟩
  rintro ⟨g, cap, cur, a, b, c, r⟩
  have hk : BlockIs x g t cur.toList := by unfold BlockIs; rw [c]
  have := hk.on hb hk.lt
  unfold BlockIs at this
  exact ⟨g, cap, cur, a, b, by rw [this], r⟩
theorem block_past {x y : World} {b : Nat} {t : TypeId} {cs : List Value} {r : Option Nat} (h : BlockIs x b t cs) (hg : x.grownBy y r) (hr : ∀ j, r = some j → b < j) : BlockIs y b t cs := by
  unfold BlockIs
  rw [hg.block b h.lt (fun e => by have := hr b e.symm; omega)]
  exact h
theorem frames_info5 : (Tryz.prog.info? 5).map (fun i => (i.zero, i.size, i.bytes)) = some (some (.int .u8 0), 1, 1) := by kernel_rfl

set_option maxRecDepth 1000000 in
set_option maxHeartbeats 2000000 in
theorem l07Frames_any (s t : Int) (ao : Option Addr) (l : List EntD) (cap k0 : Nat) (hk0 : k0 ≤ l.length) (hok : logOk s t l = true) (w : World) (ha : EntsAt w ao l) :
    Calls Tryz.prog 58 #[.agg #[.int .i64 s, .int .i64 t, .slice ao l.length cap], .int .i64 k0] w fun e w' => e = .returned (.string (frms (s + 1 + k0) (l.drop k0))) ∧ Below w.heap.size w w' := by
  obtain ⟨i0, hi, hz0, hz1, hz2⟩ := info_parts frames_info5
  have hbd := logOk_iff.1 hok
  have HA := hid ha
  have HOK := hid hok
  have hx0 : BlockIs (w.alloc (.cells #[.int .i64 s, .int .i64 t, .slice ao l.length cap] 58)) w.heap.size 58 [.int .i64 s, .int .i64 t, .slice ao l.length cap] := heap_alloc_new w _
  have X0 := hid (hx0.on (below_more (Below.refl _ _) (.cells #[] 5)) hx0.lt)
  have B0 := hid (below_more (below_more (Below.refl w.heap.size w) (.cells #[.int .i64 s, .int .i64 t, .slice ao l.length cap] 58)) (.cells #[] 5))
  have hsz : (w.alloc (.cells #[.int .i64 s, .int .i64 t, .slice ao l.length cap] 58)).heap.size = w.heap.size + 1 := by simp [World.alloc, -World.alloc_eq]
  have O0 : Hid (World.ownsRow ((w.alloc (.cells #[.int .i64 s, .int .i64 t, .slice ao l.length cap] 58)).alloc (.cells #[] 5)) (w.heap.size + 1) 5 1 (.slice (some ⟨w.heap.size + 1, 0, none⟩) 0 0) 0 (cs [])) := by
    have := World.ownsRow_made (w.alloc (.cells #[.int .i64 s, .int .i64 t, .slice ao l.length cap] 58)) (size := 1) (e := 5) #[] 0 (Nat.le_refl _) (Nat.zero_le _) rfl
    rw [hsz] at this
    exact this
  clear ha hok hx0 hsz
  go_enter Tryz.func58, Tryz.ntmps58
  go_wp2
  go_loopw [5, 6, 7, 8, 9, 10] (fun v i _ _ _ _ wr => ∃ (k : Nat) (acc : List UInt8) (va : Option Addr) (vc : Nat), k0 ≤ k ∧ k ≤ l.length ∧ i = .int .i64 k ∧ v = .slice va acc.length vc ∧ Hid (acc = (frms (s + 1 + k0) ((l.drop k0).take (k - k0))).data.toList) ∧ Hid (Below w.heap.size w wr) ∧ Hid (BlockIs wr w.heap.size 58 [.int .i64 s, .int .i64 t, .slice ao l.length cap]) ∧ Hid (wr.ownsRow (w.heap.size + 1) 5 1 (.slice va acc.length vc) acc.length (cs acc))) (fun _ i _ _ _ _ _ => l.length + 1 - (intOf i).toNat)
  case atStart => exact ⟨k0, [], _, _, Nat.le_refl _, hk0, rfl, rfl, (show _ = _ by rw [Nat.sub_self]; rfl), B0, X0, O0⟩
  case round =>
    clear B0 X0 O0
    obtain ⟨k, acc, va, vc, hk1, hk2, rfl, rfl, HAC, BR, XR, HO⟩ := hrel
    have c2 := XR.out.cell (j := 2) rfl
    by_cases hlt : k < l.length
    · have hlt' : (k : Int) < (l.length : Int) := by omega
      obtain ⟨gb, off, hao, hc⟩ := HA.out.on BR.out (by intro e; rw [e] at hlt; simp at hlt)
      obtain ⟨e0, e1, e2⟩ := hc k hlt
      obtain ⟨d, hd⟩ : ∃ d, l[k] = d := ⟨_, rfl⟩
      obtain ⟨J, hJ⟩ : ∃ J, s + 1 + (k : Int) = J := ⟨_, rfl⟩
      have hdo : entryOk d = true := by rw [← hd]; exact termsOk_at hbd.2.2.2.2 k hlt
      have hTs := entText_size (i := J) (d := d) (by omega) hdo
      have hTy := entryText_yes (i := J) hdo (within_iff.2 (by omega))
      rw [hd] at e0 e1 e2
      have HAN : Hid ((frms (s + 1 + k0) ((l.drop k0).take (k + 1 - k0))).data.toList = acc ++ (frm (entText J d)).data.toList) := (show _ = _ by
        have x1 : l[k0 + (k - k0)]'(by omega) = d := by rw [← hd]; congr 1; omega
        have x2 : s + 1 + (k0 : Int) + ((k - k0 : Nat) : Int) = J := by omega
        rw [show k + 1 - k0 = (k - k0) + 1 by omega, frms_take _ _ _ (by simp; omega), ByteArray.data_append, Array.toList_append, ← HAC.out, List.getElem_drop, x1, x2])
      have CE' := fun D os => Calls.regrown_of (w := wr) (d := D) (os := os) (specEntryText_any J d (by have := (entryOk_bd hdo).2.2.2.2; omega) (grow (redrawn wr D) os))
      rw [hTy] at CE'
      obtain ⟨T, hT⟩ : ∃ T, entText J d = T := ⟨_, rfl⟩
      rw [hT] at hTs CE' HAN
      have CE := hid CE'
      have hw1 : wrap64 (s + 1) = s + 1 := IntWalk.wrap64_in _ (by omega)
      have hw2 : wrap64 (s + 1 + (k : Int)) = J := (IntWalk.wrap64_in _ (by omega)).trans hJ
      have hacl : acc.length ≤ 9000 := by
        have h9 := frms_len (L := (l.drop k0).take (k - k0)) (fun e he => termsOk_mem hbd.2.2.2.2 e (List.mem_of_mem_drop (List.mem_of_mem_take he))) (s + 1 + k0) (by simp; omega)
        have h8 : ((l.drop k0).take (k - k0)).length ≤ 60 := by simp; omega
        rw [HAC.out]
        simp
        omega
      have q0 := cell_regrown (XR.out.cell (j := 0) rfl)
      have q2 := cell_regrown c2
      subst hao
      have m0 := cell_regrown e0
      have m1 := cell_regrown e1
      have m2 := cell_regrown e2
      clear hc e0 e1 e2 CE' hTy hdo hd hT HAC
      go_wp2
      refine wp_region_quiet_below (by kernel_rfl) (by kernel_rfl) ?_
      repeat (first | go_big_quiet_step (first | (go_at_call 112; exact CE.out _ _) | fail) | quiet_step (first | (go_at_call 112; exact CE.out _ _) | fail))
      refine wpQuiet_nil ?_
      intro _ hw'
      obtain ⟨⟨dq, osq⟩, hw''⟩ := hw'
      subst hw''
      have bx := below_regrown wr dq osq
      have B2 := hid (below_via BR.out bx)
      have X2 := hid (XR.out.on bx XR.out.lt)
      have O2 := hid (rows_below HO.out bx)
      generalize Go.Sort.grow (redrawn wr dq) osq = wq at bx B2 X2 O2 ⊢
      clear bx BR XR HO q0 q2 m0 m1 m2 CE c2 hw1 hw2
      go_wp2_with fail
      refine (specFrame_yes T hTs.1 (by omega) _).mono ?_
      rintro e w6 ⟨rfl, b6⟩
      have B3 := hid (below_via B2.out b6)
      have X3 := hid (X2.out.on b6 X2.out.lt)
      have O3 := hid (rows_below O2.out b6)
      have hFs := frm_len (t := T) (by omega)
      clear b6 B2 X2 O2
      obtain ⟨F, hF⟩ : ∃ F, frm T = F := ⟨_, rfl⟩
      rw [hF] at HAN hFs ⊢
      obtain ⟨bcap, w7, hcv, hbc, b7, hsz7, hcell, _⟩ := bytes_of F w6
      have hnews := bytes_news hcell
      have hnl : (cs F.data.toList).length = F.size * 1 := by rw [cs_length, Nat.mul_one]; simp
      have hone := cs_ones F.data.toList
      have hrow := rows_below O3.out b7
      have hbase : w.heap.size + 1 ≤ w7.heap.size := by have := X3.out.lt; have := b7.size; omega
      clear hcell hF
      go_wp2_with (at_builtin; refine wpList_append_own _ rfl (.tmp 39) (.tmp 41) 112 rfl (w.heap.size + 1) 5 i0 (.int .u8 0) 1 1 Tryz.underlying112 hi hz0 hz1 hz2 rfl (by decide) _ _ _ rfl hrow ⟨w6.heap.size, 0, none⟩ F.size bcap (cs F.data.toList) rfl hnl hnews hone (by unfold maxLen; omega) (by omega) hbase ?_)
      intro v' w8 hown' hgrow _
      obtain ⟨va', vc', rfl⟩ := row_shape hown'
      have hlow : ∀ j, (Value.slice va acc.length vc).ownBlock = some j → w.heap.size + 1 ≤ j := fun j hj => (hrow.lt j hj).1
      have B4 := hid ((below_via B3.out b7).grown hgrow (below_via B3.out b7).size (fun j hj => by have := hlow j hj; omega))
      have X4 := hid (block_past (X3.out.on b7 X3.out.lt) hgrow (fun j hj => by have := hlow j hj; omega))
      rw [← cs_append] at hown'
      have hal : acc.length + F.size = (acc ++ F.data.toList).length := by simp
      rw [hal] at hown' ⊢
      have O4 := hid hown'
      clear hown' hgrow hlow hrow hnews hone hnl hbase hcv hbc b7 hsz7 B3 X3 O3 hal
      obtain ⟨acc', hacc⟩ : ∃ x, acc ++ F.data.toList = x := ⟨_, rfl⟩
      rw [hacc] at O4 HAN ⊢
      go_wp2
      go_roundw
      case rel => exact ⟨k + 1, acc', va', vc', by omega, by omega, by go_num, rfl, HAN.out.symm, B4, X4, O4⟩
      case measure => simp [intOf]; omega
    · have hge : ¬ (k : Int) < (l.length : Int) := by omega
      have hcv := text_of_row (P := Tryz.prog) Tryz.underlying112 Tryz.underlying5 Tryz.underlying9 HO.out
      have hfin : Hid ((⟨acc.toArray⟩ : ByteArray) = frms (s + 1 + k0) (l.drop k0)) := (show _ = _ by
        rw [HAC.out, List.take_of_length_le (by simp; omega)])
      clear HAC HO
      go_wp2
      go_ret
      exact ⟨by rw [hfin.out]; rfl, BR.out⟩
end Go.Proofs.YtihgkocfgjihhaaGreatDoor
