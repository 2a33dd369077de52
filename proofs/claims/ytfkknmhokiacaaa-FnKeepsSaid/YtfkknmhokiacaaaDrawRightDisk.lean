/-
  The walk of spec.DrawRightDisk: some right disk.
-/
import Derived.Test.YtfkknmhokiacaaaCurPick
import Derived.Test.YtfkknmhokiacaaaCurText
import Derived.Test.YtfkknmhokiacaaaCurNew
import Derived.Test.YtfkknmhokiacaaaBig
import Derived.Test.YtfkknmhokiacaaaPutS
import Derived.Test.YtfkknmhokiacaaaOwnFile
import Derived.Test.YtfkknmhokiacaaaPlainDo
import Derived.Deep.RegionWith
namespace Go.Proofs.Ytfkknmhokiacaaa
open Go.RowKit

theorem row_cur {w w2 : World} {base C size : Nat} {e : TypeId} {v : Value} {n : Nat} {xs : List Value} (h : w.ownsRow base e size v n xs) (hg : w.grownBy w2 (some C)) (hC : C < base) : w2.ownsRow base e size v n xs := by
  refine h.kept hg ?_
  cases hv : v.ownBlock with
  | none => exact Or.inl rfl
  | some g =>
    refine Or.inr fun e => ?_
    have := (h.lt g hv).1
    simp only [Option.some.injEq] at e
    omega

theorem block_cur {w w2 : World} {C g : Nat} {t : TypeId} {cs : List Value} (h : BlockIs w g t cs) (hg : w.grownBy w2 (some C)) (hC : g ≠ C) : BlockIs w2 g t cs := by
  have := hg.block g h.lt (by simp; omega)
  unfold BlockIs at h ⊢
  rw [this]
  exact h

/-- the drawer's cursor, its disk in a box, the answer's box -/
def DrAt (w : World) (C D : Nat) (l : List FileD) (v : Value) (wr : World) : Prop :=
  CurAt wr C ∧ BlockIs wr D 26 [v] ∧ wr.ownsRow (D + 1) 36 3 v l.length (fileCells l) ∧ BlockIs wr w.heap.size 26 [.slice none 0 0] ∧ Below w.heap.size w wr

theorem DrAt.cur {w wr w2 : World} {C D : Nat} {l : List FileD} {v : Value} (h : DrAt w C D l v wr) (q : wr.grownBy w2 (some C)) (k : CurAt w2 C) (hC : w.heap.size < C) (hD : C < D) : DrAt w C D l v w2 := by
  obtain ⟨h1, h2, h3, h4, h5⟩ := h
  exact ⟨k, block_cur h2 q (by omega), row_cur h3 q (by omega), block_cur h4 q (by omega), h5.grown q h5.size (fun j hj => by simp at hj; omega)⟩

theorem DrAt.drew {w wr : World} {C D : Nat} {l : List FileD} {v : Value} (h : DrAt w C D l v wr) (hC : w.heap.size < C) (hD : C < D) : DrAt w C D l v wr.drew := by
  have q : wr.grownBy wr.drew (some C) := ⟨rfl, rfl, rfl, Nat.le_refl _, fun _ _ _ => rfl⟩
  exact h.cur q (h.1.kept (row := none) ⟨rfl, rfl, rfl, Nat.le_refl _, fun _ _ _ => rfl⟩ (fun k e => by cases e)) hC hD

theorem DrAt.put {w wb wp : World} {C D : Nat} {l m : List FileD} {v v' : Value} (h : DrAt w C D l v wb) (hC : w.heap.size < C) (hD : C < D) (hb : Below wb.heap.size wb wp) (ho : wp.ownsRow wb.heap.size 36 3 v' m.length (fileCells m)) : DrAt w C D m v' (wp.setCell ⟨D, 0, none⟩ v') := by
  obtain ⟨h1, h2, h3, h4, h5⟩ := h
  have hDl := h2.lt
  have g1 : wb.grownBy wp none := ⟨hb.os, hb.tape, hb.output, hb.size, fun k hk _ => hb.block k hk⟩
  have c1 := h1.kept g1 (fun k e => by cases e)
  have g2 : wp.grownBy (wp.setCell ⟨D, 0, none⟩ v') (some D) := ⟨rfl, rfl, rfl, by simp [World.setCell], fun j _ hj => Below.heap_setCell _ _ _ _ (fun e => hj (by simp [e]))⟩
  have bw := below_via h5 hb
  have hwD : w.heap.size < D := Nat.lt_trans hC hD
  exact ⟨c1.kept g2 (fun k e => by cases e; exact hD), (h2.on hb h2.lt).set 0 v', row_down (ownsRow_setCell_below (a := ⟨D, 0, none⟩) ho hDl v') hDl, (h4.on hb h4.lt).far (Nat.ne_of_gt hwD) _, bw.setCell (p := ⟨D, 0, none⟩) (Nat.le_of_lt hwD) _⟩

theorem own_row_files {w : World} {base : Nat} {va : Option Addr} {vc : Nat} {l : List FileD} (h : w.ownsRow base 36 3 (.slice va l.length vc) l.length (fileCells l)) : FilesAt w va l := by
  obtain ⟨va', vc', hv, hf, _⟩ := own_files h
  simp only [Value.slice.injEq] at hv
  rw [hv.1]
  exact hf

theorem wrap64_small {x : Int} (h0 : 0 ≤ x) (h1 : x ≤ 1000000) : IntKind.i64.wrap x = x := by
  rw [IntKind.wrap_i64]
  omega

theorem put_le (l : List FileD) (f : FileD) : (filesPut l f).length ≤ l.length + 1 := by
  rw [put_length]
  have : (filesNot l f.name).length ≤ l.length := List.length_filter_le _ _
  omega

theorem drawn_ok {nm t : ByteArray} {x : Int} (h1 : 1 ≤ nm.size) (h2 : nm.size ≤ 2) (h3 : t.size ≤ 20000) (h4 : 0 ≤ x) (h5 : x < (t.size : Int) + 1) : fileOk ⟨nm, t, x⟩ = true := by
  simp [fileOk, nameOk, within]
  omega

set_option maxRecDepth 1000000 in
set_option maxHeartbeats 2000000 in
theorem drawRightDisk_any (ao : Option Addr) (len cap : Nat) (hlen : len ≤ 1048576) (hcap : len ≤ cap) (w : World) (hr : Bytes w ao len) :
    Calls Try.prog 8 #[.slice ao len cap] w fun e w' => ∃ (l : List FileD) (va : Option Addr) (vc : Nat), e = .returned (.agg #[.slice va l.length vc]) ∧ diskOk l = true ∧ FilesAt w' va l ∧ Below w.heap.size w w' := by
  have b0 := below_more (Below.refl w.heap.size w) (.cells #[.slice none 0 0] 26)
  have HR := hid (bytes_on hr b0)
  have HB0 := hid b0
  have hx : BlockIs (w.alloc (.cells #[.slice none 0 0] 26)) w.heap.size 26 [.slice none 0 0] := heap_alloc_new w _
  have HX := hid hx
  have hs0 : (w.alloc (.cells #[.slice none 0 0] 26)).heap.size = w.heap.size + 1 := by simp [World.alloc, -World.alloc_eq]
  clear hr b0 hx
  go_enter Try.func8, Try.ntmps8
  go_wp2_with fail
  refine (l01New_any ao len cap hlen hcap _ HR.out).mono ?_
  rintro e w1 ⟨rfl, k1, b1⟩
  rw [hs0] at k1 b1 ⊢
  obtain ⟨C, hC⟩ : ∃ C, w.heap.size + 1 = C := ⟨_, rfl⟩
  obtain ⟨D, hD⟩ : ∃ D, w1.heap.size = D := ⟨_, rfl⟩
  have hCD : C < D := by rw [← hC, ← hD]; exact k1.lt
  have hwC : w.heap.size < C := by omega
  have HD0 : Hid (DrAt w C D [] (.slice none 0 0) (w1.alloc (.cells #[.slice none 0 0] 26))) := by
    have g : w1.grownBy (w1.alloc (.cells #[.slice none 0 0] 26)) none := World.grownBy_alloc _ _ _
    have bb := below_more (Below.refl w1.heap.size w1) (.cells #[.slice none 0 0] 26)
    have x1 := HX.out.on b1 (by omega)
    refine ⟨?_, ?_, World.ownsRow_nil _ _ _ _, x1.on bb x1.lt, ?_⟩
    · rw [← hC]; exact k1.kept g (fun k e => by cases e)
    · rw [← hD]; exact heap_alloc_new w1 _
    · exact below_via (HB0.out.trans (b1.mono (by omega))) bb
  rw [hC] at k1 ⊢
  clear k1 b1 hC HX HR HB0
  go_wp2
  go_loopw [5] (fun i wr => ∃ (k : Nat) (l : List FileD) (v : Value), k ≤ 6 ∧ i = .int .i64 k ∧ l.length ≤ k ∧ Hid (diskOk l = true) ∧ Hid (DrAt w C D l v wr)) (fun i _ => 6 - (intOf i).toNat)
  case atStart => exact ⟨0, [], _, by omega, rfl, Nat.zero_le _, by unfold Hid; decide, HD0⟩
  case round =>
    obtain ⟨k, l, v, hk, rfl, hl, HOK, HDR⟩ := hrel
    clear HD0
    go_wp2_with fail
    refine (l01Below_any C 6 (by omega) (by omega) _ HDR.out.1).mono ?_
    rintro e wa ⟨xa, rfl, xa0, xa1, ka, qa⟩
    have HDa := hid (HDR.out.cur qa ka hwC hCD)
    clear ka qa HDR
    by_cases hlt : (k : Int) < xa
    · go_wp2_with fail
      refine (l01Below_any C 30 (by omega) (by omega) _ HDa.out.1).mono ?_
      rintro e wb ⟨y, rfl, y0, y1, kb, qb⟩
      have HDb := hid (HDa.out.cur qb kb hwC hCD)
      clear kb qb HDa
      obtain ⟨n, rfl⟩ : ∃ n : Nat, y = n := ⟨y.toNat, by omega⟩
      go_wp2_with fail
      refine (l01Text_any C n (by omega) _ HDb.out.1).mono ?_
      rintro e wc ⟨T, rfl, hT, kc, qc⟩
      have HDc := hid (HDb.out.cur qc kc hwC hCD)
      clear kc qc HDb
      subst hT
      obtain ⟨va, vc, hv⟩ := row_shape HDc.out.2.2.1
      subst hv
      have HDd := hid (HDc.out.drew hwC hCD)
      have cd := HDd.out.2.1.cell (j := 0) rfl
      have CN : Hid (∀ W, Hid (DrAt w C D l (.slice va l.length vc) W) → Calls Try.prog 42 #[.pointer (some ⟨C, 0, none⟩)] W fun e W' => ∃ nm : ByteArray, e = .returned (.string nm) ∧ W'.cell? ⟨D, 0, none⟩ = some (.slice va l.length vc) ∧ Hid (1 ≤ nm.size ∧ nm.size ≤ 2) ∧ Hid (DrAt w C D l (.slice va l.length vc) W')) := by
        intro W hW
        refine (l03Named_any C W hW.out.1).mono ?_
        rintro e W' ⟨nm, rfl, n1, n2, kn, qn⟩
        have h2 := hW.out.cur qn kn hwC hCD
        exact ⟨nm, rfl, h2.2.1.cell (j := 0) rfl, ⟨n1, n2⟩, h2⟩
      have CB : Hid (∀ W y, y = (T.size : Int) + 1 → Hid (DrAt w C D l (.slice va l.length vc) W) → Calls Try.prog 39 #[.pointer (some ⟨C, 0, none⟩), .int .i64 y] W fun e W' => ∃ x : Int, e = .returned (.int .i64 x) ∧ W'.cell? ⟨D, 0, none⟩ = some (.slice va l.length vc) ∧ Hid (0 ≤ x ∧ x < (T.size : Int) + 1) ∧ Hid (DrAt w C D l (.slice va l.length vc) W')) := by
        intro W y hy hW
        rw [hy]
        refine (l01Below_any C ((T.size : Int) + 1) (by omega) (by omega) W hW.out.1).mono ?_
        rintro e W' ⟨x, rfl, n1, n2, kn, qn⟩
        have h2 := hW.out.cur qn kn hwC hCD
        exact ⟨x, rfl, h2.2.1.cell (j := 0) rfl, ⟨n1, n2⟩, h2⟩
      have CP : Hid (∀ W nm x, Hid (DrAt w C D l (.slice va l.length vc) W) → Calls Try.prog 41 #[.agg #[.slice va l.length vc], .agg #[.string nm, .string T, .int .i64 x]] W fun e W' => ∃ (va' : Option Addr) (n' vc' : Nat), e = .returned (.agg #[.slice va' n' vc']) ∧ W'.cell? ⟨D, 0, none⟩ = some (.slice va l.length vc) ∧ W'.frozen? ⟨D, 0, none⟩ = false ∧ Hid (DrAt w C D (filesPut l ⟨nm, T, x⟩) (.slice va' n' vc') (W'.setCell ⟨D, 0, none⟩ (.slice va' n' vc')))) := by
        intro W nm x hW
        refine (l03Put_any va l vc ⟨nm, T, x⟩ (by omega) W (own_row_files hW.out.2.2.1)).mono ?_
        rintro e W' ⟨v', rfl, op, bp⟩
        obtain ⟨va', vc', hv'⟩ := row_shape op
        subst hv'
        have x2 := hW.out.2.1.on bp hW.out.2.1.lt
        exact ⟨va', _, vc', rfl, x2.cell (j := 0) rfl, x2.thaw 0, hW.out.put hwC hCD bp op⟩
      have HWR : Hid (IntKind.i64.wrap ((T.size : Int) + 1) = (T.size : Int) + 1) := wrap64_small (by omega) (by omega)
      clear HDc
      go_wp2
      go_region_with (first | (go_at_call 42; refine (CN.out _ HDd).mono ?_; rintro e wn ⟨nm, rfl, cn, HN, HDn⟩) | (go_at_call 39; refine (CB.out _ _ (by first | exact HWR.out | rfl) HDn).mono ?_; rintro e wm ⟨x, rfl, cm, HXX, HDm⟩) | (go_at_call 41; refine (CP.out _ _ _ HDm).mono ?_; rintro e wp ⟨va', n', vc', rfl, cp, fp, HDp⟩))
      all_goals
        have HOK2 : Hid (diskOk (filesPut l ⟨nm, T, x⟩) = true) := put_right HOK.out (drawn_ok HN.out.1 HN.out.2 (by omega) HXX.out.1 HXX.out.2) (by have := put_le l ⟨nm, T, x⟩; omega)
        have hl2 := put_le l ⟨nm, T, x⟩
        clear CN CB CP cp fp cm cn HDn HDm HDd cd
        go_wp2
        go_roundw
        case rel => exact ⟨k + 1, _, _, by omega, by go_num, by omega, HOK2, HDp⟩
        case measure => simp [intOf]; omega
    · obtain ⟨va, vc, hv⟩ := row_shape HDa.out.2.2.1
      subst hv
      have ca := HDa.out.2.1.cell (j := 0) rfl
      have cr := HDa.out.2.2.2.1.cell (j := 0) rfl
      have fr := HDa.out.2.2.2.1.thaw 0
      have FIN : Hid (FilesAt (wa.setCell ⟨w.heap.size, 0, none⟩ (.slice va l.length vc)) va l ∧ Below w.heap.size w (wa.setCell ⟨w.heap.size, 0, none⟩ (.slice va l.length vc))) := by
        have ho := ownsRow_setCell_below (a := ⟨w.heap.size, 0, none⟩) HDa.out.2.2.1 (by show w.heap.size < D + 1; omega) (.slice va l.length vc)
        exact ⟨own_row_files ho, HDa.out.2.2.2.2.setCell (p := ⟨w.heap.size, 0, none⟩) (Nat.le_refl _) _⟩
      go_wp2
      refine bodyPost_ret (v := .agg #[.slice va l.length vc]) (by simp [results, Try.results8, go_sem, cr]) rfl ⟨l, va, vc, rfl, HOK.out, FIN.out.1, FIN.out.2⟩
end Go.Proofs.Ytfkknmhokiacaaa
