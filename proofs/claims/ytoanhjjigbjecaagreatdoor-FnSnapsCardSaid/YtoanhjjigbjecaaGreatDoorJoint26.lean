/-
  The walk of spec.DrawRightSnaps: a disk of right snapshots, and one that is newer.
  The walks of impl.nameOk, impl.fileOk, impl.DiskOk: what they answer.
  The walks of spec.l03Name, spec.DiskOk: what they answer.
  The walk of spec.DoAct: what an act leaves.
-/
import Derived.Test.YtoanhjjigbjecaaGreatDoorJoint16
import Derived.Test.YtoanhjjigbjecaaGreatDoorJoint17
import Derived.Test.YtoanhjjigbjecaaGreatDoorJoint19
import Derived.Test.YtoanhjjigbjecaaGreatDoorJoint22
import Derived.Test.YtoanhjjigbjecaaGreatDoorJoint23
import Derived.Test.YtoanhjjigbjecaaGreatDoorJoint25
import Derived.Deep.RegionWith
import Derived.Test.YtoanhjjigbjecaaGreatDoorJoint1
import Derived.Lib.QuietBelow
import Derived.Laws.Cover1
import Derived.Test.YtoanhjjigbjecaaGreatDoorJoint12
import Derived.Deep.QuietTactic
namespace Go.Proofs.YtoanhjjigbjecaaGreatDoor
open Go.RowKit

theorem keep_size {ls : List SessionD} {li : List ItemD} (h : keepOk ls li = true) : (keepText ls li).size ≤ 2000 := by
  have hf := keep_facts h
  have h1 : ∀ l : List SessionD, (∀ s ∈ l, sessionFine s = true) → (l.flatMap sessB).length ≤ 60 * l.length := by
    intro l
    induction l with
    | nil => intro _; simp
    | cons a r ih =>
      intro q
      have := ih (fun s hs => q s (List.mem_cons_of_mem _ hs))
      have := sessB_len (q a (List.mem_cons_self ..))
      simp only [List.flatMap_cons, List.length_append, List.length_cons]
      omega
  have h2 : ∀ l : List ItemD, (∀ s ∈ l, itemFine s = true) → (l.flatMap itemB).length ≤ 60 * l.length := by
    intro l
    induction l with
    | nil => intro _; simp
    | cons a r ih =>
      intro q
      have := ih (fun s hs => q s (List.mem_cons_of_mem _ hs))
      have := itemB_len (q a (List.mem_cons_self ..))
      simp only [List.flatMap_cons, List.length_append, List.length_cons]
      omega
  have e1 := h1 ls hf.1.2.1
  have e2 := h2 li hf.2.2.1
  have e3 := hf.1.2.2
  have e4 := hf.2.2.2
  have e5 := vb_len (n := ls.length) (by omega)
  have e6 := vb_len (n := li.length) (by omega)
  show (keepB ls li).toArray.size ≤ 2000
  simp only [List.size_toArray, keepB, List.length_append]
  omega
theorem intsSn {w : World} {base : Nat} {va : Option Addr} {vc : Nat} {zs : List Int} (h : w.ownsRow base 3 1 (.slice va zs.length vc) zs.length (is zs)) : IntsAt w va zs := by
  intro h0
  obtain ⟨_, (⟨he, h1⟩ | ⟨g, cap, cur, he, _, hg, _, _, _, ht⟩)⟩ := h
  · exact absurd (List.length_eq_zero_iff.1 h1) h0
  · cases he
    refine ⟨g, 0, rfl, fun j hj => ?_⟩
    have e1 : (cur.toList.take (zs.length * 1))[j]? = some (.int .i64 zs[j]) := by rw [ht]; simp [is, hj]
    rw [List.getElem?_take_of_lt (by omega)] at e1
    have e2 : cur[j]? = some (.int .i64 zs[j]) := by simpa using e1
    rw [Nat.zero_add]
    simp [World.cell?, hg, e2]
theorem filesSn {w : World} {base : Nat} {va : Option Addr} {vc : Nat} {l : List FileD} (h : w.ownsRow base 61 3 (.slice va l.length vc) l.length (fileCells l)) : FilesAt w va l := by
  obtain ⟨_, (⟨he, h1⟩ | ⟨g, cap, cur, he, _, hg, _, _, _, ht⟩)⟩ := h
  · exact fun h0 => absurd (List.length_eq_zero_iff.1 h1) h0
  · cases he
    have hcur : cur.toList = fileCells l ++ cur.toList.drop (l.length * 3) := by rw [← ht, List.take_append_drop]
    have hk : BlockIs w g 61 (fileCells l ++ cur.toList.drop (l.length * 3)) := by
      unfold BlockIs
      rw [hg, ← hcur]
    exact filesAt_of hk
theorem block_curSn {w w2 : World} {C g : Nat} {t : TypeId} {cs : List Value} (h : BlockIs w g t cs) (hg : w.grownBy w2 (some C)) (hC : g ≠ C) : BlockIs w2 g t cs := by
  have := hg.block g h.lt (by simp; omega)
  unfold BlockIs at h ⊢
  rw [this]
  exact h
theorem put_leSn (l : List FileD) (f : FileD) : (filesPut l f).length ≤ l.length + 1 := by
  rw [put_length]
  have : (filesNot l f.name).length ≤ l.length := List.length_filter_le _ _
  omega
theorem two_Sn (w : World) (o p : Obj) : Below w.heap.size w ((w.alloc o).alloc p) ∧ ((w.alloc o).alloc p).heap.size = w.heap.size + 2 ∧ ((w.alloc o).alloc p).heap[w.heap.size]? = some o ∧ ((w.alloc o).alloc p).heap[w.heap.size + 1]? = some p := by
  refine ⟨below_more (below_more (Below.refl _ w) o) p, by simp [World.alloc, -World.alloc_eq], ?_, ?_⟩
  · show ((w.heap.push _).push _)[w.heap.size]? = some _
    rw [Array.getElem?_push, if_neg (by simp), Array.getElem?_push, if_pos rfl]
  · show ((w.heap.push _).push _)[w.heap.size + 1]? = some _
    rw [Array.getElem?_push, if_pos (by simp)]

/-- the drawer's cursor, its disk in a box, the answers' two boxes -/
def SnAt (w : World) (C D : Nat) (l : List FileD) (v : Value) (wr : World) : Prop :=
  CurAt wr C ∧ BlockIs wr D 26 [v] ∧ wr.ownsRow (D + 1) 61 3 v l.length (fileCells l) ∧ BlockIs wr w.heap.size 26 [.slice none 0 0] ∧ BlockIs wr (w.heap.size + 1) 29 [.int .i64 0, .int .i64 0, .slice none 0 0, .string ⟨#[]⟩] ∧ Below w.heap.size w wr
theorem SnAt.cur {w wr w2 : World} {C D : Nat} {l : List FileD} {v : Value} (h : SnAt w C D l v wr) (q : wr.grownBy w2 (some C)) (k : CurAt w2 C) (hC : w.heap.size + 1 < C) (hD : C < D) : SnAt w C D l v w2 := by
  obtain ⟨h1, h2, h3, h4, h6, h5⟩ := h
  exact ⟨k, block_curSn h2 q (by omega), row_cur h3 q (by omega), block_curSn h4 q (by omega), block_curSn h6 q (by omega), h5.grown q h5.size (fun j hj => by simp at hj; omega)⟩
theorem SnAt.on {w wr w2 : World} {C D : Nat} {l : List FileD} {v : Value} (h : SnAt w C D l v wr) (b : Below wr.heap.size wr w2) : SnAt w C D l v w2 := by
  obtain ⟨h1, h2, h3, h4, h6, h5⟩ := h
  exact ⟨h1.below b, h2.on b h2.lt, row_onK h3 b, h4.on b h4.lt, h6.on b h6.lt, below_via h5 b⟩
theorem SnAt.put {w wb wp : World} {C D : Nat} {l m : List FileD} {v v' : Value} (h : SnAt w C D l v wb) (hC : w.heap.size + 1 < C) (hD : C < D) (hb : Below wb.heap.size wb wp) (ho : wp.ownsRow wb.heap.size 61 3 v' m.length (fileCells m)) : SnAt w C D m v' (wp.setCell ⟨D, 0, none⟩ v') := by
  obtain ⟨h1, h2, h3, h4, h6, h5⟩ := h
  have hDl := h2.lt
  have g1 : wb.grownBy wp none := ⟨hb.os, hb.tape, hb.output, hb.size, fun k hk _ => hb.block k hk⟩
  have c1 := h1.kept g1 (fun k e => by cases e)
  have g2 : wp.grownBy (wp.setCell ⟨D, 0, none⟩ v') (some D) := ⟨rfl, rfl, rfl, by simp [World.setCell], fun j _ hj => Below.heap_setCell _ _ _ _ (fun e => hj (by simp [e]))⟩
  have bw := below_via h5 hb
  exact ⟨c1.kept g2 (fun k e => by cases e; exact hD), (h2.on hb h2.lt).set 0 v', row_down (ownsRow_setCell_below (a := ⟨D, 0, none⟩) ho hDl v') hDl, (h4.on hb h4.lt).far (by omega) _, (h6.on hb h6.lt).far (by omega) _, bw.setCell (p := ⟨D, 0, none⟩) (by show _ ≤ D; omega) _⟩

theorem SnAt.cells {w W : World} {C D : Nat} {l : List FileD} {va : Option Addr} {vc : Nat} (h : SnAt w C D l (.slice va l.length vc) W) : W.cell? ⟨D, 0, none⟩ = some (.slice va l.length vc) ∧ W.cell? ⟨w.heap.size, 0, none⟩ = some (.slice none 0 0) ∧ W.cell? ⟨w.heap.size + 1, 0, none⟩ = some (.int .i64 0) ∧ W.cell? ⟨w.heap.size + 1, 1, none⟩ = some (.int .i64 0) ∧ W.cell? ⟨w.heap.size + 1, 2, none⟩ = some (.slice none 0 0) ∧ W.cell? ⟨w.heap.size + 1, 3, none⟩ = some (.string ⟨#[]⟩) ∧ W.frozen? ⟨w.heap.size, 0, none⟩ = false ∧ W.frozen? ⟨w.heap.size + 1, 0, none⟩ = false ∧ W.frozen? ⟨w.heap.size + 1, 1, none⟩ = false ∧ W.frozen? ⟨w.heap.size + 1, 2, none⟩ = false ∧ W.frozen? ⟨w.heap.size + 1, 3, none⟩ = false := by
  obtain ⟨h1, h2, h3, h4, h6, h5⟩ := h
  exact ⟨h2.cell (j := 0) rfl, h4.cell (j := 0) rfl, h6.cell (j := 0) rfl, h6.cell (j := 1) rfl, h6.cell (j := 2) rfl, h6.cell (j := 3) rfl, h4.thaw 0, h6.thaw 0, h6.thaw 1, h6.thaw 2, h6.thaw 3⟩
/-- the two rows that are answered -/
def FinSn (w : World) (C : Nat) (l : List FileD) (va : Option Addr) (vc : Nat) (zs : List Int) (za : Option Addr) (zc : Nat) (W : World) : Prop :=
  W.ownsRow (C + 1) 61 3 (.slice va l.length vc) l.length (fileCells l) ∧ W.ownsRow (C + 1) 3 1 (.slice za zs.length zc) zs.length (is zs) ∧ Below w.heap.size w W
theorem FinSn.set {w W : World} {C : Nat} {l : List FileD} {va : Option Addr} {vc : Nat} {zs : List Int} {za : Option Addr} {zc b j : Nat} {v : Value} (h : FinSn w C l va vc zs za zc W) (h0 : w.heap.size ≤ b) (hb : b < C + 1) : FinSn w C l va vc zs za zc (W.setCell ⟨b, j, none⟩ v) :=
  ⟨ownsRow_setCell_below (a := ⟨b, j, none⟩) h.1 hb v, ownsRow_setCell_below (a := ⟨b, j, none⟩) h.2.1 hb v, h.2.2.setCell (p := ⟨b, j, none⟩) h0 v⟩
theorem FinSn.told {w W : World} {C : Nat} {l : List FileD} {va : Option Addr} {vc : Nat} {zs : List Int} {za : Option Addr} {zc : Nat} (h : FinSn w C l va vc zs za zc W) : FilesAt W va l ∧ IntsAt W za zs ∧ Below w.heap.size w W := ⟨filesSn h.1, intsSn h.2.1, h.2.2⟩

/-- files of elder snapshots -/
def Elder (l : List FileD) : Prop := ∀ f ∈ l, ∃ j : Nat, j ≤ 8 ∧ f.name = sname j
theorem Elder.put {l : List FileD} (h : Elder l) {j : Nat} (hj : j ≤ 8) (t : ByteArray) (k : Int) : Elder (filesPut l ⟨sname j, t, k⟩) := fun f hf => by
  rcases mem_put.1 hf with rfl | ⟨hm, _⟩
  · exact ⟨j, hj, rfl⟩
  · exact h f hm
theorem Elder.other {l : List FileD} (h : Elder l) {ix : Nat} (hi : 9 ≤ ix) : ∀ f ∈ l, isOther (ix : Int) f.name = true := fun f hf => by
  obtain ⟨j, hj, e⟩ := h f hf
  rw [e]
  exact sname_other (by omega) (by omega)
theorem elder_ok {j : Nat} (hj : j ≤ 8) (t : ByteArray) (ht : t.size ≤ 20000) : fileOk ⟨sname j, t, (t.size : Int)⟩ = true := by
  simp only [fileOk, sname_ok (show 0 ≤ (j : Int) ∧ (j : Int) ≤ 1000000 by omega), within, Bool.true_and, Bool.and_eq_true, decide_eq_true_eq]
  omega
/-- a drawn snapshot is right -/
theorem snap_right {ix tm : Int} {zs : List Int} {bd : ByteArray} (h1 : 0 ≤ ix ∧ ix ≤ 1000) (h2 : 0 ≤ tm ∧ tm ≤ 1000) (h3 : confOk zs = true) (h4 : bd.size ≤ 2000) : snapOk ix tm zs bd = true := by
  refine snapOk_iff.2 ⟨h3, ⟨⟨by omega, by omega⟩, by omega, by omega⟩, ?_⟩
  have := snapIn_le (ix := ix.toNat) (tm := tm.toNat) (zs := zs) (bd := bd) (by omega) (by omega) (by have := (confOk_len h3).2; omega) (by omega)
  have := (confOk_len h3).2
  omega

set_option maxRecDepth 1000000 in
set_option maxHeartbeats 4000000 in
theorem drawRightSnaps_any (ao : Option Addr) (len cap : Nat) (hlen : len ≤ 1048576) (hcap : len ≤ cap) (w : World) (hr : Bytes w ao len) :
    Calls Tryz.prog 6 #[.slice ao len cap] w fun e w' => ∃ (l : List FileD) (va : Option Addr) (vc : Nat) (ix : Nat) (tm : Int) (zs : List Int) (za : Option Addr) (zc : Nat) (bd : ByteArray), e = .returned (.tuple #[.agg #[.slice va l.length vc], .agg #[.int .i64 (ix : Int), .int .i64 tm, .slice za zs.length zc, .string bd]]) ∧ (diskOk l = true ∧ Elder l ∧ l.length ≤ 3) ∧ (snapOk (ix : Int) tm zs bd = true ∧ 9 ≤ ix) ∧ FilesAt w' va l ∧ IntsAt w' za zs ∧ Below w.heap.size w w' := by
  obtain ⟨be, hsz, hr1, hr2⟩ := two_Sn w (.cells #[.slice none 0 0] 26) (.cells #[.int .i64 0, .int .i64 0, .slice none 0 0, .string ⟨#[]⟩] 29)
  have HBY := hid (bytes_on hr be)
  clear hr
  have x1 : BlockIs ((w.alloc (.cells #[.slice none 0 0] 26)).alloc (.cells #[.int .i64 0, .int .i64 0, .slice none 0 0, .string ⟨#[]⟩] 29)) w.heap.size 26 [.slice none 0 0] := hr1
  have x2 : BlockIs ((w.alloc (.cells #[.slice none 0 0] 26)).alloc (.cells #[.int .i64 0, .int .i64 0, .slice none 0 0, .string ⟨#[]⟩] 29)) (w.heap.size + 1) 29 [.int .i64 0, .int .i64 0, .slice none 0 0, .string ⟨#[]⟩] := hr2
  obtain ⟨W0, hW0⟩ : ∃ W, (w.alloc (.cells #[.slice none 0 0] 26)).alloc (.cells #[.int .i64 0, .int .i64 0, .slice none 0 0, .string ⟨#[]⟩] 29) = W := ⟨_, rfl⟩
  rw [hW0] at be hsz x1 x2 HBY
  have B0 := hid be
  have R10 := hid x1
  have R20 := hid x2
  clear be hr1 hr2 x1 x2
  go_enter Tryz.func6, Tryz.ntmps6
  go_wp2_with fail
  refine (l01New_any ao len cap hlen hcap _ HBY.out).mono ?_
  rintro e w1 ⟨rfl, k1, b1⟩
  obtain ⟨C, hC⟩ : ∃ C, W0.heap.size = C := ⟨_, rfl⟩
  rw [hC] at k1 ⊢
  have hwC : w.heap.size + 1 < C := by omega
  obtain ⟨D, hD⟩ : ∃ D, w1.heap.size = D := ⟨_, rfl⟩
  have hCD : C < D := by rw [← hD]; exact k1.lt
  have HS0 : Hid (SnAt w C D [] (.slice none 0 0) (w1.alloc (.cells #[.slice none 0 0] 26))) := by
    have bb := below_more (Below.refl w1.heap.size w1) (.cells #[.slice none 0 0] 26)
    have x1 := (R10.out.on b1 R10.out.lt)
    have x2 := (R20.out.on b1 R20.out.lt)
    refine ⟨k1.below bb, ?_, World.ownsRow_nil _ _ _ _, x1.on bb x1.lt, x2.on bb x2.lt, below_via (below_via B0.out b1) bb⟩
    rw [← hD]; exact heap_alloc_new w1 _
  clear k1 b1 B0 R10 R20 HBY hW0 hC hsz
  go_wp2
  go_loopw [6] (fun i wr => ∃ (k : Nat) (l : List FileD) (v : Value), k ≤ 2 ∧ i = .int .i64 k ∧ l.length ≤ k ∧ Hid (diskOk l = true ∧ Elder l) ∧ Hid (SnAt w C D l v wr)) (fun i _ => 2 - (intOf i).toNat)
  case atStart => exact ⟨0, [], _, by omega, rfl, Nat.zero_le _, ⟨by decide, fun f hf => by cases hf⟩, HS0⟩
  case round =>
    obtain ⟨k, l, v, hk, rfl, hl, HOK, HS⟩ := hrel
    clear HS0
    go_wp2_with fail
    refine (l01Below_any C 3 (by omega) (by omega) _ HS.out.1).mono ?_
    rintro e wa ⟨xa, rfl, xa0, xa1, ka, qa⟩
    have HSa := hid (HS.out.cur qa ka hwC hCD)
    clear ka qa HS
    by_cases hlt : (k : Int) < xa
    · go_wp2_with fail
      refine Calls.mono (l15Keep_any C 6 (by omega) (by omega) _ HSa.out.1) ?_
      rintro e wb ⟨va', vc', vb', vd', ls, li, rfl, hko, hyo, hq, kb, qb⟩
      have HSb := hid (HSa.out.cur qb kb hwC hCD)
      have hsz := keep_size hko
      have CT := specKeepText_any va' vb' ls li vc' vd' (by have := (keep_facts hko).1.2.2; omega) (by have := (keep_facts hko).2.2.2; omega) wb (sessionR_at hq.1) (itemR_at hq.2)
      rw [keepAns, if_pos hko] at CT
      obtain ⟨T, hT⟩ : ∃ T, keepText ls li = T := ⟨_, rfl⟩
      rw [hT] at CT hsz
      have CT2 := hid CT
      clear kb qb hq hko hyo hT CT HSa
      go_wp2_with fail
      refine Calls.mono CT2.out ?_
      rintro e wc ⟨rfl, bc⟩
      have HSc := hid (HSb.out.on bc)
      clear bc CT2 HSb
      go_wp2_with fail
      refine (l01Below_any C 9 (by omega) (by omega) _ HSc.out.1).mono ?_
      rintro e wd ⟨y, rfl, y0, y1, kd, qd⟩
      have HSd := hid (HSc.out.cur qd kd hwC hCD)
      clear kd qd HSc
      obtain ⟨ix, rfl⟩ : ∃ n : Nat, y = n := ⟨y.toNat, by omega⟩
      go_wp2_with fail
      refine (l01Below_any C 5 (by omega) (by omega) _ HSd.out.1).mono ?_
      rintro e we ⟨tm, rfl, t0, t1, ke, qe⟩
      have HSe := hid (HSd.out.cur qe ke hwC hCD)
      clear ke qe HSd
      go_wp2_with fail
      refine (l05Conf_any C _ HSe.out.1).mono ?_
      rintro e wf ⟨zv, zs, rfl, hzf, ⟨hz5, hzc⟩, hzo, kf, qf⟩
      have HSf := hid (HSe.out.cur qf kf hwC hCD)
      obtain ⟨za, zc, hzv⟩ := row_shape hzo
      subst hzv
      have hsn : Hid (snapOk (ix : Int) tm zs T = true) := snap_right (by omega) (by omega) hzc hsz
      have HSg := hid (HSf.out.on (below_more (Below.refl wf.heap.size wf) (.cells #[.int .i64 (ix : Int), .int .i64 tm, .slice za zs.length zc, .string T] 29)))
      have HZ := hid (row_onK hzo (below_more (Below.refl wf.heap.size wf) (.cells #[.int .i64 (ix : Int), .int .i64 tm, .slice za zs.length zc, .string T] 29)))
      have hx : BlockIs (wf.alloc (.cells #[.int .i64 (ix : Int), .int .i64 tm, .slice za zs.length zc, .string T] 29)) wf.heap.size 29 [.int .i64 (ix : Int), .int .i64 tm, .slice za zs.length zc, .string T] := heap_alloc_new wf _
      obtain ⟨wg, hwg⟩ : ∃ W, wf.alloc (.cells #[.int .i64 (ix : Int), .int .i64 tm, .slice za zs.length zc, .string T] 29) = W := ⟨_, rfl⟩
      rw [hwg] at HSg HZ hx
      obtain ⟨S, hS⟩ : ∃ S, wf.heap.size = S := ⟨_, rfl⟩
      rw [hS] at hx
      have HX := hid hx
      have c0 := hx.cell (j := 0) rfl
      have c1 := hx.cell (j := 1) rfl
      have c2 := hx.cell (j := 2) rfl
      have c3 := hx.cell (j := 3) rfl
      clear kf qf hzo HSe HSf hzf hx
      have CS := hid (specSnapText_any (ix : Int) tm za zs zc T (by omega) (by omega) wg (intsSn HZ.out))
      go_wp2_with fail
      refine Calls.mono CS.out ?_
      rintro e wh ⟨rfl, bh⟩
      have HSh := hid (HSg.out.on bh)
      have HXh := hid (HX.out.on bh HX.out.lt)
      have hUs := snapText_size (ix := (ix : Int)) (tm := tm) (zs := zs) (bd := T)
      obtain ⟨U, hU⟩ : ∃ U, (snapText (ix : Int) tm zs T).1 = U := ⟨_, rfl⟩
      obtain ⟨ok, hok⟩ : ∃ b, (snapText (ix : Int) tm zs T).2 = b := ⟨_, rfl⟩
      rw [hU] at hUs
      clear bh CS HSg HX c0 c1 c2 c3 HZ hwg hS
      obtain ⟨va, vc, hv⟩ := row_shape HSh.out.2.2.1
      subst hv
      have hdr : Below wh.heap.size wh wh.drew := below_drewN (Below.refl _ _) 1
      have HPd : Hid (SnAt w C D l (.slice va l.length vc) wh.drew ∧ BlockIs wh.drew S 29 [.int .i64 (ix : Int), .int .i64 tm, .slice za zs.length zc, .string T]) := ⟨HSh.out.on hdr, HXh.out.on hdr HXh.out.lt⟩
      have cd := HPd.out.1.2.1.cell (j := 0) rfl
      have cx := HPd.out.2.cell (j := 0) rfl
      have CN : Hid (∀ W, Hid (SnAt w C D l (.slice va l.length vc) W ∧ BlockIs W S 29 [.int .i64 (ix : Int), .int .i64 tm, .slice za zs.length zc, .string T]) → Calls Tryz.prog 26 #[.int .i64 (ix : Int)] W fun e W' => e = .returned (.string (sname ix)) ∧ W'.cell? ⟨D, 0, none⟩ = some (.slice va l.length vc) ∧ W'.cell? ⟨S, 0, none⟩ = some (.int .i64 (ix : Int)) ∧ Hid (SnAt w C D l (.slice va l.length vc) W' ∧ BlockIs W' S 29 [.int .i64 (ix : Int), .int .i64 tm, .slice za zs.length zc, .string T])) := by
        intro W hW
        refine (specSName_any (ix : Int) W).mono ?_
        rintro e W' ⟨rfl, b⟩
        have h1 := hW.out.1.on b
        have h2 := hW.out.2.on b hW.out.2.lt
        exact ⟨rfl, h1.2.1.cell (j := 0) rfl, h2.cell (j := 0) rfl, h1, h2⟩
      have CP : Hid (∀ W, Hid (SnAt w C D l (.slice va l.length vc) W ∧ BlockIs W S 29 [.int .i64 (ix : Int), .int .i64 tm, .slice za zs.length zc, .string T]) → Calls Tryz.prog 25 #[.agg #[(.slice va l.length vc)], .agg #[.string (sname ix), .string U, .int .i64 (U.size : Int)]] W fun e W' => ∃ (va' : Option Addr) (n' vc' : Nat), e = .returned (.agg #[.slice va' n' vc']) ∧ W'.cell? ⟨D, 0, none⟩ = some (.slice va l.length vc) ∧ W'.frozen? ⟨D, 0, none⟩ = false ∧ Hid (SnAt w C D (filesPut l ⟨sname ix, U, (U.size : Int)⟩) (.slice va' n' vc') (W'.setCell ⟨D, 0, none⟩ (.slice va' n' vc')))) := by
        intro W hW
        refine (l03Put_any va l vc ⟨sname ix, U, (U.size : Int)⟩ (by omega) W (filesSn hW.out.1.2.2.1)).mono ?_
        rintro e W' ⟨v', rfl, op, bp⟩
        obtain ⟨va', vc', hv'⟩ := row_shape op
        subst hv'
        have x2 := hW.out.1.2.1.on bp hW.out.1.2.1.lt
        exact ⟨va', _, vc', rfl, x2.cell (j := 0) rfl, x2.thaw 0, hW.out.1.put hwC hCD bp op⟩
      have hl2 := put_leSn l ⟨sname ix, U, (U.size : Int)⟩
      have HOK2 : Hid (diskOk (filesPut l ⟨sname ix, U, (U.size : Int)⟩) = true ∧ Elder (filesPut l ⟨sname ix, U, (U.size : Int)⟩)) := ⟨put_right HOK.out.1 (elder_ok (by omega) U hUs) (by omega), HOK.out.2.put (by omega) U _⟩
      clear HSh HXh hdr
      go_upto_region 9 with fail
      go_region_with (first | (go_at_call 26; refine (CN.out _ HPd).mono ?_; rintro e wn ⟨rfl, cn, cxn, HPn⟩) | (go_at_call 25; refine (CP.out _ HPn).mono ?_; rintro e wp ⟨va', n', vc', rfl, cp, fp, HSp⟩))
      all_goals
        clear CN CP cp fp cn cxn HPn HPd cd cx
        go_wp2
        go_roundw
        case rel => exact ⟨k + 1, _, _, by omega, by go_num, by omega, HOK2, HSp⟩
        case measure => simp [intOf]; omega
    · go_wp2_with fail
      refine Calls.mono (l15Keep_any C 12 (by omega) (by omega) _ HSa.out.1) ?_
      rintro e wb ⟨va', vc', vb', vd', ls, li, rfl, hko, hyo, hq, kb, qb⟩
      have HSb := hid (HSa.out.cur qb kb hwC hCD)
      have hsz := keep_size hko
      have CT := specKeepText_any va' vb' ls li vc' vd' (by have := (keep_facts hko).1.2.2; omega) (by have := (keep_facts hko).2.2.2; omega) wb (sessionR_at hq.1) (itemR_at hq.2)
      rw [keepAns, if_pos hko] at CT
      obtain ⟨T, hT⟩ : ∃ T, keepText ls li = T := ⟨_, rfl⟩
      rw [hT] at CT hsz
      have CT2 := hid CT
      clear kb qb hq hko hyo hT CT HSa
      go_wp2_with fail
      refine Calls.mono CT2.out ?_
      rintro e wc ⟨rfl, bc⟩
      have HSc := hid (HSb.out.on bc)
      clear bc CT2 HSb
      obtain ⟨va, vc, hv⟩ := row_shape HSc.out.2.2.1
      subst hv
      have hdr : Below wc.heap.size wc wc.drew := below_drewN (Below.refl _ _) 1
      have HSd : Hid (SnAt w C D l (.slice va l.length vc) wc.drew) := HSc.out.on hdr
      obtain ⟨cDd, cRd, c0d, c1d, c2d, c3d, fRd, f0d, f1d, f2d, f3d⟩ := HSd.out.cells
      have C9 : Hid (∀ W, Hid (SnAt w C D l (.slice va l.length vc) W) → Calls Tryz.prog 20 #[.pointer (some ⟨C, 0, none⟩), .int .i64 9] W fun e W' => ∃ (n m : Nat), e = .returned (.int .i64 (n : Int)) ∧ IntKind.i64.wrap (9 + (n : Int)) = (m : Int) ∧ Hid (9 ≤ m ∧ m ≤ 17) ∧ (W'.cell? ⟨D, 0, none⟩ = some (.slice va l.length vc) ∧ W'.cell? ⟨w.heap.size, 0, none⟩ = some (.slice none 0 0) ∧ W'.cell? ⟨w.heap.size + 1, 0, none⟩ = some (.int .i64 0) ∧ W'.cell? ⟨w.heap.size + 1, 1, none⟩ = some (.int .i64 0) ∧ W'.cell? ⟨w.heap.size + 1, 2, none⟩ = some (.slice none 0 0) ∧ W'.cell? ⟨w.heap.size + 1, 3, none⟩ = some (.string ⟨#[]⟩) ∧ W'.frozen? ⟨w.heap.size, 0, none⟩ = false ∧ W'.frozen? ⟨w.heap.size + 1, 0, none⟩ = false ∧ W'.frozen? ⟨w.heap.size + 1, 1, none⟩ = false ∧ W'.frozen? ⟨w.heap.size + 1, 2, none⟩ = false ∧ W'.frozen? ⟨w.heap.size + 1, 3, none⟩ = false) ∧ Hid (SnAt w C D l (.slice va l.length vc) W')) := by
        intro W hW
        refine (l01Below_any C 9 (by omega) (by omega) W hW.out.1).mono ?_
        rintro e W' ⟨x, rfl, n1, n2, kn, qn⟩
        have h2 := hW.out.cur qn kn hwC hCD
        obtain ⟨n, rfl⟩ : ∃ n : Nat, x = n := ⟨x.toNat, by omega⟩
        exact ⟨n, 9 + n, rfl, by rw [IntKind.wrap_i64]; omega, ⟨by omega, by omega⟩, h2.cells, h2⟩
      have C5 : Hid (∀ W, Hid (SnAt w C D l (.slice va l.length vc) W) → Calls Tryz.prog 20 #[.pointer (some ⟨C, 0, none⟩), .int .i64 5] W fun e W' => ∃ y : Int, e = .returned (.int .i64 y) ∧ Hid (0 ≤ y ∧ y < 5) ∧ (W'.cell? ⟨D, 0, none⟩ = some (.slice va l.length vc) ∧ W'.cell? ⟨w.heap.size, 0, none⟩ = some (.slice none 0 0) ∧ W'.cell? ⟨w.heap.size + 1, 0, none⟩ = some (.int .i64 0) ∧ W'.cell? ⟨w.heap.size + 1, 1, none⟩ = some (.int .i64 0) ∧ W'.cell? ⟨w.heap.size + 1, 2, none⟩ = some (.slice none 0 0) ∧ W'.cell? ⟨w.heap.size + 1, 3, none⟩ = some (.string ⟨#[]⟩) ∧ W'.frozen? ⟨w.heap.size, 0, none⟩ = false ∧ W'.frozen? ⟨w.heap.size + 1, 0, none⟩ = false ∧ W'.frozen? ⟨w.heap.size + 1, 1, none⟩ = false ∧ W'.frozen? ⟨w.heap.size + 1, 2, none⟩ = false ∧ W'.frozen? ⟨w.heap.size + 1, 3, none⟩ = false) ∧ Hid (SnAt w C D l (.slice va l.length vc) W')) := by
        intro W hW
        refine (l01Below_any C 5 (by omega) (by omega) W hW.out.1).mono ?_
        rintro e W' ⟨x, rfl, n1, n2, kn, qn⟩
        have h2 := hW.out.cur qn kn hwC hCD
        exact ⟨x, rfl, ⟨n1, n2⟩, h2.cells, h2⟩
      have CC : Hid (∀ W, Hid (SnAt w C D l (.slice va l.length vc) W) → Calls Tryz.prog 23 #[.pointer (some ⟨C, 0, none⟩)] W fun e W' => ∃ (zs : List Int) (za : Option Addr) (zc : Nat), e = .returned (.slice za zs.length zc) ∧ Hid (confOk zs = true) ∧ (W'.cell? ⟨D, 0, none⟩ = some (.slice va l.length vc) ∧ W'.cell? ⟨w.heap.size, 0, none⟩ = some (.slice none 0 0) ∧ W'.cell? ⟨w.heap.size + 1, 0, none⟩ = some (.int .i64 0) ∧ W'.cell? ⟨w.heap.size + 1, 1, none⟩ = some (.int .i64 0) ∧ W'.cell? ⟨w.heap.size + 1, 2, none⟩ = some (.slice none 0 0) ∧ W'.cell? ⟨w.heap.size + 1, 3, none⟩ = some (.string ⟨#[]⟩) ∧ W'.frozen? ⟨w.heap.size, 0, none⟩ = false ∧ W'.frozen? ⟨w.heap.size + 1, 0, none⟩ = false ∧ W'.frozen? ⟨w.heap.size + 1, 1, none⟩ = false ∧ W'.frozen? ⟨w.heap.size + 1, 2, none⟩ = false ∧ W'.frozen? ⟨w.heap.size + 1, 3, none⟩ = false) ∧ Hid (FinSn w C l va vc zs za zc W')) := by
        intro W hW
        refine (l05Conf_any C W hW.out.1).mono ?_
        rintro e W' ⟨zv, zs, rfl, hzf, ⟨hz5, hzc⟩, hzo, kf, qf⟩
        have h2 := hW.out.cur qf kf hwC hCD
        obtain ⟨za, zc, hzv⟩ := row_shape hzo
        subst hzv
        exact ⟨zs, za, zc, rfl, hzc, h2.cells, row_down h2.2.2.1 (by omega), row_down hzo (by have := hW.out.1.lt; omega), h2.2.2.2.2.2⟩
      clear HSc hdr
      go_upto_region 11 with fail
      go_region_with (first | (go_at_call 20; with_reducible refine Calls.mono (C9.out _ HSd) ?_; rintro e we ⟨n, m, rfl, hw9, HM, ⟨cDe, cRe, c0e, c1e, c2e, c3e, fRe, f0e, f1e, f2e, f3e⟩, HSe⟩) | (go_at_call 20; with_reducible refine Calls.mono (C5.out _ HSe) ?_; rintro e wf ⟨y, rfl, HY, ⟨cDf, cRf, c0f, c1f, c2f, c3f, fRf, f0f, f1f, f2f, f3f⟩, HSf⟩) | (go_at_call 23; with_reducible refine Calls.mono (CC.out _ HSf) ?_; rintro e wg ⟨zs, za, zc, rfl, HC, ⟨cDg, cRg, c0g, c1g, c2g, c3g, fRg, f0g, f1g, f2g, f3g⟩, HFg⟩))
      all_goals
        go_wp2
        refine bodyPost_ret (v := .tuple #[.agg #[(.slice va l.length vc)], .agg #[.int .i64 (m : Int), .int .i64 y, .slice za zs.length zc, .string T]]) (by simp [results, Tryz.results6, go_sem, cRg, c0g, c1g, c2g, c3g]) rfl ?_
        refine ⟨l, va, vc, m, y, zs, za, zc, T, rfl, ⟨HOK.out.1, HOK.out.2, by omega⟩, ⟨snap_right ⟨by omega, by have := HM.out.2; omega⟩ ⟨HY.out.1, by have := HY.out.2; omega⟩ HC.out hsz, HM.out.1⟩, FinSn.told (C := C) (vc := vc) (zc := zc) ?_⟩
        exact FinSn.set (b := w.heap.size + 1) (j := 3) (FinSn.set (b := w.heap.size + 1) (j := 2) (FinSn.set (b := w.heap.size + 1) (j := 1) (FinSn.set (b := w.heap.size + 1) (j := 0) (FinSn.set (b := w.heap.size) (j := 0) HFg.out (by omega) (by omega)) (by omega) (by omega)) (by omega) (by omega)) (by omega) (by omega)) (by omega) (by omega)
end Go.Proofs.YtoanhjjigbjecaaGreatDoor

namespace Go.Proofs.YtoanhjjigbjecaaGreatDoor
open Go.RowKit Go.Sort

set_option maxRecDepth 1000000 in
theorem implNameOk_any (s : ByteArray) (w : World) :
    Calls Tryz.prog 97 #[.string s] w fun e w' => e = .returned (.bool (nameOk s)) ∧ w' = w := by
  unfold nameOk within
  by_cases h1 : (1 : Int) ≤ (s.size : Int)
  · by_cases h2 : (s.size : Int) ≤ 8
    · go_enter Tryz.func97, Tryz.ntmps97
      go_wp2
      go_ret
      exact ⟨by simp [h1, h2], rfl⟩
    · go_enter Tryz.func97, Tryz.ntmps97
      go_wp2
      go_ret
      exact ⟨by simp; omega, rfl⟩
  · go_enter Tryz.func97, Tryz.ntmps97
    go_wp2
    go_ret
    exact ⟨by simp; omega, rfl⟩

set_option maxRecDepth 1000000 in
theorem implFileOk_any (f : FileD) (w : World) :
    Calls Tryz.prog 70 #[f.value] w fun e w' => e = .returned (.bool (fileOk f)) ∧ Below w.heap.size w w' := by
  unfold FileD.value
  have HB := hid (below_more (Below.refl w.heap.size w) (.cells #[.string f.name, .string f.text, .int .i64 f.kept] 61))
  have cN' := fun w => implNameOk_any f.name w
  cases hA : nameOk f.name with
  | false =>
    rw [hA] at cN'
    have cN := hid cN'
    have hr : Hid (fileOk f = false) := by show _ = _; simp [fileOk, hA]
    clear cN' hA
    go_enter Tryz.func70, Tryz.ntmps70
    go_wp2_with fail
    refine (cN.out _).mono ?_
    rintro e w' ⟨rfl, hw⟩
    rw [hw]
    clear hw w'
    go_wp2
    go_ret
    exact ⟨by rw [hr.out]; rfl, HB.out⟩
  | true =>
    rw [hA] at cN'
    have cN := hid cN'
    clear cN'
    by_cases h1 : (f.text.size : Int) ≤ 20000
    · by_cases h2 : (0 : Int) ≤ f.kept
      · by_cases h3 : f.kept ≤ (f.text.size : Int)
        · have hr : Hid (fileOk f = true) := by
            show _ = _
            have h1' : f.text.size ≤ 20000 := by omega
            simp [fileOk, within, hA, h1', h2, h3]
          clear hA
          go_enter Tryz.func70, Tryz.ntmps70
          go_wp2_with fail
          refine (cN.out _).mono ?_
          rintro e w' ⟨rfl, hw⟩
          rw [hw]
          clear hw w'
          go_wp2
          go_ret
          exact ⟨by rw [hr.out]; rfl, HB.out⟩
        · have hr : Hid (fileOk f = decide (f.kept ≤ (f.text.size : Int))) := by show _ = _; simp [fileOk, within, h3]
          clear hA
          go_enter Tryz.func70, Tryz.ntmps70
          go_wp2_with fail
          refine (cN.out _).mono ?_
          rintro e w' ⟨rfl, hw⟩
          rw [hw]
          clear hw w'
          go_wp2
          go_ret
          exact ⟨by rw [hr.out]; rfl, HB.out⟩
      · have hr : Hid (fileOk f = false) := by show _ = _; simp [fileOk, within, h2]
        clear hA
        go_enter Tryz.func70, Tryz.ntmps70
        go_wp2_with fail
        refine (cN.out _).mono ?_
        rintro e w' ⟨rfl, hw⟩
        rw [hw]
        clear hw w'
        go_wp2
        go_ret
        exact ⟨by rw [hr.out]; rfl, HB.out⟩
    · have hr : Hid (fileOk f = false) := by
        show _ = _
        have h1' : ¬ f.text.size ≤ 20000 := by omega
        simp [fileOk, h1']
      clear hA
      go_enter Tryz.func70, Tryz.ntmps70
      go_wp2_with fail
      refine (cN.out _).mono ?_
      rintro e w' ⟨rfl, hw⟩
      rw [hw]
      clear hw w'
      go_wp2
      go_ret
      exact ⟨by rw [hr.out]; rfl, HB.out⟩

set_option maxRecDepth 1000000 in
set_option maxHeartbeats 1000000 in
theorem implDiskOk_any (ao : Option Addr) (l : List FileD) (cap : Nat) (hl : l.length ≤ 16777216) (w : World) (ha : FilesAt w ao l) :
    Calls Tryz.prog 34 #[.agg #[.slice ao l.length cap]] w fun e w' => e = .returned (.bool (diskOk l)) ∧ Below w.heap.size w w' := by
  have HA := (show Hid (FilesAt w ao l) from ha)
  clear ha
  by_cases h30 : (30 : Int) < (l.length : Int)
  · have hr : Hid (diskOk l = false) := by show _ = _; unfold diskOk; simp; omega
    go_enter Tryz.func34, Tryz.ntmps34
    go_wp2
    go_ret
    exact ⟨by rw [hr.out]; rfl, below_more (Below.refl _ w) _⟩
  · have HB := (show Hid _ from below_more (Below.refl w.heap.size w) (.cells #[.slice ao l.length cap] 26))
    have HX := (show Hid (BlockIs (w.alloc (.cells #[.slice ao l.length cap] 26)) w.heap.size 26 [.slice ao l.length cap]) from heap_alloc_new w _)
    go_enter Tryz.func34, Tryz.ntmps34
    go_wp2
    go_loopg [3, 4, 12] l.length (fun g _ _ i wr => ∃ (k : Nat), k + g = l.length ∧ i = .int .i64 k ∧ Hid (Below w.heap.size w wr) ∧ Hid (BlockIs wr w.heap.size 26 [.slice ao l.length cap]) ∧ Hid (rightTo l k = true))
    case atStart => exact ⟨0, by omega, rfl, HB, HX, rfl⟩
    case round =>
      obtain ⟨k, hkg, rfl, BR, XR, RT⟩ := hrel
      clear HB HX
      have c0 := XR.out.cell (j := 0) rfl
      cases gk with
      | zero =>
        have hlt : ¬ (k : Int) < (l.length : Int) := by omega
        have hr : Hid (diskOk l = true) := by show _ = _; exact diskOk_of (by omega) (by rw [← RT.out, show k = l.length by omega])
        go_wp2
        go_ret
        exact ⟨by rw [hr.out]; rfl, BR.out⟩
      | succ g =>
        have hlt : k < l.length := by omega
        have hlt' : (k : Int) < (l.length : Int) := by omega
        have hne : l ≠ [] := by intro e; rw [e] at hlt; simp at hlt
        obtain ⟨b, off, rfl, hc⟩ := HA.out.on BR.out hne
        obtain ⟨x0, x1, x2⟩ := hc k hlt
        have HC := hid hc
        clear hc
        go_wp2
        generalize hW2 : wr.alloc (.cells #[.string l[k].name, .string l[k].text, .int .i64 l[k].kept] 61) = W2
        have hb2 : Below wr.heap.size wr W2 := by rw [← hW2]; exact below_more (Below.refl _ wr) _
        have hx2 : BlockIs W2 wr.heap.size 61 [.string l[k].name, .string l[k].text, .int .i64 l[k].kept] := by rw [← hW2]; exact heap_alloc_new wr _
        have n0 := cell_regrown (hx2.cell (j := 0) rfl)
        have n1 := cell_regrown (hx2.cell (j := 1) rfl)
        have n2 := cell_regrown (hx2.cell (j := 2) rfl)
        have XW := XR.out.on hb2 XR.out.lt
        have d0 := cell_regrown (XW.cell (j := 0) rfl)
        have B2 := (show Hid (Below w.heap.size w W2) from below_via BR.out hb2)
        have X2 := (show Hid (BlockIs _ _ _ _) from XW)
        have C' := fun d os => Calls.regrown_of (w := W2) (d := d) (os := os) (implFileOk_any l[k] _)
        unfold FileD.value at C'
        clear hW2 hx2 c0 x0 x1 x2 XW
        cases hA : fileOk l[k] with
        | false =>
          have hr : Hid (diskOk l = false) := not_diskOk hlt (by simp [hA])
          rw [hA] at C'
          have C := hid C'
          clear C' hA
          refine wp_region_quiet_below (by kernel_rfl) (by kernel_rfl) ?_
          repeat (first | go_big_quiet_step (first | (go_at_call 70; exact C.out _ _) | fail) | quiet_step (first | (go_at_call 70; exact C.out _ _) | fail))
          refine wpQuiet_nil ?_
          intro _ hw'
          obtain ⟨⟨dq, osq⟩, hw''⟩ := hw'
          subst hw''
          have BQ : Hid (Below w.heap.size w (grow (redrawn W2 dq) osq)) := B2.out.trans ((below_regrown W2 dq osq).mono B2.out.size)
          generalize grow (redrawn W2 dq) osq = wq at BQ ⊢
          clear n0 n1 n2 d0 C
          go_wp2
          go_ret
          exact ⟨by rw [hr.out]; rfl, BQ.out⟩
        | true =>
          rw [hA] at C'
          have C := hid C'
          clear C'
          cases k with
          | zero =>
            have HR : Hid (rightTo l 1 = true) := by show _ = _; rw [rightTo_step hlt]; simp [rightTo, behind, hA]
            clear hA
            refine wp_region_quiet_below (by kernel_rfl) (by kernel_rfl) ?_
            repeat (first | go_big_quiet_step (first | (go_at_call 70; exact C.out _ _) | fail) | quiet_step (first | (go_at_call 70; exact C.out _ _) | fail))
            refine wpQuiet_nil ?_
            intro _ hw'
            obtain ⟨⟨dq, osq⟩, hw''⟩ := hw'
            subst hw''
            have BQ : Hid (Below w.heap.size w (grow (redrawn W2 dq) osq)) := B2.out.trans ((below_regrown W2 dq osq).mono B2.out.size)
            have XQ : Hid (BlockIs (grow (redrawn W2 dq) osq) w.heap.size 26 [.slice (some ⟨b, off, none⟩) l.length cap]) := X2.out.on (below_regrown W2 dq osq) X2.out.lt
            generalize grow (redrawn W2 dq) osq = wq at BQ XQ ⊢
            clear n0 n1 n2 d0 C
            go_wp2
            go_roundg g
            case measure => omega
            case rel => exact ⟨1, by omega, by go_num, BQ, XQ, HR⟩
          | succ j =>
            have hj : j < l.length := by omega
            have p0 := cell_regrown (show W2.cell? ⟨b, off + j * 3, none⟩ = some (.string l[j].name) from (hb2.cell (p := ⟨b, off + j * 3, none⟩) (World.block_lt_of_cell? wr _ (HC.out j hj).1)).trans (HC.out j hj).1)
            have hpos : (0 : Int) < (((j + 1 : Nat)) : Int) := by omega
            have hsub : (((j + 1 : Nat)) : Int) - 1 = (j : Int) := by omega
            have hjl : (j : Int) < (l.length : Int) := by omega
            have hwj : IntKind.i64.wrap (j : Int) = (j : Int) := by rw [IntKind.wrap_i64]; omega
            cases hL : textLt l[j].name l[j + 1].name with
            | false =>
              have hr : Hid (diskOk l = false) := not_diskOk hlt (by rw [behind_step hlt, hL]; simp)
              have hL' : Op.bytesLess l[j].name.toList l[j + 1].name.toList = false := hL
              clear hA hL
              refine wp_region_quiet_below (by kernel_rfl) (by kernel_rfl) ?_
              repeat (first | go_big_quiet_step (first | (go_at_call 70; exact C.out _ _) | fail) | quiet_step (first | (go_at_call 70; exact C.out _ _) | fail))
              refine wpQuiet_nil ?_
              intro _ hw'
              obtain ⟨⟨dq, osq⟩, hw''⟩ := hw'
              subst hw''
              have BQ : Hid (Below w.heap.size w (grow (redrawn W2 dq) osq)) := B2.out.trans ((below_regrown W2 dq osq).mono B2.out.size)
              generalize grow (redrawn W2 dq) osq = wq at BQ ⊢
              clear n0 n1 n2 d0 C p0
              go_wp2
              go_ret
              exact ⟨by rw [hr.out]; rfl, BQ.out⟩
            | true =>
              have HR : Hid (rightTo l (j + 1 + 1) = true) := by show _ = _; rw [rightTo_step hlt, RT.out, behind_step hlt, hL]; simp [hA]
              have hL' : Op.bytesLess l[j].name.toList l[j + 1].name.toList = true := hL
              clear hA hL
              refine wp_region_quiet_below (by kernel_rfl) (by kernel_rfl) ?_
              repeat (first | go_big_quiet_step (first | (go_at_call 70; exact C.out _ _) | fail) | quiet_step (first | (go_at_call 70; exact C.out _ _) | fail))
              refine wpQuiet_nil ?_
              intro _ hw'
              obtain ⟨⟨dq, osq⟩, hw''⟩ := hw'
              subst hw''
              have BQ : Hid (Below w.heap.size w (grow (redrawn W2 dq) osq)) := B2.out.trans ((below_regrown W2 dq osq).mono B2.out.size)
              have XQ : Hid (BlockIs (grow (redrawn W2 dq) osq) w.heap.size 26 [.slice (some ⟨b, off, none⟩) l.length cap]) := X2.out.on (below_regrown W2 dq osq) X2.out.lt
              generalize grow (redrawn W2 dq) osq = wq at BQ XQ ⊢
              clear n0 n1 n2 d0 C p0
              go_wp2
              go_roundg g
              case measure => omega
              case rel => exact ⟨j + 1 + 1, by omega, by go_num, BQ, XQ, HR⟩
end Go.Proofs.YtoanhjjigbjecaaGreatDoor

namespace Go.Proofs.YtoanhjjigbjecaaGreatDoor
open Go.RowKit

theorem l03Name_any (s : ByteArray) (w : World) :
    Calls Tryz.prog 73 #[.string s] w fun e w' => e = .returned (.bool (nameOk s)) ∧ w' = w := by
  have C := (show Hid _ from l01In_any s.size 1 8 w)
  go_enter Tryz.func73, Tryz.ntmps73
  go_wp2_with fail
  refine Calls.mono C.out ?_
  rintro e w1 ⟨rfl, hw⟩
  rw [hw]
  go_wp2
  go_ret
  exact ⟨rfl, rfl⟩

set_option maxRecDepth 1000000 in
set_option maxHeartbeats 1000000 in
theorem specDiskOk_any (ao : Option Addr) (l : List FileD) (cap : Nat) (hl : l.length ≤ 16777216) (w : World) (ha : FilesAt w ao l) :
    Calls Tryz.prog 43 #[.agg #[.slice ao l.length cap]] w fun e w' => e = .returned (.bool (diskOk l)) ∧ Below w.heap.size w w' := by
  have HA := (show Hid (FilesAt w ao l) from ha)
  clear ha
  by_cases h30 : (30 : Int) < (l.length : Int)
  · have hr : Hid (diskOk l = false) := by show _ = _; unfold diskOk; simp; omega
    go_enter Tryz.func43, Tryz.ntmps43
    go_wp2
    go_ret
    exact ⟨by rw [hr.out]; rfl, below_more (Below.refl _ w) _⟩
  · have HB := (show Hid _ from below_more (Below.refl w.heap.size w) (.cells #[.slice ao l.length cap] 26))
    have HX := (show Hid (BlockIs (w.alloc (.cells #[.slice ao l.length cap] 26)) w.heap.size 26 [.slice ao l.length cap]) from heap_alloc_new w _)
    go_enter Tryz.func43, Tryz.ntmps43
    go_wp2
    go_loopg [3, 4] l.length (fun g i _ wr => ∃ (k : Nat), k + g = l.length ∧ i = .int .i64 k ∧ Hid (Below w.heap.size w wr) ∧ Hid (BlockIs wr w.heap.size 26 [.slice ao l.length cap]) ∧ Hid (rightTo l k = true))
    case atStart => exact ⟨0, by omega, rfl, HB, HX, rfl⟩
    case round =>
      obtain ⟨k, hkg, rfl, BR, XR, RT⟩ := hrel
      clear HB HX
      have c0 := XR.out.cell (j := 0) rfl
      cases gk with
      | zero =>
        have hlt : ¬ (k : Int) < (l.length : Int) := by omega
        have hr : Hid (diskOk l = true) := by show _ = _; exact diskOk_of (by omega) (by rw [← RT.out, show k = l.length by omega])
        go_wp2
        go_ret
        exact ⟨by rw [hr.out]; rfl, BR.out⟩
      | succ g =>
        have hlt : k < l.length := by omega
        have hlt' : (k : Int) < (l.length : Int) := by omega
        have hne : l ≠ [] := by intro e; rw [e] at hlt; simp at hlt
        obtain ⟨b, off, rfl, hc⟩ := HA.out.on BR.out hne
        obtain ⟨x0, x1, x2⟩ := hc k hlt
        have hcc := hc
        clear hc
        have HC := (show Hid _ from hcc)
        clear hcc
        go_wp2
        generalize hW2 : wr.alloc (.cells #[.string l[k].name, .string l[k].text, .int .i64 l[k].kept] 61) = W2
        have hb2 : Below wr.heap.size wr W2 := by rw [← hW2]; exact below_more (Below.refl _ wr) _
        have hx2 : BlockIs W2 wr.heap.size 61 [.string l[k].name, .string l[k].text, .int .i64 l[k].kept] := by rw [← hW2]; exact heap_alloc_new wr _
        have n0 := hx2.cell (j := 0) rfl
        have n1 := hx2.cell (j := 1) rfl
        have n2 := hx2.cell (j := 2) rfl
        have XW := XR.out.on hb2 XR.out.lt
        have d0 := XW.cell (j := 0) rfl
        have B2 := (show Hid (Below w.heap.size w W2) from below_via BR.out hb2)
        have X2 := (show Hid _ from XW)
        have cN' := fun w => l03Name_any l[k].name w
        have cK' := fun w => l01In_any l[k].kept 0 l[k].text.size w
        clear hW2 hx2 c0 x0 x1 x2 XW
        cases hA : nameOk l[k].name with
        | false =>
          have hr : Hid (diskOk l = false) := not_diskOk hlt (by simp [fileOk, hA])
          rw [hA] at cN'
          have cN := (show Hid _ from cN')
          clear cN' cK' hA
          go_quiet (first | (go_at_call 73; refine Calls.quiet_of_same (cN.out _)) | fail)
          go_wp2
          go_ret
          exact ⟨by rw [hr.out]; rfl, below_drewN B2.out _⟩
        | true =>
          rw [hA] at cN'
          have cN := (show Hid _ from cN')
          clear cN'
          by_cases hB : (20000 : Int) < (l[k].text.size : Int)
          · have hF : ¬ l[k].text.size ≤ 20000 := by omega
            have hr : Hid (diskOk l = false) := not_diskOk hlt (by simp [fileOk, hF])
            clear hA cK'
            go_quiet (first | (go_at_call 73; refine Calls.quiet_of_same (cN.out _)) | fail)
            go_wp2
            go_ret
            exact ⟨by rw [hr.out]; rfl, below_drewN B2.out _⟩
          · have hB' : decide ((20000 : Int) < (l[k].text.size : Int)) = false := by simpa using hB
            cases hK : within l[k].kept 0 l[k].text.size with
            | false =>
              have hr : Hid (diskOk l = false) := not_diskOk hlt (by simp [fileOk, hK])
              rw [hK] at cK'
              have cK := (show Hid _ from cK')
              clear cK' hK hA
              go_quiet (first | (go_at_call 73; refine Calls.quiet_of_same (cN.out _)) | (go_at_call 47; refine Calls.quiet_of_same (cK.out _)) | fail)
              go_wp2
              go_ret
              exact ⟨by rw [hr.out]; rfl, below_drewN B2.out _⟩
            | true =>
              rw [hK] at cK'
              have cK := (show Hid _ from cK')
              clear cK'
              cases k with
              | zero =>
                have hF : l[0].text.size ≤ 20000 := by omega
                have HR : Hid (rightTo l 1 = true) := by show _ = _; rw [rightTo_step hlt]; simp [rightTo, fileOk, behind, hA, hK, hF]
                clear hK hA
                go_quiet (first | (go_at_call 73; refine Calls.quiet_of_same (cN.out _)) | (go_at_call 47; refine Calls.quiet_of_same (cK.out _)) | fail)
                go_wp2
                go_roundg g
                case measure => omega
                case rel => exact ⟨1, by omega, by go_num, below_drewN B2.out _, X2, HR⟩
              | succ j =>
                have hj : j < l.length := by omega
                have p0 : W2.cell? ⟨b, off + j * 3, none⟩ = some (.string l[j].name) := (hb2.cell (p := ⟨b, off + j * 3, none⟩) (World.block_lt_of_cell? wr _ (HC.out j hj).1)).trans (HC.out j hj).1
                have hpos : (0 : Int) < (((j + 1 : Nat)) : Int) := by omega
                have hsub : (((j + 1 : Nat)) : Int) - 1 = (j : Int) := by omega
                have hjl : (j : Int) < (l.length : Int) := by omega
                have hwj : IntKind.i64.wrap (j : Int) = (j : Int) := by rw [IntKind.wrap_i64]; omega
                cases hL : textLt l[j].name l[j + 1].name with
                | false =>
                  have hr : Hid (diskOk l = false) := not_diskOk hlt (by rw [behind_step hlt, hL]; simp)
                  have hL' : Op.bytesLess l[j].name.toList l[j + 1].name.toList = false := hL
                  clear hK hA hL
                  go_quiet (first | (go_at_call 73; refine Calls.quiet_of_same (cN.out _)) | (go_at_call 47; refine Calls.quiet_of_same (cK.out _)) | fail)
                  go_wp2
                  go_ret
                  exact ⟨by rw [hr.out]; rfl, below_drewN B2.out _⟩
                | true =>
                  have hF : l[j + 1].text.size ≤ 20000 := by omega
                  have HR : Hid (rightTo l (j + 1 + 1) = true) := by show _ = _; rw [rightTo_step hlt, RT.out, behind_step hlt, hL]; simp [fileOk, hA, hK, hF]
                  have hL' : Op.bytesLess l[j].name.toList l[j + 1].name.toList = true := hL
                  clear hK hA hL
                  go_quiet (first | (go_at_call 73; refine Calls.quiet_of_same (cN.out _)) | (go_at_call 47; refine Calls.quiet_of_same (cK.out _)) | fail)
                  go_wp2
                  go_roundg g
                  case measure => omega
                  case rel => exact ⟨j + 1 + 1, by omega, by go_num, below_drewN B2.out _, X2, HR⟩
end Go.Proofs.YtoanhjjigbjecaaGreatDoor

namespace Go.Proofs.YtoanhjjigbjecaaGreatDoor
open Go.RowKit

theorem three_boxes (w : World) (o p q : Obj) : Below w.heap.size w (((w.alloc o).alloc p).alloc q) ∧ (((w.alloc o).alloc p).alloc q).heap.size = w.heap.size + 3 ∧ (((w.alloc o).alloc p).alloc q).heap[w.heap.size]? = some o ∧ (((w.alloc o).alloc p).alloc q).heap[w.heap.size + 1]? = some p ∧ (((w.alloc o).alloc p).alloc q).heap[w.heap.size + 1 + 1]? = some q := by
  refine ⟨(three_new w o p q).1, (three_new w o p q).2.1, ?_, (three_new w o p q).2.2.1, (three_new w o p q).2.2.2⟩
  show (((w.heap.push o).push p).push q)[w.heap.size]? = some o
  rw [Array.getElem?_push, if_neg (by simp <;> omega), Array.getElem?_push, if_neg (by simp), Array.getElem?_push, if_pos rfl]

/-- what an act that was done answers -/
def endAns (o : List FileD) : List FileD × Bool := if diskOk o = true then (o, true) else ([], false)
theorem doAns_of {l o : List FileD} {a : ActD} (hok : actOk l a = true) (ht : doTry l a = some o) : doAns l a = endAns o := by
  unfold doAns doAct endAns
  rw [if_pos hok, ht]
  dsimp only
  cases diskOk o <;> rfl
theorem doAns_no {l : List FileD} {a : ActD} (ht : doTry l a = none) : doAns l a = ([], false) := by
  simp [doAns, doAct, ht]

/-- the boxes of DoAct: disk, act, answer, file, disk that is made -/
structure ActIn (w : World) (F : Nat) (dv : Value) (acs : List Value) (f : FileD) (ov : Value) (W : World) : Prop where
  below : Below w.heap.size w W
  disk : BlockIs W w.heap.size 26 [dv]
  act : BlockIs W (w.heap.size + 1) 74 acs
  res : BlockIs W (w.heap.size + 1 + 1) 26 [.slice none 0 0]
  file : BlockIs W F 61 [.string f.name, .string f.text, .int .i64 f.kept]
  out : BlockIs W (F + 1) 26 [ov]
  far : w.heap.size + 2 < F
theorem ActIn.start {w w2 : World} {dv : Value} {acs : List Value} (hb : Below w.heap.size w w2) (h : BlockIs w2 w.heap.size 26 [dv] ∧ BlockIs w2 (w.heap.size + 1) 74 acs ∧ BlockIs w2 (w.heap.size + 1 + 1) 26 [.slice none 0 0]) (f : FileD) (ov : Value) :
    ActIn w w2.heap.size dv acs f ov ((w2.alloc (.cells #[.string f.name, .string f.text, .int .i64 f.kept] 61)).alloc (.cells #[ov] 26)) := by
  have b1 := below_more (below_more (Below.refl w2.heap.size w2) (.cells #[.string f.name, .string f.text, .int .i64 f.kept] 61)) (.cells #[ov] 26)
  have h0 : BlockIs (w2.alloc (.cells #[.string f.name, .string f.text, .int .i64 f.kept] 61)) w2.heap.size 61 [.string f.name, .string f.text, .int .i64 f.kept] := heap_alloc_new w2 _
  have h1 : BlockIs ((w2.alloc (.cells #[.string f.name, .string f.text, .int .i64 f.kept] 61)).alloc (.cells #[ov] 26)) (w2.heap.size + 1) 26 [ov] := by
    have := heap_alloc_new (w2.alloc (.cells #[.string f.name, .string f.text, .int .i64 f.kept] 61)) (.cells #[ov] 26)
    rw [show (w2.alloc (.cells #[.string f.name, .string f.text, .int .i64 f.kept] 61)).heap.size = w2.heap.size + 1 by simp [World.alloc, -World.alloc_eq]] at this
    exact this
  exact ⟨below_via hb b1, h.1.on b1 h.1.lt, h.2.1.on b1 h.2.1.lt, h.2.2.on b1 h.2.2.lt, h0.on (below_more (Below.refl _ _) _) h0.lt, h1, by have := h.2.2.lt; omega⟩
theorem ActIn.on {w W W' : World} {F : Nat} {dv ov : Value} {acs : List Value} {f : FileD} (h : ActIn w F dv acs f ov W) (hb : Below W.heap.size W W') : ActIn w F dv acs f ov W' :=
  ⟨below_via h.below hb, h.disk.on hb h.disk.lt, h.act.on hb h.act.lt, h.res.on hb h.res.lt, h.file.on hb h.file.lt, h.out.on hb h.out.lt, h.far⟩
theorem ActIn.drew {w W : World} {F : Nat} {dv ov : Value} {acs : List Value} {f : FileD} (h : ActIn w F dv acs f ov W) : ActIn w F dv acs f ov W.drew := h.on (below_drewN (Below.refl _ _) 1)
theorem ActIn.setName {w W : World} {F : Nat} {dv ov : Value} {acs : List Value} {f : FileD} (h : ActIn w F dv acs f ov W) (s : ByteArray) : ActIn w F dv acs ⟨s, f.text, f.kept⟩ ov (W.setCell ⟨F, 0, none⟩ (.string s)) :=
  ⟨h.below.setCell (by show _ ≤ F; have := h.far; omega) _, h.disk.far (by have := h.far; omega) _, h.act.far (by have := h.far; omega) _, h.res.far (by have := h.far; omega) _, h.file.set 0 _, h.out.far (by omega) _, h.far⟩
theorem ActIn.setText {w W : World} {F : Nat} {dv ov : Value} {acs : List Value} {f : FileD} (h : ActIn w F dv acs f ov W) (s : ByteArray) : ActIn w F dv acs ⟨f.name, s, f.kept⟩ ov (W.setCell ⟨F, 1, none⟩ (.string s)) :=
  ⟨h.below.setCell (by show _ ≤ F; have := h.far; omega) _, h.disk.far (by have := h.far; omega) _, h.act.far (by have := h.far; omega) _, h.res.far (by have := h.far; omega) _, h.file.set 1 _, h.out.far (by omega) _, h.far⟩
theorem ActIn.setKept {w W : World} {F : Nat} {dv ov : Value} {acs : List Value} {f : FileD} (h : ActIn w F dv acs f ov W) (z : Int) : ActIn w F dv acs ⟨f.name, f.text, z⟩ ov (W.setCell ⟨F, 2, none⟩ (.int .i64 z)) :=
  ⟨h.below.setCell (by show _ ≤ F; have := h.far; omega) _, h.disk.far (by have := h.far; omega) _, h.act.far (by have := h.far; omega) _, h.res.far (by have := h.far; omega) _, h.file.set 2 _, h.out.far (by omega) _, h.far⟩
theorem ActIn.setOut {w W : World} {F : Nat} {dv ov : Value} {acs : List Value} {f : FileD} (h : ActIn w F dv acs f ov W) (v : Value) : ActIn w F dv acs f v (W.setCell ⟨F + 1, 0, none⟩ v) :=
  ⟨h.below.setCell (by show _ ≤ F + 1; have := h.far; omega) _, h.disk.far (by have := h.far; omega) _, h.act.far (by have := h.far; omega) _, h.res.far (by have := h.far; omega) _, h.file.far (by omega) _, h.out.set 0 _, h.far⟩
/-- all cells that are read -/
theorem ActIn.cells {w W : World} {F : Nat} {dv ov c0 c1 c2 c3 : Value} {f : FileD} (h : ActIn w F dv [c0, c1, c2, c3] f ov W) :
    W.cell? ⟨w.heap.size, 0, none⟩ = some dv ∧ W.cell? ⟨w.heap.size + 1, 0, none⟩ = some c0 ∧ W.cell? ⟨w.heap.size + 1, 1, none⟩ = some c1 ∧ W.cell? ⟨w.heap.size + 1, 2, none⟩ = some c2 ∧ W.cell? ⟨w.heap.size + 1, 3, none⟩ = some c3 ∧ W.cell? ⟨w.heap.size + 1 + 1, 0, none⟩ = some (.slice none 0 0) ∧
    W.cell? ⟨F, 0, none⟩ = some (.string f.name) ∧ W.cell? ⟨F, 1, none⟩ = some (.string f.text) ∧ W.cell? ⟨F, 2, none⟩ = some (.int .i64 f.kept) ∧ W.cell? ⟨F + 1, 0, none⟩ = some ov ∧ W.frozen? ⟨w.heap.size + 1 + 1, 0, none⟩ = false ∧ (W.frozen? ⟨F, 0, none⟩ = false ∧ W.frozen? ⟨F, 1, none⟩ = false ∧ W.frozen? ⟨F, 2, none⟩ = false) ∧ W.frozen? ⟨F + 1, 0, none⟩ = false :=
  ⟨h.disk.cell (j := 0) rfl, h.act.cell (j := 0) rfl, h.act.cell (j := 1) rfl, h.act.cell (j := 2) rfl, h.act.cell (j := 3) rfl, h.res.cell (j := 0) rfl, h.file.cell (j := 0) rfl, h.file.cell (j := 1) rfl, h.file.cell (j := 2) rfl, h.out.cell (j := 0) rfl, h.res.thaw 0, ⟨h.file.thaw 0, h.file.thaw 1, h.file.thaw 2⟩, h.out.thaw 0⟩
theorem OwnAt.farD {w : World} {t : TypeId} {cs : List Value} {n : Nat} {va : Option Addr} {lo hi b j : Nat} (h : OwnAt w t cs n va lo hi) (hb : b < lo) (v : Value) : OwnAt (w.setCell ⟨b, j, none⟩ v) t cs n va lo hi :=
  h.imp id fun ⟨g, r, a, b, c, d⟩ => ⟨g, r, a, b, c, d.far (by omega) _⟩
theorem size_setCell (w : World) (a : Addr) (v : Value) : (w.setCell a v).heap.size = w.heap.size := by simp [World.setCell]
theorem own_ret {w : World} {t t2 : TypeId} {cs cs2 : List Value} {n : Nat} {va : Option Addr} {lo hi b : Nat} {v : Value} (h : OwnAt w t cs n va lo hi) (hb : BlockIs w b t2 cs2) (hhi : hi ≤ w.heap.size) (hne : t ≠ t2) : OwnAt (w.setCell ⟨b, 0, none⟩ v) t cs n va lo (w.setCell ⟨b, 0, none⟩ v).heap.size :=
  h.imp id fun ⟨g, r, a, c, d, k⟩ => ⟨g, r, a, c, by rw [size_setCell]; omega, k.far (fun e => by
    subst e
    unfold BlockIs at hb k
    rw [hb] at k
    simp at k
    exact hne k.2.symm) _⟩
theorem put_small (l : List FileD) (f : FileD) : (filesPut l f).length ≤ l.length + 1 := by
  rw [put_length]
  have : (filesNot l f.name).length ≤ l.length := List.length_filter_le _ _
  omega
theorem not_small (l : List FileD) (x : ByteArray) : (filesNot l x).length ≤ l.length := List.length_filter_le _ _

set_option maxRecDepth 1000000 in
set_option maxHeartbeats 4000000 in
theorem specAdd_any (ao : Option Addr) (l : List FileD) (cap : Nat) (name text : ByteArray) (hd : diskOk l = true) (hn : nameOk name = true) (ht : text.size ≤ 1048576) (w : World) (ha : FilesAt w ao l) :
    Calls Tryz.prog 39 #[.agg #[.slice ao l.length cap], .agg #[.int .i64 1, .string name, .string text, .string ByteArray.empty]] w fun e w' => ∃ va vc, e = .returned (.tuple #[.agg #[.slice va (doAns l ⟨1, name, text, ByteArray.empty⟩).1.length vc], .bool (doAns l ⟨1, name, text, ByteArray.empty⟩).2]) ∧ OwnAt w' 61 (fileCells (doAns l ⟨1, name, text, ByteArray.empty⟩).1) (doAns l ⟨1, name, text, ByteArray.empty⟩).1.length va w.heap.size w'.heap.size ∧ Below w.heap.size w w' := by
  have HA := hid ha
  have hl : l.length ≤ 30 := (diskOk_iff.1 hd).1
  have h3 := three_boxes w (.cells #[.slice ao l.length cap] 26) (.cells #[.int .i64 1, .string name, .string text, .string ByteArray.empty] 74) (.cells #[.slice none 0 0] 26)
  have H3 := hid h3
  clear h3 ha
  obtain ⟨W0, hW0⟩ : ∃ W0, ((w.alloc (.cells #[.slice ao l.length cap] 26)).alloc (.cells #[.int .i64 1, .string name, .string text, .string ByteArray.empty] 74)).alloc (.cells #[.slice none 0 0] 26) = W0 := ⟨_, rfl⟩
  rw [hW0] at H3
  have X0 : Hid (BlockIs W0 w.heap.size 26 [.slice ao l.length cap] ∧ BlockIs W0 (w.heap.size + 1) 74 [.int .i64 1, .string name, .string text, .string ByteArray.empty] ∧ BlockIs W0 (w.heap.size + 1 + 1) 26 [.slice none 0 0]) := H3.out.2.2
  have c0 := X0.out.1.cell (j := 0) rfl
  have C := hid (fun w ha => specDiskOk_any ao l cap (by omega) w ha)
  rw [hd] at C
  have cN' := fun w => l03Name_any name w
  rw [hn] at cN'
  have cN := hid cN'
  have cAt := hid (fun w ha => l03At_any ao l cap name (by omega) w ha)
  have HD := hid hd
  have HN := hid hn
  clear cN' hd hn
  go_enter Tryz.func39, Tryz.ntmps39
  go_wp2_with fail
  refine (C.out W0 (HA.out.on H3.out.1)).mono ?_
  rintro e w1 ⟨rfl, b1⟩
  have B1 := hid (below_via H3.out.1 b1)
  have X1 := hid (And.intro (X0.out.1.on b1 X0.out.1.lt) (And.intro (X0.out.2.1.on b1 X0.out.2.1.lt) (X0.out.2.2.on b1 X0.out.2.2.lt)))
  have a0 := X1.out.2.1.cell (j := 0) rfl
  have a1 := X1.out.2.1.cell (j := 1) rfl
  have a2 := X1.out.2.1.cell (j := 2) rfl
  have a3 := X1.out.2.1.cell (j := 3) rfl
  have d0 := X1.out.1.cell (j := 0) rfl
  clear b1 C H3 X0 c0 hW0 W0
  go_wp2_with fail
  refine (cN.out _).mono ?_
  rintro e w' ⟨rfl, hw⟩
  rw [hw]
  clear hw w' cN
  go_wp2_with fail
  refine (cAt.out _ (HA.out.on B1.out)).mono ?_
  rintro e w2 ⟨hor, b2⟩
  have B2 := hid (below_via B1.out b2)
  have X2 := hid (And.intro (X1.out.1.on b2 X1.out.1.lt) (And.intro (X1.out.2.1.on b2 X1.out.2.1.lt) (X1.out.2.2.on b2 X1.out.2.2.lt)))
  clear b2 cAt B1 X1 a0 a1 a2 a3 d0
  have a0 := X2.out.2.1.cell (j := 0) rfl
  have a1 := X2.out.2.1.cell (j := 1) rfl
  have a2 := X2.out.2.1.cell (j := 2) rfl
  have a3 := X2.out.2.1.cell (j := 3) rfl
  have d0 := X2.out.1.cell (j := 0) rfl
  have r0 := X2.out.2.2.cell (j := 0) rfl
  have s0 := X2.out.2.2.thaw 0
  rcases hor with ⟨k, hfirst, rfl⟩ | ⟨hnone, rfl⟩
  · have hk := hfirst.1
    have hk' : (k : Int) < (l.length : Int) := by omega
    have hk0 : (0 : Int) ≤ (k : Int) := by omega
    have hk1 : ¬ (k : Int) < 0 := by omega
    have htk : l[k].text.size ≤ 20000 := (diskOk_kept HD.out hk).2.2
    have hne : l ≠ [] := by intro e; rw [e] at hk; simp at hk
    obtain ⟨b, off, rfl, hc⟩ := HA.out.on B2.out hne
    obtain ⟨x0', x1', x2'⟩ := hc k hk
    have hbF := below_more (Below.refl w2.heap.size w2) (.cells #[.string name, .string ⟨#[]⟩, .int .i64 0] 61)
    have x0 := (hbF.cell (p := ⟨b, off + k * 3, none⟩) (World.block_lt_of_cell? w2 _ x0')).trans x0'
    have x1 := (hbF.cell (p := ⟨b, off + k * 3 + 1, none⟩) (World.block_lt_of_cell? w2 _ x1')).trans x1'
    have x2 := (hbF.cell (p := ⟨b, off + k * 3 + 2, none⟩) (World.block_lt_of_cell? w2 _ x2')).trans x2'
    have d1 := (hbF.cell (p := ⟨w.heap.size, 0, none⟩) (World.block_lt_of_cell? w2 _ d0)).trans d0
    have HFD : Hid (foundOf l name = some l[k]) := found_some hfirst
    have HNM : Hid (l[k].name = name) := hfirst.2.1
    have p1 := a1
    clear hc x0' x1' x2' hbF d0 a0 a1 a2 a3 r0 s0 hfirst
    obtain ⟨Wa, hWa⟩ : ∃ Wa, (w2.alloc (.cells #[.string l[k].name, .string l[k].text, .int .i64 l[k].kept] 61)).alloc (.cells #[.slice none 0 0] 26) = Wa := ⟨_, rfl⟩
    have Ya : Hid (ActIn w w2.heap.size (.slice (some ⟨b, off, none⟩) l.length cap) [.int .i64 1, .string name, .string text, .string ByteArray.empty] l[k] (.slice none 0 0) Wa) := by rw [← hWa]; exact hid (ActIn.start B2.out X2.out l[k] (.slice none 0 0))
    obtain ⟨W3, hW3⟩ : ∃ W3, Wa.setCell ⟨w2.heap.size + 1, 0, none⟩ (.slice none 0 0) = W3 := ⟨_, rfl⟩
    have Y3 := hid (Ya.out.setOut (.slice none 0 0))
    rw [hW3] at Y3
    obtain ⟨-, -, -, -, -, -, -, -, -, ya0, -, -, ya1⟩ := Ya.out.cells
    obtain ⟨d0, a0, a1, a2, a3, r0, f0, f1, f2, o0, s0, ⟨t0, t1, t2⟩, u0⟩ := Y3.out.cells
    clear Ya
    obtain ⟨W4, hW4⟩ : ∃ W4, W3.setCell ⟨w2.heap.size, 1, none⟩ (.string (l[k].text ++ text)) = W4 := ⟨_, rfl⟩
    have Y4' := hid (Y3.out.setText (l[k].text ++ text))
    rw [hW4] at Y4'
    obtain ⟨e0, g0, g1, g2, g3, -, e1, e2, e3, -, -, -, -⟩ := Y4'.out.cells
    have CP := hid (l03Put_any (some ⟨b, off, none⟩) l cap ⟨l[k].name, l[k].text ++ text, l[k].kept⟩ (by omega) W4 (HA.out.on Y4'.out.below))
    unfold FileD.value at CP
    go_wp2_with fail
    refine Calls.mono CP.out ?_
    rintro e w4 ⟨v, rfl, hrow, b4⟩
    obtain ⟨va, vc, rfl, hown⟩ := own_of_row hrow
    have Y4 := hid (Y4'.out.on b4)
    have hlo := b4.size
    have hF := Y4'.out.out.lt
    obtain ⟨o, ho⟩ : ∃ o, filesPut l ⟨l[k].name, l[k].text ++ text, l[k].kept⟩ = o := ⟨_, rfl⟩
    rw [ho] at hown ⊢
    obtain ⟨W5, hW5⟩ : ∃ W5, w4.setCell ⟨w2.heap.size + 1, 0, none⟩ (.slice va o.length vc) = W5 := ⟨_, rfl⟩
    have Y5 := hid (Y4.out.setOut (.slice va o.length vc))
    rw [hW5] at Y5
    have Q5 : Hid (OwnAt W5 61 (fileCells o) o.length va w.heap.size W5.heap.size) := by
      rw [← hW5]
      have := Y4.out.far
      exact hid ((hown.farD (by omega) _).down (by omega) (by rw [size_setCell]; exact Nat.le_refl _))
    have hol : o.length ≤ 16777216 := by rw [← ho]; exact (by have := put_small l ⟨l[k].name, l[k].text ++ text, l[k].kept⟩; omega)
    have C5 := hid (specDiskOk_any va o vc hol W5 Q5.out.files)
    have hfin := hid (doAns_of (show actOk l ⟨1, name, text, ByteArray.empty⟩ = true by simp [actOk, HD.out, HN.out, blank]) (o := filesPut l ⟨l[k].name, l[k].text ++ text, l[k].kept⟩) (by unfold doTry; rw [if_pos rfl]; dsimp only; rw [HFD.out]; dsimp only [Option.getD]; rw [HNM.out]))
    rw [ho] at hfin
    obtain ⟨-, -, -, -, -, -, -, -, -, u4, -, -, u5⟩ := Y4.out.cells
    obtain ⟨-, -, -, -, -, -, -, -, -, u6, -, -, -⟩ := Y5.out.cells
    clear b4 hrow hown Y4 CP hlo hF ho Y4' hW4 W4 e0 e1 e2 e3 g0 g1 g2 g3 hW3 Y3 hWa ya0 ya1 d0 a0 a1 a2 a3 r0 f0 f1 f2 o0 s0 t0 t1 t2 u0 p1 x0 x1 x2 d1
    go_wp2_with fail
    refine Calls.mono C5.out ?_
    rintro e w6 ⟨rfl, b6⟩
    have Y6 := hid (Y5.out.on b6)
    have Q6 := hid (Q5.out.on b6)
    have hs6 := b6.size
    obtain ⟨-, -, -, -, -, q0, -, -, -, q1, q2, -, -⟩ := Y6.out.cells
    clear b6 C5 Y5 Q5 u4 u5 u6 hW5
    cases hdo : diskOk o with
    | true =>
      have HB := hid (Y6.out.below.setCell (p := ⟨w.heap.size + 1 + 1, 0, none⟩) (by show _ ≤ _ + 1 + 1; omega) (.slice va o.length vc))
      have HO := hid (And.intro Q6.out Y6.out.far)
      have HDO := hid hdo
      have HR := hid Y6.out.res
      clear Y6 Q6 hdo
      go_wp2
      refine bodyPost_ret (v := .tuple #[.agg #[.slice va o.length vc], .bool true]) (by simp [results, Tryz.results39, go_sem, q0]) rfl ?_
      rw [hfin.out, endAns, if_pos HDO.out]
      refine ⟨va, vc, rfl, ?_, HB.out⟩
      exact own_ret HO.out.1 HR.out hs6 (by decide)
    | false =>
      have HB := hid (Y6.out.below.setCell (p := ⟨w.heap.size + 1 + 1, 0, none⟩) (by show _ ≤ _ + 1 + 1; omega) (.slice none 0 0))
      have HDO := hid hdo
      clear Y6 Q6 hdo
      go_wp2
      refine bodyPost_ret (v := .tuple #[.agg #[.slice none 0 0], .bool false]) (by simp [results, Tryz.results39, go_sem, q0]) rfl ?_
      rw [hfin.out, endAns, if_neg (by rw [HDO.out]; simp)]
      exact ⟨none, 0, rfl, Or.inl rfl, HB.out⟩

  · have HFD : Hid (foundOf l name = none) := found_none hnone
    have p1 := a1
    clear d0 a0 a1 a2 a3 r0 s0 hnone
    obtain ⟨Wa, hWa⟩ : ∃ Wa, (w2.alloc (.cells #[.string name, .string ⟨#[]⟩, .int .i64 0] 61)).alloc (.cells #[.slice none 0 0] 26) = Wa := ⟨_, rfl⟩
    have Ya : Hid (ActIn w w2.heap.size (.slice ao l.length cap) [.int .i64 1, .string name, .string text, .string ByteArray.empty] (⟨name, ⟨#[]⟩, 0⟩ : FileD) (.slice none 0 0) Wa) := by rw [← hWa]; exact hid (ActIn.start B2.out X2.out (⟨name, ⟨#[]⟩, 0⟩ : FileD) (.slice none 0 0))
    obtain ⟨W3, hW3⟩ : ∃ W3, Wa.setCell ⟨w2.heap.size + 1, 0, none⟩ (.slice none 0 0) = W3 := ⟨_, rfl⟩
    have Y3 := hid (Ya.out.setOut (.slice none 0 0))
    rw [hW3] at Y3
    obtain ⟨-, -, -, -, -, -, -, -, -, ya0, -, -, ya1⟩ := Ya.out.cells
    obtain ⟨d0, a0, a1, a2, a3, r0, f0, f1, f2, o0, s0, ⟨t0, t1, t2⟩, u0⟩ := Y3.out.cells
    clear Ya
    obtain ⟨W4, hW4⟩ : ∃ W4, W3.setCell ⟨w2.heap.size, 1, none⟩ (.string (⟨#[]⟩ ++ text)) = W4 := ⟨_, rfl⟩
    have Y4' := hid (Y3.out.setText (⟨#[]⟩ ++ text))
    rw [hW4] at Y4'
    obtain ⟨e0, g0, g1, g2, g3, -, e1, e2, e3, -, -, -, -⟩ := Y4'.out.cells
    have CP := hid (l03Put_any ao l cap ⟨name, ⟨#[]⟩ ++ text, 0⟩ (by omega) W4 (HA.out.on Y4'.out.below))
    unfold FileD.value at CP
    go_wp2_with fail
    refine Calls.mono CP.out ?_
    rintro e w4 ⟨v, rfl, hrow, b4⟩
    obtain ⟨va, vc, rfl, hown⟩ := own_of_row hrow
    have Y4 := hid (Y4'.out.on b4)
    have hlo := b4.size
    have hF := Y4'.out.out.lt
    obtain ⟨o, ho⟩ : ∃ o, filesPut l ⟨name, ⟨#[]⟩ ++ text, 0⟩ = o := ⟨_, rfl⟩
    rw [ho] at hown ⊢
    obtain ⟨W5, hW5⟩ : ∃ W5, w4.setCell ⟨w2.heap.size + 1, 0, none⟩ (.slice va o.length vc) = W5 := ⟨_, rfl⟩
    have Y5 := hid (Y4.out.setOut (.slice va o.length vc))
    rw [hW5] at Y5
    have Q5 : Hid (OwnAt W5 61 (fileCells o) o.length va w.heap.size W5.heap.size) := by
      rw [← hW5]
      have := Y4.out.far
      exact hid ((hown.farD (by omega) _).down (by omega) (by rw [size_setCell]; exact Nat.le_refl _))
    have hol : o.length ≤ 16777216 := by rw [← ho]; exact (by have := put_small l ⟨name, ⟨#[]⟩ ++ text, 0⟩; omega)
    have C5 := hid (specDiskOk_any va o vc hol W5 Q5.out.files)
    have hfin := hid (doAns_of (show actOk l ⟨1, name, text, ByteArray.empty⟩ = true by simp [actOk, HD.out, HN.out, blank]) (o := filesPut l ⟨name, ⟨#[]⟩ ++ text, 0⟩) (by unfold doTry; rw [if_pos rfl]; dsimp only; rw [HFD.out]; rfl))
    rw [ho] at hfin
    obtain ⟨-, -, -, -, -, -, -, -, -, u4, -, -, u5⟩ := Y4.out.cells
    obtain ⟨-, -, -, -, -, -, -, -, -, u6, -, -, -⟩ := Y5.out.cells
    clear b4 hrow hown Y4 CP hlo hF ho Y4' hW4 W4 e0 e1 e2 e3 g0 g1 g2 g3 hW3 Y3 hWa ya0 ya1 d0 a0 a1 a2 a3 r0 f0 f1 f2 o0 s0 t0 t1 t2 u0 p1
    go_wp2_with fail
    refine Calls.mono C5.out ?_
    rintro e w6 ⟨rfl, b6⟩
    have Y6 := hid (Y5.out.on b6)
    have Q6 := hid (Q5.out.on b6)
    have hs6 := b6.size
    obtain ⟨-, -, -, -, -, q0, -, -, -, q1, q2, -, -⟩ := Y6.out.cells
    clear b6 C5 Y5 Q5 u4 u5 u6 hW5
    cases hdo : diskOk o with
    | true =>
      have HB := hid (Y6.out.below.setCell (p := ⟨w.heap.size + 1 + 1, 0, none⟩) (by show _ ≤ _ + 1 + 1; omega) (.slice va o.length vc))
      have HO := hid (And.intro Q6.out Y6.out.far)
      have HDO := hid hdo
      have HR := hid Y6.out.res
      clear Y6 Q6 hdo
      go_wp2
      refine bodyPost_ret (v := .tuple #[.agg #[.slice va o.length vc], .bool true]) (by simp [results, Tryz.results39, go_sem, q0]) rfl ?_
      rw [hfin.out, endAns, if_pos HDO.out]
      refine ⟨va, vc, rfl, ?_, HB.out⟩
      exact own_ret HO.out.1 HR.out hs6 (by decide)
    | false =>
      have HB := hid (Y6.out.below.setCell (p := ⟨w.heap.size + 1 + 1, 0, none⟩) (by show _ ≤ _ + 1 + 1; omega) (.slice none 0 0))
      have HDO := hid hdo
      clear Y6 Q6 hdo
      go_wp2
      refine bodyPost_ret (v := .tuple #[.agg #[.slice none 0 0], .bool false]) (by simp [results, Tryz.results39, go_sem, q0]) rfl ?_
      rw [hfin.out, endAns, if_neg (by rw [HDO.out]; simp)]
      exact ⟨none, 0, rfl, Or.inl rfl, HB.out⟩


set_option maxRecDepth 1000000 in
set_option maxHeartbeats 4000000 in
theorem specKeep_any (ao : Option Addr) (l : List FileD) (cap : Nat) (name : ByteArray) (hd : diskOk l = true) (hn : nameOk name = true) (w : World) (ha : FilesAt w ao l) :
    Calls Tryz.prog 39 #[.agg #[.slice ao l.length cap], .agg #[.int .i64 2, .string name, .string ByteArray.empty, .string ByteArray.empty]] w fun e w' => ∃ va vc, e = .returned (.tuple #[.agg #[.slice va (doAns l ⟨2, name, ByteArray.empty, ByteArray.empty⟩).1.length vc], .bool (doAns l ⟨2, name, ByteArray.empty, ByteArray.empty⟩).2]) ∧ OwnAt w' 61 (fileCells (doAns l ⟨2, name, ByteArray.empty, ByteArray.empty⟩).1) (doAns l ⟨2, name, ByteArray.empty, ByteArray.empty⟩).1.length va w.heap.size w'.heap.size ∧ Below w.heap.size w w' := by
  have HA := hid ha
  have hl : l.length ≤ 30 := (diskOk_iff.1 hd).1
  have h3 := three_boxes w (.cells #[.slice ao l.length cap] 26) (.cells #[.int .i64 2, .string name, .string ByteArray.empty, .string ByteArray.empty] 74) (.cells #[.slice none 0 0] 26)
  have H3 := hid h3
  clear h3 ha
  obtain ⟨W0, hW0⟩ : ∃ W0, ((w.alloc (.cells #[.slice ao l.length cap] 26)).alloc (.cells #[.int .i64 2, .string name, .string ByteArray.empty, .string ByteArray.empty] 74)).alloc (.cells #[.slice none 0 0] 26) = W0 := ⟨_, rfl⟩
  rw [hW0] at H3
  have X0 : Hid (BlockIs W0 w.heap.size 26 [.slice ao l.length cap] ∧ BlockIs W0 (w.heap.size + 1) 74 [.int .i64 2, .string name, .string ByteArray.empty, .string ByteArray.empty] ∧ BlockIs W0 (w.heap.size + 1 + 1) 26 [.slice none 0 0]) := H3.out.2.2
  have c0 := X0.out.1.cell (j := 0) rfl
  have C := hid (fun w ha => specDiskOk_any ao l cap (by omega) w ha)
  rw [hd] at C
  have cN' := fun w => l03Name_any name w
  rw [hn] at cN'
  have cN := hid cN'
  have cAt := hid (fun w ha => l03At_any ao l cap name (by omega) w ha)
  have HD := hid hd
  have HN := hid hn
  clear cN' hd hn
  go_enter Tryz.func39, Tryz.ntmps39
  go_wp2_with fail
  refine (C.out W0 (HA.out.on H3.out.1)).mono ?_
  rintro e w1 ⟨rfl, b1⟩
  have B1 := hid (below_via H3.out.1 b1)
  have X1 := hid (And.intro (X0.out.1.on b1 X0.out.1.lt) (And.intro (X0.out.2.1.on b1 X0.out.2.1.lt) (X0.out.2.2.on b1 X0.out.2.2.lt)))
  have a0 := X1.out.2.1.cell (j := 0) rfl
  have a1 := X1.out.2.1.cell (j := 1) rfl
  have a2 := X1.out.2.1.cell (j := 2) rfl
  have a3 := X1.out.2.1.cell (j := 3) rfl
  have d0 := X1.out.1.cell (j := 0) rfl
  clear b1 C H3 X0 c0 hW0 W0
  go_wp2_with fail
  refine (cN.out _).mono ?_
  rintro e w' ⟨rfl, hw⟩
  rw [hw]
  clear hw w' cN
  go_wp2_with fail
  refine (cAt.out _ (HA.out.on B1.out)).mono ?_
  rintro e w2 ⟨hor, b2⟩
  have B2 := hid (below_via B1.out b2)
  have X2 := hid (And.intro (X1.out.1.on b2 X1.out.1.lt) (And.intro (X1.out.2.1.on b2 X1.out.2.1.lt) (X1.out.2.2.on b2 X1.out.2.2.lt)))
  clear b2 cAt B1 X1 a0 a1 a2 a3 d0
  have a0 := X2.out.2.1.cell (j := 0) rfl
  have a1 := X2.out.2.1.cell (j := 1) rfl
  have a2 := X2.out.2.1.cell (j := 2) rfl
  have a3 := X2.out.2.1.cell (j := 3) rfl
  have d0 := X2.out.1.cell (j := 0) rfl
  have r0 := X2.out.2.2.cell (j := 0) rfl
  have s0 := X2.out.2.2.thaw 0
  rcases hor with ⟨k, hfirst, rfl⟩ | ⟨hnone, rfl⟩
  · have hk := hfirst.1
    have hk' : (k : Int) < (l.length : Int) := by omega
    have hk0 : (0 : Int) ≤ (k : Int) := by omega
    have hk1 : ¬ (k : Int) < 0 := by omega
    have htk : l[k].text.size ≤ 20000 := (diskOk_kept HD.out hk).2.2
    have hne : l ≠ [] := by intro e; rw [e] at hk; simp at hk
    obtain ⟨b, off, rfl, hc⟩ := HA.out.on B2.out hne
    obtain ⟨x0', x1', x2'⟩ := hc k hk
    have hbF := below_more (Below.refl w2.heap.size w2) (.cells #[.string name, .string ⟨#[]⟩, .int .i64 0] 61)
    have x0 := (hbF.cell (p := ⟨b, off + k * 3, none⟩) (World.block_lt_of_cell? w2 _ x0')).trans x0'
    have x1 := (hbF.cell (p := ⟨b, off + k * 3 + 1, none⟩) (World.block_lt_of_cell? w2 _ x1')).trans x1'
    have x2 := (hbF.cell (p := ⟨b, off + k * 3 + 2, none⟩) (World.block_lt_of_cell? w2 _ x2')).trans x2'
    have d1 := (hbF.cell (p := ⟨w.heap.size, 0, none⟩) (World.block_lt_of_cell? w2 _ d0)).trans d0
    have HFD : Hid (foundOf l name = some l[k]) := found_some hfirst
    have HNM : Hid (l[k].name = name) := hfirst.2.1
    have p1 := a1
    clear hc x0' x1' x2' hbF d0 a0 a1 a2 a3 r0 s0 hfirst
    obtain ⟨Wa, hWa⟩ : ∃ Wa, (w2.alloc (.cells #[.string l[k].name, .string l[k].text, .int .i64 l[k].kept] 61)).alloc (.cells #[.slice none 0 0] 26) = Wa := ⟨_, rfl⟩
    have Ya : Hid (ActIn w w2.heap.size (.slice (some ⟨b, off, none⟩) l.length cap) [.int .i64 2, .string name, .string ByteArray.empty, .string ByteArray.empty] l[k] (.slice none 0 0) Wa) := by rw [← hWa]; exact hid (ActIn.start B2.out X2.out l[k] (.slice none 0 0))
    obtain ⟨W3, hW3⟩ : ∃ W3, Wa.setCell ⟨w2.heap.size + 1, 0, none⟩ (.slice none 0 0) = W3 := ⟨_, rfl⟩
    have Y3 := hid (Ya.out.setOut (.slice none 0 0))
    rw [hW3] at Y3
    obtain ⟨-, -, -, -, -, -, -, -, -, ya0, -, -, ya1⟩ := Ya.out.cells
    obtain ⟨d0, a0, a1, a2, a3, r0, f0, f1, f2, o0, s0, ⟨t0, t1, t2⟩, u0⟩ := Y3.out.cells
    clear Ya
    obtain ⟨W4, hW4⟩ : ∃ W4, W3.setCell ⟨w2.heap.size, 2, none⟩ (.int .i64 ((l[k].text.size : Int))) = W4 := ⟨_, rfl⟩
    have Y4' := hid (Y3.out.setKept ((l[k].text.size : Int)))
    rw [hW4] at Y4'
    obtain ⟨e0, g0, g1, g2, g3, -, e1, e2, e3, -, -, -, -⟩ := Y4'.out.cells
    have CP := hid (l03Put_any (some ⟨b, off, none⟩) l cap ⟨l[k].name, l[k].text, (l[k].text.size : Int)⟩ (by omega) W4 (HA.out.on Y4'.out.below))
    unfold FileD.value at CP
    go_wp2_with fail
    refine Calls.mono CP.out ?_
    rintro e w4 ⟨v, rfl, hrow, b4⟩
    obtain ⟨va, vc, rfl, hown⟩ := own_of_row hrow
    have Y4 := hid (Y4'.out.on b4)
    have hlo := b4.size
    have hF := Y4'.out.out.lt
    obtain ⟨o, ho⟩ : ∃ o, filesPut l ⟨l[k].name, l[k].text, (l[k].text.size : Int)⟩ = o := ⟨_, rfl⟩
    rw [ho] at hown ⊢
    obtain ⟨W5, hW5⟩ : ∃ W5, w4.setCell ⟨w2.heap.size + 1, 0, none⟩ (.slice va o.length vc) = W5 := ⟨_, rfl⟩
    have Y5 := hid (Y4.out.setOut (.slice va o.length vc))
    rw [hW5] at Y5
    have Q5 : Hid (OwnAt W5 61 (fileCells o) o.length va w.heap.size W5.heap.size) := by
      rw [← hW5]
      have := Y4.out.far
      exact hid ((hown.farD (by omega) _).down (by omega) (by rw [size_setCell]; exact Nat.le_refl _))
    have hol : o.length ≤ 16777216 := by rw [← ho]; exact (by have := put_small l ⟨l[k].name, l[k].text, (l[k].text.size : Int)⟩; omega)
    have C5 := hid (specDiskOk_any va o vc hol W5 Q5.out.files)
    have hfin := hid (doAns_of (show actOk l ⟨2, name, ByteArray.empty, ByteArray.empty⟩ = true by simp [actOk, HD.out, HN.out, blank]) (o := filesPut l ⟨l[k].name, l[k].text, (l[k].text.size : Int)⟩) (by unfold doTry; rw [if_neg (by simp), HFD.out]; dsimp only; rw [if_pos rfl]))
    rw [ho] at hfin
    obtain ⟨-, -, -, -, -, -, -, -, -, u4, -, -, u5⟩ := Y4.out.cells
    obtain ⟨-, -, -, -, -, -, -, -, -, u6, -, -, -⟩ := Y5.out.cells
    clear b4 hrow hown Y4 CP hlo hF ho Y4' hW4 W4 e0 e1 e2 e3 g0 g1 g2 g3 hW3 Y3 hWa ya0 ya1 d0 a0 a1 a2 a3 r0 f0 f1 f2 o0 s0 t0 t1 t2 u0 p1 x0 x1 x2 d1
    go_wp2_with fail
    refine Calls.mono C5.out ?_
    rintro e w6 ⟨rfl, b6⟩
    have Y6 := hid (Y5.out.on b6)
    have Q6 := hid (Q5.out.on b6)
    have hs6 := b6.size
    obtain ⟨-, -, -, -, -, q0, -, -, -, q1, q2, -, -⟩ := Y6.out.cells
    clear b6 C5 Y5 Q5 u4 u5 u6 hW5
    cases hdo : diskOk o with
    | true =>
      have HB := hid (Y6.out.below.setCell (p := ⟨w.heap.size + 1 + 1, 0, none⟩) (by show _ ≤ _ + 1 + 1; omega) (.slice va o.length vc))
      have HO := hid (And.intro Q6.out Y6.out.far)
      have HDO := hid hdo
      have HR := hid Y6.out.res
      clear Y6 Q6 hdo
      go_wp2
      refine bodyPost_ret (v := .tuple #[.agg #[.slice va o.length vc], .bool true]) (by simp [results, Tryz.results39, go_sem, q0]) rfl ?_
      rw [hfin.out, endAns, if_pos HDO.out]
      refine ⟨va, vc, rfl, ?_, HB.out⟩
      exact own_ret HO.out.1 HR.out hs6 (by decide)
    | false =>
      have HB := hid (Y6.out.below.setCell (p := ⟨w.heap.size + 1 + 1, 0, none⟩) (by show _ ≤ _ + 1 + 1; omega) (.slice none 0 0))
      have HDO := hid hdo
      clear Y6 Q6 hdo
      go_wp2
      refine bodyPost_ret (v := .tuple #[.agg #[.slice none 0 0], .bool false]) (by simp [results, Tryz.results39, go_sem, q0]) rfl ?_
      rw [hfin.out, endAns, if_neg (by rw [HDO.out]; simp)]
      exact ⟨none, 0, rfl, Or.inl rfl, HB.out⟩

  · have HFD : Hid (foundOf l name = none) := found_none hnone
    have p1 := a1
    clear d0 a0 a1 a2 a3 r0 s0 hnone
    obtain ⟨Wa, hWa⟩ : ∃ Wa, (w2.alloc (.cells #[.string name, .string ⟨#[]⟩, .int .i64 0] 61)).alloc (.cells #[.slice none 0 0] 26) = Wa := ⟨_, rfl⟩
    have Ya : Hid (ActIn w w2.heap.size (.slice ao l.length cap) [.int .i64 2, .string name, .string ByteArray.empty, .string ByteArray.empty] (⟨name, ⟨#[]⟩, 0⟩ : FileD) (.slice none 0 0) Wa) := by rw [← hWa]; exact hid (ActIn.start B2.out X2.out (⟨name, ⟨#[]⟩, 0⟩ : FileD) (.slice none 0 0))
    obtain ⟨W3, hW3⟩ : ∃ W3, Wa.setCell ⟨w2.heap.size + 1, 0, none⟩ (.slice none 0 0) = W3 := ⟨_, rfl⟩
    have Y3 := hid (Ya.out.setOut (.slice none 0 0))
    rw [hW3] at Y3
    obtain ⟨-, -, -, -, -, -, -, -, -, ya0, -, -, ya1⟩ := Ya.out.cells
    obtain ⟨d0, a0, a1, a2, a3, r0, f0, f1, f2, o0, s0, ⟨t0, t1, t2⟩, u0⟩ := Y3.out.cells
    clear Ya
    have hfin := hid (show doAns l ⟨2, name, ByteArray.empty, ByteArray.empty⟩ = ([], false) from doAns_no (by unfold doTry; rw [if_neg (by simp)]; dsimp only; rw [HFD.out]))
    have HB := hid (Y3.out.below.setCell (p := ⟨w.heap.size + 1 + 1, 0, none⟩) (by show _ ≤ _ + 1 + 1; omega) (.slice none 0 0))
    go_wp2
    refine bodyPost_ret (v := .tuple #[.agg #[.slice none 0 0], .bool false]) (by simp [results, Tryz.results39, go_sem, r0]) rfl ?_
    rw [hfin.out]
    exact ⟨none, 0, rfl, Or.inl rfl, HB.out⟩


set_option maxRecDepth 1000000 in
set_option maxHeartbeats 4000000 in
theorem specDrop_any (ao : Option Addr) (l : List FileD) (cap : Nat) (name : ByteArray) (hd : diskOk l = true) (hn : nameOk name = true) (w : World) (ha : FilesAt w ao l) :
    Calls Tryz.prog 39 #[.agg #[.slice ao l.length cap], .agg #[.int .i64 4, .string name, .string ByteArray.empty, .string ByteArray.empty]] w fun e w' => ∃ va vc, e = .returned (.tuple #[.agg #[.slice va (doAns l ⟨4, name, ByteArray.empty, ByteArray.empty⟩).1.length vc], .bool (doAns l ⟨4, name, ByteArray.empty, ByteArray.empty⟩).2]) ∧ OwnAt w' 61 (fileCells (doAns l ⟨4, name, ByteArray.empty, ByteArray.empty⟩).1) (doAns l ⟨4, name, ByteArray.empty, ByteArray.empty⟩).1.length va w.heap.size w'.heap.size ∧ Below w.heap.size w w' := by
  have HA := hid ha
  have hl : l.length ≤ 30 := (diskOk_iff.1 hd).1
  have h3 := three_boxes w (.cells #[.slice ao l.length cap] 26) (.cells #[.int .i64 4, .string name, .string ByteArray.empty, .string ByteArray.empty] 74) (.cells #[.slice none 0 0] 26)
  have H3 := hid h3
  clear h3 ha
  obtain ⟨W0, hW0⟩ : ∃ W0, ((w.alloc (.cells #[.slice ao l.length cap] 26)).alloc (.cells #[.int .i64 4, .string name, .string ByteArray.empty, .string ByteArray.empty] 74)).alloc (.cells #[.slice none 0 0] 26) = W0 := ⟨_, rfl⟩
  rw [hW0] at H3
  have X0 : Hid (BlockIs W0 w.heap.size 26 [.slice ao l.length cap] ∧ BlockIs W0 (w.heap.size + 1) 74 [.int .i64 4, .string name, .string ByteArray.empty, .string ByteArray.empty] ∧ BlockIs W0 (w.heap.size + 1 + 1) 26 [.slice none 0 0]) := H3.out.2.2
  have c0 := X0.out.1.cell (j := 0) rfl
  have C := hid (fun w ha => specDiskOk_any ao l cap (by omega) w ha)
  rw [hd] at C
  have cN' := fun w => l03Name_any name w
  rw [hn] at cN'
  have cN := hid cN'
  have cAt := hid (fun w ha => l03At_any ao l cap name (by omega) w ha)
  have HD := hid hd
  have HN := hid hn
  clear cN' hd hn
  go_enter Tryz.func39, Tryz.ntmps39
  go_wp2_with fail
  refine (C.out W0 (HA.out.on H3.out.1)).mono ?_
  rintro e w1 ⟨rfl, b1⟩
  have B1 := hid (below_via H3.out.1 b1)
  have X1 := hid (And.intro (X0.out.1.on b1 X0.out.1.lt) (And.intro (X0.out.2.1.on b1 X0.out.2.1.lt) (X0.out.2.2.on b1 X0.out.2.2.lt)))
  have a0 := X1.out.2.1.cell (j := 0) rfl
  have a1 := X1.out.2.1.cell (j := 1) rfl
  have a2 := X1.out.2.1.cell (j := 2) rfl
  have a3 := X1.out.2.1.cell (j := 3) rfl
  have d0 := X1.out.1.cell (j := 0) rfl
  clear b1 C H3 X0 c0 hW0 W0
  go_wp2_with fail
  refine (cN.out _).mono ?_
  rintro e w' ⟨rfl, hw⟩
  rw [hw]
  clear hw w' cN
  go_wp2_with fail
  refine (cAt.out _ (HA.out.on B1.out)).mono ?_
  rintro e w2 ⟨hor, b2⟩
  have B2 := hid (below_via B1.out b2)
  have X2 := hid (And.intro (X1.out.1.on b2 X1.out.1.lt) (And.intro (X1.out.2.1.on b2 X1.out.2.1.lt) (X1.out.2.2.on b2 X1.out.2.2.lt)))
  clear b2 cAt B1 X1 a0 a1 a2 a3 d0
  have a0 := X2.out.2.1.cell (j := 0) rfl
  have a1 := X2.out.2.1.cell (j := 1) rfl
  have a2 := X2.out.2.1.cell (j := 2) rfl
  have a3 := X2.out.2.1.cell (j := 3) rfl
  have d0 := X2.out.1.cell (j := 0) rfl
  have r0 := X2.out.2.2.cell (j := 0) rfl
  have s0 := X2.out.2.2.thaw 0
  rcases hor with ⟨k, hfirst, rfl⟩ | ⟨hnone, rfl⟩
  · have hk := hfirst.1
    have hk' : (k : Int) < (l.length : Int) := by omega
    have hk0 : (0 : Int) ≤ (k : Int) := by omega
    have hk1 : ¬ (k : Int) < 0 := by omega
    have htk : l[k].text.size ≤ 20000 := (diskOk_kept HD.out hk).2.2
    have hne : l ≠ [] := by intro e; rw [e] at hk; simp at hk
    obtain ⟨b, off, rfl, hc⟩ := HA.out.on B2.out hne
    obtain ⟨x0', x1', x2'⟩ := hc k hk
    have hbF := below_more (Below.refl w2.heap.size w2) (.cells #[.string name, .string ⟨#[]⟩, .int .i64 0] 61)
    have x0 := (hbF.cell (p := ⟨b, off + k * 3, none⟩) (World.block_lt_of_cell? w2 _ x0')).trans x0'
    have x1 := (hbF.cell (p := ⟨b, off + k * 3 + 1, none⟩) (World.block_lt_of_cell? w2 _ x1')).trans x1'
    have x2 := (hbF.cell (p := ⟨b, off + k * 3 + 2, none⟩) (World.block_lt_of_cell? w2 _ x2')).trans x2'
    have d1 := (hbF.cell (p := ⟨w.heap.size, 0, none⟩) (World.block_lt_of_cell? w2 _ d0)).trans d0
    have HFD : Hid (foundOf l name = some l[k]) := found_some hfirst
    have HNM : Hid (l[k].name = name) := hfirst.2.1
    have p1 := a1
    clear hc x0' x1' x2' hbF d0 a0 a1 a2 a3 r0 s0 hfirst
    obtain ⟨Wa, hWa⟩ : ∃ Wa, (w2.alloc (.cells #[.string l[k].name, .string l[k].text, .int .i64 l[k].kept] 61)).alloc (.cells #[.slice none 0 0] 26) = Wa := ⟨_, rfl⟩
    have Ya : Hid (ActIn w w2.heap.size (.slice (some ⟨b, off, none⟩) l.length cap) [.int .i64 4, .string name, .string ByteArray.empty, .string ByteArray.empty] l[k] (.slice none 0 0) Wa) := by rw [← hWa]; exact hid (ActIn.start B2.out X2.out l[k] (.slice none 0 0))
    obtain ⟨W3, hW3⟩ : ∃ W3, Wa.setCell ⟨w2.heap.size + 1, 0, none⟩ (.slice none 0 0) = W3 := ⟨_, rfl⟩
    have Y3 := hid (Ya.out.setOut (.slice none 0 0))
    rw [hW3] at Y3
    obtain ⟨-, -, -, -, -, -, -, -, -, ya0, -, -, ya1⟩ := Ya.out.cells
    obtain ⟨d0, a0, a1, a2, a3, r0, f0, f1, f2, o0, s0, ⟨t0, t1, t2⟩, u0⟩ := Y3.out.cells
    clear Ya
    have CP := hid (l03Without_any (some ⟨b, off, none⟩) l cap name (by omega) W3 (HA.out.on Y3.out.below))
    go_wp2_with fail
    refine Calls.mono CP.out ?_
    rintro e w4 ⟨v, rfl, hrow, b4⟩
    obtain ⟨va, vc, rfl, hown⟩ := own_of_row hrow
    have Y4 := hid (Y3.out.on b4)
    have hlo := b4.size
    have hF := Y3.out.out.lt
    obtain ⟨o, ho⟩ : ∃ o, filesNot l name = o := ⟨_, rfl⟩
    rw [ho] at hown ⊢
    obtain ⟨W5, hW5⟩ : ∃ W5, w4.setCell ⟨w2.heap.size + 1, 0, none⟩ (.slice va o.length vc) = W5 := ⟨_, rfl⟩
    have Y5 := hid (Y4.out.setOut (.slice va o.length vc))
    rw [hW5] at Y5
    have Q5 : Hid (OwnAt W5 61 (fileCells o) o.length va w.heap.size W5.heap.size) := by
      rw [← hW5]
      have := Y4.out.far
      exact hid ((hown.farD (by omega) _).down (by omega) (by rw [size_setCell]; exact Nat.le_refl _))
    have hol : o.length ≤ 16777216 := by rw [← ho]; exact (by have := not_small l name; omega)
    have C5 := hid (specDiskOk_any va o vc hol W5 Q5.out.files)
    have hfin := hid (doAns_of (show actOk l ⟨4, name, ByteArray.empty, ByteArray.empty⟩ = true by simp [actOk, HD.out, HN.out, blank]) (o := filesNot l name) (by unfold doTry; rw [if_neg (by simp), HFD.out]; dsimp only; rw [if_neg (by simp), if_neg (by simp), if_pos rfl]))
    rw [ho] at hfin
    obtain ⟨-, -, -, -, -, -, -, -, -, u4, -, -, u5⟩ := Y4.out.cells
    obtain ⟨-, -, -, -, -, -, -, -, -, u6, -, -, -⟩ := Y5.out.cells
    clear b4 hrow hown Y4 CP hlo hF ho hW3 Y3 hWa ya0 ya1 d0 a0 a1 a2 a3 r0 f0 f1 f2 o0 s0 t0 t1 t2 u0 p1 x0 x1 x2 d1
    go_wp2_with fail
    refine Calls.mono C5.out ?_
    rintro e w6 ⟨rfl, b6⟩
    have Y6 := hid (Y5.out.on b6)
    have Q6 := hid (Q5.out.on b6)
    have hs6 := b6.size
    obtain ⟨-, -, -, -, -, q0, -, -, -, q1, q2, -, -⟩ := Y6.out.cells
    clear b6 C5 Y5 Q5 u4 u5 u6 hW5
    cases hdo : diskOk o with
    | true =>
      have HB := hid (Y6.out.below.setCell (p := ⟨w.heap.size + 1 + 1, 0, none⟩) (by show _ ≤ _ + 1 + 1; omega) (.slice va o.length vc))
      have HO := hid (And.intro Q6.out Y6.out.far)
      have HDO := hid hdo
      have HR := hid Y6.out.res
      clear Y6 Q6 hdo
      go_wp2
      refine bodyPost_ret (v := .tuple #[.agg #[.slice va o.length vc], .bool true]) (by simp [results, Tryz.results39, go_sem, q0]) rfl ?_
      rw [hfin.out, endAns, if_pos HDO.out]
      refine ⟨va, vc, rfl, ?_, HB.out⟩
      exact own_ret HO.out.1 HR.out hs6 (by decide)
    | false =>
      have HB := hid (Y6.out.below.setCell (p := ⟨w.heap.size + 1 + 1, 0, none⟩) (by show _ ≤ _ + 1 + 1; omega) (.slice none 0 0))
      have HDO := hid hdo
      clear Y6 Q6 hdo
      go_wp2
      refine bodyPost_ret (v := .tuple #[.agg #[.slice none 0 0], .bool false]) (by simp [results, Tryz.results39, go_sem, q0]) rfl ?_
      rw [hfin.out, endAns, if_neg (by rw [HDO.out]; simp)]
      exact ⟨none, 0, rfl, Or.inl rfl, HB.out⟩

  · have HFD : Hid (foundOf l name = none) := found_none hnone
    have p1 := a1
    clear d0 a0 a1 a2 a3 r0 s0 hnone
    obtain ⟨Wa, hWa⟩ : ∃ Wa, (w2.alloc (.cells #[.string name, .string ⟨#[]⟩, .int .i64 0] 61)).alloc (.cells #[.slice none 0 0] 26) = Wa := ⟨_, rfl⟩
    have Ya : Hid (ActIn w w2.heap.size (.slice ao l.length cap) [.int .i64 4, .string name, .string ByteArray.empty, .string ByteArray.empty] (⟨name, ⟨#[]⟩, 0⟩ : FileD) (.slice none 0 0) Wa) := by rw [← hWa]; exact hid (ActIn.start B2.out X2.out (⟨name, ⟨#[]⟩, 0⟩ : FileD) (.slice none 0 0))
    obtain ⟨W3, hW3⟩ : ∃ W3, Wa.setCell ⟨w2.heap.size + 1, 0, none⟩ (.slice none 0 0) = W3 := ⟨_, rfl⟩
    have Y3 := hid (Ya.out.setOut (.slice none 0 0))
    rw [hW3] at Y3
    obtain ⟨-, -, -, -, -, -, -, -, -, ya0, -, -, ya1⟩ := Ya.out.cells
    obtain ⟨d0, a0, a1, a2, a3, r0, f0, f1, f2, o0, s0, ⟨t0, t1, t2⟩, u0⟩ := Y3.out.cells
    clear Ya
    have hfin := hid (show doAns l ⟨4, name, ByteArray.empty, ByteArray.empty⟩ = ([], false) from doAns_no (by unfold doTry; rw [if_neg (by simp)]; dsimp only; rw [HFD.out]))
    have HB := hid (Y3.out.below.setCell (p := ⟨w.heap.size + 1 + 1, 0, none⟩) (by show _ ≤ _ + 1 + 1; omega) (.slice none 0 0))
    go_wp2
    refine bodyPost_ret (v := .tuple #[.agg #[.slice none 0 0], .bool false]) (by simp [results, Tryz.results39, go_sem, r0]) rfl ?_
    rw [hfin.out]
    exact ⟨none, 0, rfl, Or.inl rfl, HB.out⟩

end Go.Proofs.YtoanhjjigbjecaaGreatDoor
