/-
  The walk of impl.opened: a right disk is opened.
-/
import Derived.Test.YtbbohfagnnobgaaJoint18
import Derived.Test.YtbbohfagnnobgaaJoint29
namespace Go.Proofs.Ytbbohfagnnobgaa
open Go.RowKit Go.Maps

theorem below_turned' {w w' : World} {b lo : Nat} (h : w.mapTurned w' b) (hlo : lo ≤ b) (hw : lo ≤ w.heap.size) : Below lo w w' :=
  (Below.refl lo w).grown h.grown hw (fun j hj => by cases hj; exact hlo)
theorem take_right {l : List FileD} (h : diskOk l = true) (k : Nat) : diskOk (l.take k) = true := by
  obtain ⟨h1, h2, h3⟩ := diskOk_iff.1 h
  exact diskOk_iff.2 ⟨by rw [List.length_take]; omega, fun f hf => h2 f (List.mem_of_mem_take hf), h3.sublist (List.take_sublist k l)⟩
theorem take_less {l : List FileD} (h : Asc l) {k : Nat} (hk : k < l.length) : ∀ f ∈ l.take k, f.name.toList < l[k].name.toList := by
  intro f hf
  obtain ⟨j, hj, rfl⟩ := List.getElem_of_mem hf
  rw [List.length_take] at hj
  rw [List.getElem_take]
  exact List.pairwise_iff_getElem.1 h j k (by omega) hk (by omega)
theorem put_take {l : List FileD} (h : Asc l) {k : Nat} (hk : k < l.length) : filesPut (l.take k) l[k] = l.take (k + 1) := by
  have hl := take_less h hk
  have a1 : filesLess (l.take k) l[k] = l.take k := by
    rw [filesLess, List.filter_eq_self]
    exact fun f hf => textLt_iff.2 (hl f hf)
  have a2 : (l.take k).filter (isMore l[k]) = [] := by
    rw [List.filter_eq_nil_iff]
    exact fun f hf q => List.lt_irrefl _ (List.lt_trans (hl f hf) (textLt_iff.1 q))
  rw [filesPut, lessAnd, a1, a2, List.append_nil, List.take_succ_eq_append_getElem hk]

theorem open_none {w : World} {b lo : Nat} (h : w.ownsMap Try.prog 9 ptrRead b 0 (.map [])) (hlo : lo ≤ b) : OpenIs w b [] (fun _ => 0) lo (.map []) :=
  ⟨h, rfl, fun s => ⟨fun q => (by cases q), fun ⟨f, hf, _⟩ => (by cases hf)⟩, fun f hf => (by cases hf), fun f hf => (by cases hf), hlo, fun f hf => (by cases hf), fun f hf => (by cases hf)⟩

set_option maxRecDepth 1000000 in
set_option maxHeartbeats 1000000 in
theorem implOpened_any (ao : Option Addr) (l : List FileD) (cap : Nat) (hd : diskOk l = true) (w : World) (ha : FilesAt w ao l) :
    Calls Try.prog 42 #[.agg #[.slice ao l.length cap]] w fun e w' => ∃ b, e = .returned (.map (some b)) ∧ (∃ adr D, OpenIs w' b l adr w.heap.size D) ∧ Below w.heap.size w w' := by
  have hmm := @run_makeMap Try.prog
  have hl : l.length ≤ 30 := (diskOk_iff.1 hd).1
  have HA := hid ha
  have HD := hid hd
  obtain ⟨W0, hW0⟩ : ∃ W0, w.alloc (.cells #[.slice ao l.length cap] 26) = W0 := ⟨_, rfl⟩
  have hs0 : W0.heap.size = w.heap.size + 1 := by rw [← hW0]; simp [World.alloc, -World.alloc_eq]
  have hb0 : Below w.heap.size w W0 := by rw [← hW0]; exact below_more (Below.refl _ w) _
  have hx0 : BlockIs W0 w.heap.size 26 [.slice ao l.length cap] := by rw [← hW0]; exact heap_alloc_new w _
  have hm0 := World.ownsMap_made (H := Unit) W0 Try.prog 9 ptrRead
  rw [hs0] at hm0
  have hbm := below_more (Below.refl W0.heap.size W0) (.map #[] 0)
  have H0 := hid (And.intro (open_none hm0 (lo := w.heap.size) (by omega)) (below_via hb0 hbm))
  have c0 := (hx0.on hbm hx0.lt).cell (j := 0) rfl
  clear ha hd hb0 hx0 hm0 hbm
  go_enter Try.func42, Try.ntmps42
  go_wp2
  clear hW0
  go_loopg [5, 10] l.length (fun q _ i wr => ∃ (k : Nat), k + q = l.length ∧ i = .int .i64 k ∧ Hid (∃ adr D, OpenIs wr (w.heap.size + 1) (l.take k) adr w.heap.size D) ∧ Hid (Below w.heap.size w wr))
  case atStart => exact ⟨0, by omega, rfl, ⟨_, _, H0.out.1⟩, H0.out.2⟩
  case round =>
    obtain ⟨k, hkg, rfl, HO, BR⟩ := hrel
    clear H0 c0
    cases gk with
    | zero =>
      have hlt : ¬ (k : Int) < (l.length : Int) := by omega
      go_wp2
      obtain ⟨adr, D, h⟩ := HO.out
      rw [List.take_of_length_le (by omega)] at h
      refine bodyPost_ret (v := .map (some (w.heap.size + 1))) (by simp [results, Try.results42, go_sem]) rfl ⟨_, rfl, ⟨adr, D, h⟩, BR.out⟩
    | succ q =>
      have hlt : k < l.length := by omega
      have hlt' : (k : Int) < (l.length : Int) := by omega
      have hne : l ≠ [] := by intro e; rw [e] at hlt; simp at hlt
      obtain ⟨b, off, rfl, hc⟩ := HA.out.on BR.out hne
      obtain ⟨x0, x1, x2⟩ := hc k hlt
      clear hc
      obtain ⟨adr, D, h⟩ := HO.out
      have hsz : Maps.size D ≤ 30 := by rw [h.size]; exact (diskOk_iff.1 h.right).1
      have hnm : l[k].name.size ≤ maxLen := by have := (diskOk_small HD.out l[k] (List.getElem_mem hlt)).1; unfold maxLen; omega
      have hown := (h.own.alloc (.cells #[.string l[k].name, .string l[k].text, .int .i64 l[k].kept] 77)).alloc (.cells #[.string l[k].text, .int .i64 l[k].kept] 105)
      have H := hid h
      clear h HO
      go_wp2_with (at_mapUpdate; refine wpList_mapUpdate_in _ rfl _ _ _ 72 rfl 9 103 open_keyed Try.underlying72 ptrRead (w.heap.size + 1) _ D rfl hown (by unfold maxLen; omega) _ _ _ rfl rfl (keyL_of hnm) (.lit (.int .i64 ((wr.heap.size + 1 : Nat) : Int))) [] (ptrRead_mk (wr.heap.size + 1)) ?_; intro w1 hown1 hturn1)
      have HT := hid (And.intro hown (And.intro hown1 hturn1))
      clear hown hown1 hturn1
      go_wp2
      go_roundg q
      case measure => omega
      case rel =>
        obtain ⟨hown, hown1, hturn1⟩ := HT.out
        have hasc := (diskOk_iff.1 HD.out).2.2
        have hb1 := below_more (Below.refl wr.heap.size wr) (.cells #[.string l[k].name, .string l[k].text, .int .i64 l[k].kept] 77)
        have hb2 := below_more hb1 (.cells #[.string l[k].text, .int .i64 l[k].kept] 105)
        have hnew : BlockIs ((wr.alloc (.cells #[.string l[k].name, .string l[k].text, .int .i64 l[k].kept] 77)).alloc (.cells #[.string l[k].text, .int .i64 l[k].kept] 105)) (wr.heap.size + 1) 105 [.string l[k].text, .int .i64 l[k].kept] := by
          have := heap_alloc_new (wr.alloc (.cells #[.string l[k].name, .string l[k].text, .int .i64 l[k].kept] 77)) (.cells #[.string l[k].text, .int .i64 l[k].kept] 105)
          rw [show (wr.alloc (.cells #[.string l[k].name, .string l[k].text, .int .i64 l[k].kept] 77)).heap.size = wr.heap.size + 1 by simp [World.alloc, -World.alloc_eq]] at this
          exact this
        have hp := open_put (g := wr.heap.size + 1) l[k] H.out.has H.out.at_ H.out.inj H.out.own.isMap H.out.low (by rw [put_take hasc hlt]; exact take_right HD.out _) hown1 hturn1 (fun k t cs hk => owns_apart hown hk) (fun g hg q => by
          have := (H.out.blk g hg).lt
          exact ⟨H.out.lows g hg, by omega, (H.out.blk g hg).on hb2 this⟩) (by have := BR.out.size; omega) hnew
        rw [put_take hasc hlt] at hp
        exact ⟨k + 1, by omega, by go_num, ⟨_, _, hp⟩, (BR.out.trans (hb2.mono BR.out.size)).trans (below_turned' hturn1 (by omega) (by have := hb2.size; have := BR.out.size; omega))⟩
end Go.Proofs.Ytbbohfagnnobgaa
