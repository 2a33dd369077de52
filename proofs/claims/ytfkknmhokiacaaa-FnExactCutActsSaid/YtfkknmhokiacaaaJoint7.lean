/-
  An open disk: files behind pointers in a map of the call's own, by their names.
  The walk of impl.opened: a right disk is opened.
  The walk of strings.Clone: the text itself, in new memory.
  The walks of impl.copiedFile, impl.copiedDisk: a disk is laid anew, in memory of its own.
  DERIVED. MADE BY PROGRAM (lay-iter.mjs) off ytfkknmhokiacaaa.cut.gsa: THE SHELF's CONTRACTS ON 'slices.Sorted(maps.Keys(m))' LAID AT THIS DUMP: 1 map type. NO WALK OF THE LIBRARY's TEXT: each is one application of a contract over any P and ρ (Derived/Shelf/SlIter/, Derived/Shelf/SortM/).
  The walk of impl's closed: the files of an open disk, in order, in memory of their own.
-/
import Derived.Test.YtfkknmhokiacaaaJoint6
import Derived.Maps.OwnSet
import Derived.Maps.OwnOps
import Derived.Sort.KeysCollected
import Derived.Test.YtfkknmhokiacaaaJoint3
import Derived.Test.YtfkknmhokiacaaaRows
import Derived.Test.YtfkknmhokiacaaaJoint1
import Derived.Lib.UnsafeStr
import Derived.Lib.BufferWrite
import Derived.Laws.CopyOwn
import Derived.WalkKit
import Derived.Deep.RegionWith
import Derived.Shelf.SlIter.Nil
import Derived.Shelf.SortM.Plain
import Derived.Shelf.SortM.SortNone
import Derived.Ground.GgzProg
import Derived.Ground.SlgmProg
import Derived.Test.YtfkknmhokiacaaaProg
import Derived.Test.YtfkknmhokiacaaaJoint5
import Derived.Deep.RegionLaw
import Derived.Deep.AppendLies
namespace Go.Proofs.Ytfkknmhokiacaaa
open Go.RowKit Go.Maps

/-- how a pointer to an open file reads: by its block -/
def ptrRead : Value → Option (DataW Unit × List MemPlace)
  | .pointer (some ⟨g, 0, none⟩) => some (.lit (.int .i64 g), [])
  | .pointer none => some (.nil, [])
  | _ => none
theorem ptrRead_mk (g : Nat) : ptrRead (.pointer (some ⟨g, 0, none⟩)) = some (.lit (.int .i64 g), []) := rfl
theorem ptrRead_inv {v : Value} {g : Nat} {ps : List MemPlace} (h : ptrRead v = some (.lit (.int .i64 g), ps)) : v = .pointer (some ⟨g, 0, none⟩) := by
  unfold ptrRead at h
  split at h
  · simp at h
    rw [Int.ofNat_inj.1 h.1]
  · simp at h
  · cases h
theorem ptrRead_nil {v : Value} {ps : List MemPlace} (h : ptrRead v = some (.nil, ps)) : v = .pointer none := by
  unfold ptrRead at h
  split at h
  · simp at h
  · rfl
  · cases h
theorem open_keyed : Keyed Try.prog 9 := string_keyed Try.underlying9
theorem open_zero (w : World) : (zeroValue 106).run Try.prog w = .ok (.pointer none) w := by kernel_rfl
def keyL (s : ByteArray) : Lit := .string s.data.toList
theorem keyL_of {s : ByteArray} (h : s.size ≤ maxLen) : keyOf Try.prog 9 (.string s) = some (keyL s) := WideMaps.keyOf_string_mk Try.underlying9 h
theorem keyL_lit (s : ByteArray) : WideAt.IsKeyLit (keyL s) := trivial
theorem keyL_ne {s t : ByteArray} (h : s ≠ t) : keyL s ≠ keyL t := by
  intro e
  simp only [keyL, Lit.string.injEq] at e
  exact h (ByteArray.ext (Array.toList_inj.1 e))
theorem owns_tight {w : World} {P : Program} {k : TypeId} {R : Value → Option (DataW Unit × List MemPlace)} {b n : Nat} {D : DataW Unit} (h : w.ownsMap P k R b n D) : w.ownsMap P k R b (Maps.size D) D := by
  obtain ⟨es, clock, hb, F, hs, rfl⟩ := h
  exact ⟨es, clock, hb, F, by simp [Maps.size, length_sorted], rfl⟩

/-- block b is a map that has the files of a right disk by their names, each behind a pointer to a block of its own -/
structure OpenIs (w : World) (b : Nat) (l : List FileD) (adr : ByteArray → Nat) (lo : Nat) (D : DataW Unit) : Prop where
  own : w.ownsMap Try.prog 9 ptrRead b (Maps.size D) D
  right : diskOk l = true
  has : ∀ s, Maps.has D (keyL s) = true ↔ ∃ f ∈ l, f.name = s
  at_ : ∀ f ∈ l, ∀ z, D.atKey (keyL f.name) z = .lit (.int .i64 (adr f.name))
  blk : ∀ f ∈ l, BlockIs w (adr f.name) 108 [.string f.text, .int .i64 f.kept]
  low : lo ≤ b
  lows : ∀ f ∈ l, lo ≤ adr f.name
  inj : ∀ f ∈ l, ∀ g ∈ l, adr f.name = adr g.name → f.name = g.name

theorem OpenIs.on {w w' : World} {b : Nat} {l : List FileD} {adr : ByteArray → Nat} {lo : Nat} {D : DataW Unit} (h : OpenIs w b l adr lo D) (hb : Below w.heap.size w w') : OpenIs w' b l adr lo D :=
  ⟨by obtain ⟨es, clock, hb', F, hs, hD⟩ := h.own; exact ⟨es, clock, (hb.block b h.own.lt).trans hb', F, hs, hD⟩, h.right, h.has, h.at_, fun f hf => (h.blk f hf).on hb (h.blk f hf).lt, h.low, h.lows, h.inj⟩
theorem OpenIs.drew {w : World} {b : Nat} {l : List FileD} {adr : ByteArray → Nat} {lo : Nat} {D : DataW Unit} (h : OpenIs w b l adr lo D) : OpenIs w.drew b l adr lo D := h.on (below_drewN (Below.refl _ _) 1)
/-- the map's block holds no cells -/
theorem owns_apart {w : World} {P : Program} {k : TypeId} {R : Value → Option (DataW Unit × List MemPlace)} {b n g : Nat} {D : DataW Unit} {t : TypeId} {cs : List Value} (h : w.ownsMap P k R b n D) (hg : BlockIs w g t cs) : g ≠ b := by
  obtain ⟨es, clock, hb, _⟩ := h
  intro e
  subst e
  unfold BlockIs at hg
  rw [hb] at hg
  cases hg
theorem BlockIs.turned {w w' : World} {b g : Nat} {t : TypeId} {cs : List Value} (hg : BlockIs w g t cs) (ht : w.mapTurned w' b) (hne : g ≠ b) : BlockIs w' g t cs := by
  unfold BlockIs
  rw [ht.grown.block g hg.lt (by simpa using hne)]
  exact hg

theorem names_nodup {l : List FileD} (h : Asc l) : (l.map fun f => f.name.data.toList).Nodup := by
  rw [List.nodup_iff_pairwise_ne, List.pairwise_map]
  refine h.imp fun {a b} q e => ?_
  rw [ByteArray.toList_eq, ByteArray.toList_eq, e] at q
  exact List.lt_irrefl _ q
theorem OpenIs.perm {w : World} {b : Nat} {l : List FileD} {adr : ByteArray → Nat} {lo : Nat} {D : DataW Unit} (h : OpenIs w b l adr lo D) : (l.map fun f => f.name.data.toList).Perm (strKeys D) := by
  obtain ⟨es, rfl, hk⟩ := h.own.keysOf
  obtain ⟨es', he, hp⟩ := h.own.tidy open_keyed
  cases he
  refine perm_strKeys hp (fun p hq => by obtain ⟨v, hv⟩ := hk p hq; obtain ⟨x, _, hx, _⟩ := Maps.keyOf_str Try.underlying9 hv; exact ⟨x, hx⟩) (names_nodup (diskOk_iff.1 h.right).2.2) fun x => ?_
  have hx : keyL ⟨x.toArray⟩ = .string x := by simp [keyL]
  rw [← hx, h.has]
  simp only [List.mem_map]
  exact ⟨fun ⟨f, hf, e⟩ => ⟨f, hf, ByteArray.ext (by rw [← e])⟩, fun ⟨f, hf, e⟩ => ⟨f, hf, by rw [e]⟩⟩
theorem OpenIs.size {w : World} {b : Nat} {l : List FileD} {adr : ByteArray → Nat} {lo : Nat} {D : DataW Unit} (h : OpenIs w b l adr lo D) : Maps.size D = l.length := by
  have hp := h.perm.length_eq
  obtain ⟨es, rfl⟩ := h.own.isMap
  simpa [Maps.size, strKeys] using hp.symm

/-- 'file, there := open[name]' -/
theorem OpenIs.look {w : World} {b : Nat} {l : List FileD} {adr : ByteArray → Nat} {lo : Nat} {D : DataW Unit} (h : OpenIs w b l adr lo D) {s : ByteArray} (hs : s.size ≤ maxLen) :
    (∃ f, foundOf l s = some f ∧ (Instr.lookup 81 (.map (some b)) (.string s) true).run Try.prog w = .ok (.tuple #[.pointer (some ⟨adr s, 0, none⟩), .bool true]) w ∧ BlockIs w (adr s) 108 [.string f.text, .int .i64 f.kept]) ∨
    (foundOf l s = none ∧ (Instr.lookup 81 (.map (some b)) (.string s) true).run Try.prog w = .ok (.tuple #[.pointer none, .bool false]) w) := by
  obtain ⟨v, ps, hrun, hv⟩ := h.own.look_ok open_keyed Try.underlying81 (open_zero w) (zd := .nil) (zp := []) rfl (keyL_of hs)
  cases hf : foundOf l s with
  | none =>
    have hno : Maps.has D (keyL s) = false := by
      cases hh : Maps.has D (keyL s) with
      | false => rfl
      | true => obtain ⟨f, hm, e⟩ := (h.has s).1 hh; exact absurd e (found_not hf f hm)
    rw [hno] at hrun
    rw [Maps.atKey_of_not_has hno] at hv
    rw [ptrRead_nil hv] at hrun
    exact Or.inr ⟨rfl, hrun⟩
  | some f =>
    obtain ⟨hm, rfl⟩ := found_mem hf
    rw [(h.has f.name).2 ⟨f, hm, rfl⟩] at hrun
    rw [h.at_ f hm] at hv
    rw [ptrRead_inv hv] at hrun
    exact Or.inl ⟨f, rfl, hrun, h.blk f hm⟩
/-- 'open[name]', the name is there -/
theorem OpenIs.get {w : World} {b : Nat} {l : List FileD} {adr : ByteArray → Nat} {lo : Nat} {D : DataW Unit} (h : OpenIs w b l adr lo D) {f : FileD} (hf : f ∈ l) (hs : f.name.size ≤ maxLen) :
    (Instr.lookup 81 (.map (some b)) (.string f.name) false).run Try.prog w = .ok (.pointer (some ⟨adr f.name, 0, none⟩)) w := by
  obtain ⟨v, ps, hrun, hv⟩ := h.own.lookup open_keyed Try.underlying81 (open_zero w) (zd := .nil) (zp := []) rfl (keyL_of hs)
  rw [h.at_ f hf] at hv
  rw [ptrRead_inv hv] at hrun
  exact hrun

def adrPut (adr : ByteArray → Nat) (x : ByteArray) (g : Nat) (s : ByteArray) : Nat := if s.toList == x.toList then g else adr s
theorem adrPut_same (adr : ByteArray → Nat) (x : ByteArray) (g : Nat) : adrPut adr x g x = g := by simp [adrPut]
theorem adrPut_other (adr : ByteArray → Nat) {x s : ByteArray} (g : Nat) (h : s ≠ x) : adrPut adr x g s = adr s := by
  have : (s.toList == x.toList) = false := beq_eq_false_iff_ne.2 fun e => h (text_eq e)
  simp [adrPut, this]
/-- a file is put in -/
theorem open_put {w w' : World} {b : Nat} {l : List FileD} {adr : ByteArray → Nat} {lo : Nat} {D : DataW Unit} {n g : Nat} (f : FileD)
    (hhas : ∀ s, Maps.has D (keyL s) = true ↔ ∃ f ∈ l, f.name = s) (hat : ∀ f ∈ l, ∀ z, D.atKey (keyL f.name) z = .lit (.int .i64 (adr f.name))) (hinj : ∀ f ∈ l, ∀ g ∈ l, adr f.name = adr g.name → f.name = g.name)
    (hmap : Maps.IsMap D) (hlow : lo ≤ b) (hr : diskOk (filesPut l f) = true)
    (hown : w'.ownsMap Try.prog 9 ptrRead b n (D.put (keyL f.name) (.lit (.int .i64 g)))) (ht : w.mapTurned w' b) (hb0 : ∀ k t cs, BlockIs w k t cs → k ≠ b)
    (hblk : ∀ h ∈ l, h.name ≠ f.name → lo ≤ adr h.name ∧ adr h.name ≠ g ∧ BlockIs w (adr h.name) 108 [.string h.text, .int .i64 h.kept]) (hg : lo ≤ g) (hgb : BlockIs w g 108 [.string f.text, .int .i64 f.kept]) :
    OpenIs w' b (filesPut l f) (adrPut adr f.name g) lo (D.put (keyL f.name) (.lit (.int .i64 g))) := by
  refine ⟨owns_tight hown, hr, fun s => ?_, fun h hh z => ?_, fun h hh => ?_, hlow, fun h hh => ?_, fun h hh k hk e => ?_⟩
  · by_cases e : s = f.name
    · rw [e, Maps.has_put_same hmap (keyL_lit _)]
      exact ⟨fun _ => ⟨f, mem_put.2 (Or.inl rfl), rfl⟩, fun _ => rfl⟩
    · rw [Maps.has_put_other (keyL_ne e), hhas]
      exact ⟨fun ⟨h, hm, q⟩ => ⟨h, mem_put.2 (Or.inr ⟨hm, by rw [q]; exact e⟩), q⟩, fun ⟨h, hm, q⟩ => by
        rcases mem_put.1 hm with rfl | ⟨hm, _⟩
        · exact absurd q.symm e
        · exact ⟨h, hm, q⟩⟩
  · rcases mem_put.1 hh with rfl | ⟨hm, hne⟩
    · rw [Maps.atKey_put_same hmap (keyL_lit _), adrPut_same]
    · rw [Maps.atKey_put_other (keyL_ne hne), hat h hm, adrPut_other adr g hne]
  · rcases mem_put.1 hh with rfl | ⟨hm, hne⟩
    · rw [adrPut_same]; exact hgb.turned ht (hb0 _ _ _ hgb)
    · rw [adrPut_other adr g hne]; exact (hblk h hm hne).2.2.turned ht (hb0 _ _ _ (hblk h hm hne).2.2)
  · rcases mem_put.1 hh with rfl | ⟨hm, hne⟩
    · rw [adrPut_same]; exact hg
    · rw [adrPut_other adr g hne]; exact (hblk h hm hne).1
  · rcases mem_put.1 hh with rfl | ⟨hm, hne⟩
    · rcases mem_put.1 hk with rfl | ⟨km, kne⟩
      · rfl
      · rw [adrPut_same, adrPut_other adr g kne] at e; exact absurd e.symm (hblk k km kne).2.1
    · rcases mem_put.1 hk with rfl | ⟨km, kne⟩
      · rw [adrPut_same, adrPut_other adr g hne] at e; exact absurd e (hblk h hm hne).2.1
      · rw [adrPut_other adr g hne, adrPut_other adr g kne] at e; exact hinj h hm k km e
/-- a file's cells are written -/
theorem open_set {w w' : World} {b : Nat} {l : List FileD} {adr : ByteArray → Nat} {lo : Nat} {D : DataW Unit} {name t : ByteArray} {k : Int} {f : FileD} {j : Nat} {v : Value} (h : OpenIs w b l adr lo D) (hf : foundOf l name = some f) (hr : diskOk (filesPut l ⟨name, t, k⟩) = true)
    (hw : w' = w.setCell ⟨adr name, j, none⟩ v) (hb : BlockIs w' (adr name) 108 [.string t, .int .i64 k]) : OpenIs w' b (filesPut l ⟨name, t, k⟩) adr lo D := by
  obtain ⟨hm, hn⟩ := found_mem hf
  have hne : b ≠ adr name := fun e => owns_apart h.own (h.blk f hm) (by rw [hn]; exact e.symm)
  refine ⟨by rw [hw]; exact h.own.setCell hne v, hr, fun s => ?_, fun g hg z => ?_, fun g hg => ?_, h.low, fun g hg => ?_, fun g hg q hq e => ?_⟩
  · rw [h.has]
    constructor
    · rintro ⟨g, hg, e⟩
      by_cases q : g.name = name
      · exact ⟨_, mem_put.2 (Or.inl rfl), by rw [← e, q]⟩
      · exact ⟨g, mem_put.2 (Or.inr ⟨hg, q⟩), e⟩
    · rintro ⟨g, hg, e⟩
      rcases mem_put.1 hg with rfl | ⟨hg, _⟩
      · exact ⟨f, hm, by rw [hn]; exact e⟩
      · exact ⟨g, hg, e⟩
  · rcases mem_put.1 hg with rfl | ⟨hg, _⟩
    · show D.atKey (keyL name) z = .lit (.int .i64 (adr name))
      rw [← hn]; exact h.at_ f hm z
    · exact h.at_ g hg z
  · rcases mem_put.1 hg with rfl | ⟨hg, q⟩
    · exact hb
    · rw [hw]
      exact (h.blk g hg).far (fun e => q (by have := h.inj g hg f hm (by rw [hn]; exact e.symm); rw [this, hn])) v
  · rcases mem_put.1 hg with rfl | ⟨hg, _⟩
    · show lo ≤ adr name
      rw [← hn]; exact h.lows f hm
    · exact h.lows g hg
  · have up : ∀ x ∈ filesPut l ⟨name, t, k⟩, ∃ y ∈ l, y.name = x.name := by
      intro x hx
      rcases mem_put.1 hx with rfl | ⟨hx, _⟩
      · exact ⟨f, hm, hn⟩
      · exact ⟨x, hx, rfl⟩
    obtain ⟨g', hg', eg⟩ := up g hg
    obtain ⟨q', hq', eq⟩ := up q hq
    rw [← eg, ← eq] at e ⊢
    exact h.inj g' hg' q' hq' e
/-- a file is taken out -/
theorem open_del {w w' : World} {b : Nat} {l : List FileD} {adr : ByteArray → Nat} {lo : Nat} {D : DataW Unit} {n : Nat} {x : ByteArray} (h : OpenIs w b l adr lo D)
    (hown : w'.ownsMap Try.prog 9 ptrRead b n (D.del (keyL x))) (ht : w.mapTurned w' b) : OpenIs w' b (filesNot l x) adr lo (D.del (keyL x)) := by
  refine ⟨owns_tight hown, not_right h.right, fun s => ?_, fun f hf z => ?_, fun f hf => ?_, h.low, fun f hf => h.lows f (mem_not.1 hf).1, fun f hf g hg => h.inj f (mem_not.1 hf).1 g (mem_not.1 hg).1⟩
  · by_cases e : s = x
    · rw [e, Maps.has_del_same]
      exact ⟨fun q => (by cases q), fun ⟨f, hm, q⟩ => absurd q (mem_not.1 hm).2⟩
    · rw [Maps.has_del_other (keyL_ne e), h.has]
      exact ⟨fun ⟨f, hm, q⟩ => ⟨f, mem_not.2 ⟨hm, by rw [q]; exact e⟩, q⟩, fun ⟨f, hm, q⟩ => ⟨f, (mem_not.1 hm).1, q⟩⟩
  · rw [Maps.atKey_del_other (keyL_ne (mem_not.1 hf).2), h.at_ f (mem_not.1 hf).1]
  · exact (h.blk f (mem_not.1 hf).1).turned ht (owns_apart h.own (h.blk f (mem_not.1 hf).1))
end Go.Proofs.Ytfkknmhokiacaaa

namespace Go.Proofs.Ytfkknmhokiacaaa
open Go.RowKit Go.Maps

theorem below_turned' {w w' : World} {b lo : Nat} (h : w.mapTurned w' b) (hlo : lo ≤ b) (hw : lo ≤ w.heap.size) : Below lo w w' :=
  (Below.refl lo w).grown h.grown hw (fun j hj => by cases hj; exact hlo)
theorem take_right {l : List FileD} (h : diskOk l = true) (k : Nat) : diskOk (l.take k) = true := by
  obtain ⟨h1, h2, h3⟩ := diskOk_iff.1 h
  exact diskOk_iff.2 ⟨by rw [List.length_take]; omega, fun f hf => h2 f (List.mem_of_mem_take hf), h3.sublist (List.take_sublist k l)⟩
theorem take_less {l : List FileD} (h : Asc l) {k : Nat} (hk : k < l.length) : ∀ f ∈ l.take k, f.name.toList < l[k].name.toList := by
  intro f hf
  obtain ⟨j, hj, rfl⟩ := List.getElem_of_mem hf
  rw [List.length_take] at hj
  rw [List.getElem_take]
  exact List.pairwise_iff_getElem.1 h j k (by omega) hk (by omega)
theorem put_take {l : List FileD} (h : Asc l) {k : Nat} (hk : k < l.length) : filesPut (l.take k) l[k] = l.take (k + 1) := by
  have hl := take_less h hk
  have a1 : filesLess (l.take k) l[k] = l.take k := by
    rw [filesLess, List.filter_eq_self]
    exact fun f hf => textLt_iff.2 (hl f hf)
  have a2 : (l.take k).filter (isMore l[k]) = [] := by
    rw [List.filter_eq_nil_iff]
    exact fun f hf q => List.lt_irrefl _ (List.lt_trans (hl f hf) (textLt_iff.1 q))
  rw [filesPut, lessAnd, a1, a2, List.append_nil, List.take_succ_eq_append_getElem hk]

theorem open_none {w : World} {b lo : Nat} (h : w.ownsMap Try.prog 9 ptrRead b 0 (.map [])) (hlo : lo ≤ b) : OpenIs w b [] (fun _ => 0) lo (.map []) :=
  ⟨h, rfl, fun s => ⟨fun q => (by cases q), fun ⟨f, hf, _⟩ => (by cases hf)⟩, fun f hf => (by cases hf), fun f hf => (by cases hf), hlo, fun f hf => (by cases hf), fun f hf => (by cases hf)⟩

set_option maxRecDepth 1000000 in
set_option maxHeartbeats 1000000 in
theorem implOpened_any (ao : Option Addr) (l : List FileD) (cap : Nat) (hd : diskOk l = true) (w : World) (ha : FilesAt w ao l) :
    Calls Try.prog 50 #[.agg #[.slice ao l.length cap]] w fun e w' => ∃ b, e = .returned (.map (some b)) ∧ (∃ adr D, OpenIs w' b l adr w.heap.size D) ∧ Below w.heap.size w w' := by
  have hmm := @run_makeMap Try.prog
  have hl : l.length ≤ 30 := (diskOk_iff.1 hd).1
  have HA := hid ha
  have HD := hid hd
  obtain ⟨W0, hW0⟩ : ∃ W0, w.alloc (.cells #[.slice ao l.length cap] 26) = W0 := ⟨_, rfl⟩
  have hs0 : W0.heap.size = w.heap.size + 1 := by rw [← hW0]; simp [World.alloc, -World.alloc_eq]
  have hb0 : Below w.heap.size w W0 := by rw [← hW0]; exact below_more (Below.refl _ w) _
  have hx0 : BlockIs W0 w.heap.size 26 [.slice ao l.length cap] := by rw [← hW0]; exact heap_alloc_new w _
  have hm0 := World.ownsMap_made (H := Unit) W0 Try.prog 9 ptrRead
  rw [hs0] at hm0
  have hbm := below_more (Below.refl W0.heap.size W0) (.map #[] 0)
  have H0 := hid (And.intro (open_none hm0 (lo := w.heap.size) (by omega)) (below_via hb0 hbm))
  have c0 := (hx0.on hbm hx0.lt).cell (j := 0) rfl
  clear ha hd hb0 hx0 hm0 hbm
  go_enter Try.func50, Try.ntmps50
  go_wp2
  clear hW0
  go_loopg [5, 10] l.length (fun q _ i wr => ∃ (k : Nat), k + q = l.length ∧ i = .int .i64 k ∧ Hid (∃ adr D, OpenIs wr (w.heap.size + 1) (l.take k) adr w.heap.size D) ∧ Hid (Below w.heap.size w wr))
  case atStart => exact ⟨0, by omega, rfl, ⟨_, _, H0.out.1⟩, H0.out.2⟩
  case round =>
    obtain ⟨k, hkg, rfl, HO, BR⟩ := hrel
    clear H0 c0
    cases gk with
    | zero =>
      have hlt : ¬ (k : Int) < (l.length : Int) := by omega
      go_wp2
      obtain ⟨adr, D, h⟩ := HO.out
      rw [List.take_of_length_le (by omega)] at h
      refine bodyPost_ret (v := .map (some (w.heap.size + 1))) (by simp [results, Try.results50, go_sem]) rfl ⟨_, rfl, ⟨adr, D, h⟩, BR.out⟩
    | succ q =>
      have hlt : k < l.length := by omega
      have hlt' : (k : Int) < (l.length : Int) := by omega
      have hne : l ≠ [] := by intro e; rw [e] at hlt; simp at hlt
      obtain ⟨b, off, rfl, hc⟩ := HA.out.on BR.out hne
      obtain ⟨x0, x1, x2⟩ := hc k hlt
      clear hc
      obtain ⟨adr, D, h⟩ := HO.out
      have hsz : Maps.size D ≤ 30 := by rw [h.size]; exact (diskOk_iff.1 h.right).1
      have hnm : l[k].name.size ≤ maxLen := by have := (diskOk_small HD.out l[k] (List.getElem_mem hlt)).1; unfold maxLen; omega
      have hown := (h.own.alloc (.cells #[.string l[k].name, .string l[k].text, .int .i64 l[k].kept] 36)).alloc (.cells #[.string l[k].text, .int .i64 l[k].kept] 108)
      have H := hid h
      clear h HO
      go_wp2_with (at_mapUpdate; refine wpList_mapUpdate_in _ rfl _ _ _ 81 rfl 9 106 open_keyed Try.underlying81 ptrRead (w.heap.size + 1) _ D rfl hown (by unfold maxLen; omega) _ _ _ rfl rfl (keyL_of hnm) (.lit (.int .i64 ((wr.heap.size + 1 : Nat) : Int))) [] (ptrRead_mk (wr.heap.size + 1)) ?_; intro w1 hown1 hturn1)
      have HT := hid (And.intro hown (And.intro hown1 hturn1))
      clear hown hown1 hturn1
      go_wp2
      go_roundg q
      case measure => omega
      case rel =>
        obtain ⟨hown, hown1, hturn1⟩ := HT.out
        have hasc := (diskOk_iff.1 HD.out).2.2
        have hb1 := below_more (Below.refl wr.heap.size wr) (.cells #[.string l[k].name, .string l[k].text, .int .i64 l[k].kept] 36)
        have hb2 := below_more hb1 (.cells #[.string l[k].text, .int .i64 l[k].kept] 108)
        have hnew : BlockIs ((wr.alloc (.cells #[.string l[k].name, .string l[k].text, .int .i64 l[k].kept] 36)).alloc (.cells #[.string l[k].text, .int .i64 l[k].kept] 108)) (wr.heap.size + 1) 108 [.string l[k].text, .int .i64 l[k].kept] := by
          have := heap_alloc_new (wr.alloc (.cells #[.string l[k].name, .string l[k].text, .int .i64 l[k].kept] 36)) (.cells #[.string l[k].text, .int .i64 l[k].kept] 108)
          rw [show (wr.alloc (.cells #[.string l[k].name, .string l[k].text, .int .i64 l[k].kept] 36)).heap.size = wr.heap.size + 1 by simp [World.alloc, -World.alloc_eq]] at this
          exact this
        have hp := open_put (g := wr.heap.size + 1) l[k] H.out.has H.out.at_ H.out.inj H.out.own.isMap H.out.low (by rw [put_take hasc hlt]; exact take_right HD.out _) hown1 hturn1 (fun k t cs hk => owns_apart hown hk) (fun g hg q => by
          have := (H.out.blk g hg).lt
          exact ⟨H.out.lows g hg, by omega, (H.out.blk g hg).on hb2 this⟩) (by have := BR.out.size; omega) hnew
        rw [put_take hasc hlt] at hp
        exact ⟨k + 1, by omega, by go_num, ⟨_, _, hp⟩, (BR.out.trans (hb2.mono BR.out.size)).trans (below_turned' hturn1 (by omega) (by have := hb2.size; have := BR.out.size; omega))⟩
end Go.Proofs.Ytfkknmhokiacaaa

namespace Go.Proofs.Ytfkknmhokiacaaa
open Go.RowKit

theorem clone_info5 : (Try.prog.info? 5).map (fun i => (i.zero, i.size, i.bytes)) = some (some (.int .u8 0), 1, 1) := by kernel_rfl

theorem clone_mem {w w1 : World} {s : ByteArray} (h0 : 0 < s.size) (hm : s.size ≤ 140737488355328) {zs : List Value} (hown : w1.ownsRow w.heap.size 5 1 (.slice (some ⟨w.heap.size, 0, none⟩) s.size s.size) s.size zs) (hg : w.grownBy w1 none) :
    ∃ W2 W3, (∀ ty, (Builtin.copy_ #[22, 9] ty #[.slice (some ⟨w.heap.size, 0, none⟩) s.size s.size, .string s]).run Try.prog w1 = .ok (goInt s.size) W2) ∧
      (∀ ty, (Builtin.unsafeString_ #[121, 3] ty #[.pointer (some ⟨w.heap.size, 0, none⟩), .int .i64 s.size]).run Try.prog W2 = .ok (.string s) W3) ∧ Below w.heap.size w W3 := by
  obtain ⟨h1, h2⟩ := hown
  rcases h2 with ⟨hv, hn⟩ | ⟨g, cap, cur, hv, hgb, hh, hle, hmx, hsz, hx⟩
  · cases hv
  · simp only [Value.slice.injEq, Option.some.injEq, Addr.mk.injEq, and_true, true_and] at hv
    obtain ⟨rfl, rfl⟩ := hv
    simp only [Nat.mul_one] at hsz
    have hc := fun ty => Lib.run_copy_row_string (P := Try.prog) w1 22 9 ty 5 w.heap.size 0 s.size s.size s cur 5 Try.underlying22 (by kernel_rfl) hh (Nat.le_refl _) (by omega)
    have ea : (cur.toList.take 0 ++ Lib.byteCells s.data.toList ++ cur.toList.drop (0 + s.size)).toArray = (Lib.byteCells s.data.toList).toArray := by
      rw [List.drop_of_length_le (by simp; omega)]
      simp
    rw [ea] at hc
    have hb2 : Below w.heap.size w (w1.setRow w.heap.size (Lib.byteCells s.data.toList).toArray) := below_setRow ((Below.refl _ _).grown hg (Nat.le_refl _) (fun k h => by cases h)) (Nat.le_refl _) _
    have hh2 : (w1.setRow w.heap.size (Lib.byteCells s.data.toList).toArray).heap[w.heap.size]? = some (.cells (Lib.byteCells s.data.toList).toArray 5 (0, 0)) := by
      simp only [World.setRow]
      rw [Array.getElem?_modify, if_pos rfl, hh]
      rfl
    have hlen : s.data.toList.length = s.size := by simp
    have hbl : (Lib.byteCells s.data.toList).length = s.size := by rw [Lib.byteCells_length, hlen]
    have hown2 : (w1.setRow w.heap.size (Lib.byteCells s.data.toList).toArray).ownsRow w.heap.size 5 1 (.slice (some ⟨w.heap.size, 0, none⟩) s.size s.size) s.size (Lib.byteCells s.data.toList) :=
      ⟨by omega, Or.inr ⟨_, _, _, rfl, Nat.le_refl _, hh2, Nat.le_refl _, hmx, by simp [hbl], by rw [List.take_of_length_le (by simp [hbl])]⟩⟩
    have hu := fun ty => Lib.run_unsafeString_row (P := Try.prog) (w1.setRow w.heap.size (Lib.byteCells s.data.toList).toArray) 121 3 ty 5 Try.underlying121 (by kernel_rfl) w.heap.size s.size
      (by simp [World.shape?, hh2, Lib.byteCells_length]) s.data.toList (by intro e; rw [e] at hlen; simp at hlen; omega) (by omega) (by omega)
      (fun j x hj => hown2.cells rfl j _ (by simp [Lib.byteCells, hj]))
    rw [hlen] at hu
    exact ⟨_, _, hc, hu, Lib.below_freeze hb2 (Nat.le_refl _) _⟩

set_option maxRecDepth 1000000 in
theorem liteClone_any (s : ByteArray) (hm : s.size ≤ 140737488355328) (w : World) :
    Calls Try.prog 81 #[.string s] w fun e w' => e = .returned (.string s) ∧ Below w.heap.size w w' := by
  by_cases h0 : s.size = 0
  · have hs : s = ByteArray.empty := by
      obtain ⟨⟨l⟩⟩ := s
      cases l with | nil => rfl | cons a l => simp [ByteArray.size] at h0
    subst hs
    go_enter Try.func81, Try.ntmps81
    go_wp2
    go_ret
    exact ⟨rfl, Below.refl _ _⟩
  · obtain ⟨i0, hi, hz0, hz1, hz2⟩ := info_parts clone_info5
    have hp : 0 < s.size := by omega
    have hp' : ((s.size : Int) == 0) = false := by rw [beq_eq_false_iff_ne]; omega
    go_enter Try.func81, Try.ntmps81
    go_wp2_with (at_make; refine wpList_make_full _ rfl (.tmp 8) (.tmp 8) 22 rfl w.heap.size 5 i0 (.int .u8 0) 1 Try.underlying22 hi hz0 hz1 _ _ _ _ s.size rfl rfl rfl rfl ?b2 ?b3 ?b4 ?_)
    case b2 => rw [hz2]; omega
    case b3 => unfold maxLen; omega
    case b4 => exact Nat.le_refl _
    intro w1 hown hgrow
    obtain ⟨W2, W3, hc, hu, hb⟩ := clone_mem hp hm hown hgrow
    clear hown hgrow
    go_wp2
    go_ret
    exact ⟨rfl, hb⟩

theorem clone_any (s : ByteArray) (hm : s.size ≤ 140737488355328) (w : World) :
    Calls Try.prog 53 #[.string s] w fun e w' => e = .returned (.string s) ∧ Below w.heap.size w w' := by
  go_enter Try.func53, Try.ntmps53
  go_wp2_with (go_at_call 81; refine (liteClone_any s hm _).mono ?_; rintro e w' ⟨rfl, hb⟩)
  go_ret
  exact ⟨rfl, hb⟩
end Go.Proofs.Ytfkknmhokiacaaa

namespace Go.Proofs.Ytfkknmhokiacaaa
open Go.RowKit

/-- what stands while a file is copied -/
def CopyIn (w : World) (f : FileD) (W : World) : Prop := Below w.heap.size w W ∧ BlockIs W w.heap.size 36 (fileEnc f) ∧ BlockIs W (w.heap.size + 1) 36 [.string ByteArray.empty, .string ByteArray.empty, .int .i64 0]

theorem copy_in (w : World) (f : FileD) : CopyIn w f ((w.alloc (.cells #[.string f.name, .string f.text, .int .i64 f.kept] 36)).alloc (.cells #[.string ByteArray.empty, .string ByteArray.empty, .int .i64 0] 36)).drew := by
  have h0 : BlockIs (w.alloc (.cells #[.string f.name, .string f.text, .int .i64 f.kept] 36)) w.heap.size 36 (fileEnc f) := heap_alloc_new w _
  have hb := below_more (Below.refl _ (w.alloc (.cells #[.string f.name, .string f.text, .int .i64 f.kept] 36))) (.cells #[.string ByteArray.empty, .string ByteArray.empty, .int .i64 0] 36)
  have h1 : BlockIs ((w.alloc (.cells #[.string f.name, .string f.text, .int .i64 f.kept] 36)).alloc (.cells #[.string ByteArray.empty, .string ByteArray.empty, .int .i64 0] 36)) (w.heap.size + 1) 36 [.string ByteArray.empty, .string ByteArray.empty, .int .i64 0] := by
    have := heap_alloc_new (w.alloc (.cells #[.string f.name, .string f.text, .int .i64 f.kept] 36)) (.cells #[.string ByteArray.empty, .string ByteArray.empty, .int .i64 0] 36)
    rw [show (w.alloc (.cells #[.string f.name, .string f.text, .int .i64 f.kept] 36)).heap.size = w.heap.size + 1 by simp [World.alloc, -World.alloc_eq]] at this
    exact this
  exact ⟨below_drewN (below_more (below_more (Below.refl _ w) _) _) 1, (h0.on hb h0.lt).on (below_drewN (Below.refl _ _) 1) (h0.on hb h0.lt).lt, h1.on (below_drewN (Below.refl _ _) 1) h1.lt⟩

/-- a text is copied meanwhile -/
theorem copy_call (w : World) (f : FileD) (s : ByteArray) (hs : s.size ≤ 1048576) (W : World) (h : Hid (CopyIn w f W)) :
    Calls Try.prog 53 #[.string s] W fun e W' => e = .returned (.string s) ∧ (W'.cell? ⟨w.heap.size, 0, none⟩ = some (.string f.name) ∧ W'.cell? ⟨w.heap.size, 1, none⟩ = some (.string f.text) ∧ W'.cell? ⟨w.heap.size, 2, none⟩ = some (.int .i64 f.kept)) ∧ (W'.cell? ⟨w.heap.size + 1, 0, none⟩ = some (.string ByteArray.empty) ∧ W'.cell? ⟨w.heap.size + 1, 1, none⟩ = some (.string ByteArray.empty) ∧ W'.cell? ⟨w.heap.size + 1, 2, none⟩ = some (.int .i64 0)) ∧ (W'.frozen? ⟨w.heap.size + 1, 0, none⟩ = false ∧ W'.frozen? ⟨w.heap.size + 1, 1, none⟩ = false ∧ W'.frozen? ⟨w.heap.size + 1, 2, none⟩ = false) ∧ Hid (CopyIn w f W') := by
  refine (clone_any s (by omega) W).mono ?_
  rintro e W' ⟨rfl, hb⟩
  obtain ⟨h0, h1, h2⟩ := h.out
  have k1 := h1.on hb h1.lt
  have k2 := h2.on hb h2.lt
  exact ⟨rfl, ⟨k1.cell (j := 0) rfl, k1.cell (j := 1) rfl, k1.cell (j := 2) rfl⟩, ⟨k2.cell (j := 0) rfl, k2.cell (j := 1) rfl, k2.cell (j := 2) rfl⟩, ⟨k2.thaw 0, k2.thaw 1, k2.thaw 2⟩, below_via h0 hb, k1, k2⟩

set_option maxRecDepth 1000000 in
set_option maxHeartbeats 1000000 in
theorem copiedFile_any (f : FileD) (hs : f.name.size ≤ 1048576) (ht : f.text.size ≤ 1048576) (w : World) :
    Calls Try.prog 68 #[f.value] w fun e w' => e = .returned f.value ∧ Below w.heap.size w w' := by
  have HG := hid (copy_in w f)
  have CC := hid (fun s hs W h => copy_call w f s hs W h)
  unfold FileD.value
  go_enter Try.func68, Try.ntmps68
  go_wp2
  go_region_with (go_at_call 53; refine (CC.out _ (by first | exact hs | exact ht) _ HG).mono ?_; rintro e w2 ⟨rfl, ⟨x0, x1, x2⟩, ⟨y0, y1, y2⟩, ⟨z0, z1, z2⟩, HG⟩)
  all_goals
    have HB := hid (((HG.out.1.setCell (p := ⟨w.heap.size + 1, 0, none⟩) (by show _ ≤ _ + 1; omega) (.string f.name)).setCell (p := ⟨w.heap.size + 1, 1, none⟩) (by show _ ≤ _ + 1; omega) (.string f.text)).setCell (p := ⟨w.heap.size + 1, 2, none⟩) (by show _ ≤ _ + 1; omega) (.int .i64 f.kept))
    go_wp2
    refine bodyPost_ret (v := .agg #[.string f.name, .string f.text, .int .i64 f.kept]) (by simp [results, Try.results68, go_sem, y0, y1, y2]) rfl ⟨rfl, HB.out⟩

set_option maxRecDepth 1000000 in
set_option maxHeartbeats 1000000 in
theorem copiedDisk_any (ao : Option Addr) (l : List FileD) (cap : Nat) (hl : l.length ≤ 1048576) (hs : ∀ f ∈ l, f.name.size ≤ 1048576 ∧ f.text.size ≤ 1048576) (w : World) (ha : FilesAt w ao l) :
    Calls Try.prog 44 #[.agg #[.slice ao l.length cap]] w fun e w' => ∃ g, w.heap.size ≤ g ∧ e = .returned (.agg #[.slice (some ⟨g, 0, none⟩) l.length l.length]) ∧ BlockIs w' g 36 (fileCells l) ∧ Below w.heap.size w w' := by
  obtain ⟨i0, hi, hz0, hz1, hz2⟩ := info_parts toFile_info
  have HA := (show Hid (FilesAt w ao l) from ha)
  have HS := hid hs
  clear ha hs
  obtain ⟨W0, hW0⟩ : ∃ W0, (w.alloc (.cells #[.slice ao l.length cap] 26)).alloc (.cells #[.slice none 0 0] 26) = W0 := ⟨_, rfl⟩
  have hb0 : Below w.heap.size w W0 := by rw [← hW0]; exact below_more (below_more (Below.refl _ w) _) _
  have hsz : W0.heap.size = w.heap.size + 2 := by rw [← hW0]; simp [World.alloc, -World.alloc_eq]
  have hx0 : BlockIs W0 w.heap.size 26 [.slice ao l.length cap] := by
    rw [← hW0]
    have h0 : BlockIs (w.alloc (.cells #[.slice ao l.length cap] 26)) w.heap.size 26 [.slice ao l.length cap] := heap_alloc_new w _
    exact h0.on (below_more (Below.refl _ _) _) h0.lt
  have hx1 : BlockIs W0 (w.heap.size + 1) 26 [.slice none 0 0] := by
    rw [← hW0]
    have := heap_alloc_new (w.alloc (.cells #[.slice ao l.length cap] 26)) (.cells #[.slice none 0 0] 26)
    rw [show (w.alloc (.cells #[.slice ao l.length cap] 26)).heap.size = w.heap.size + 1 by simp [World.alloc, -World.alloc_eq]] at this
    exact this
  have H0 := hid (And.intro hb0 (And.intro hx0 hx1))
  have c0 := hx0.cell (j := 0) rfl
  clear hb0 hx0 hx1
  go_enter Try.func44, Try.ntmps44
  go_wp2_with (at_make; refine wpList_make_full _ rfl (.tmp 8) (.tmp 8) 24 rfl (w.heap.size + 2) 36 i0 (.agg #[.string ByteArray.empty, .string ByteArray.empty, .int .i64 0]) 3 Try.underlying24 hi hz0 hz1 _ _ _ _ l.length rfl rfl rfl rfl ?b2 ?b3 ?b4 ?_)
  case b2 => rw [hz2]; omega
  case b3 => unfold maxLen; omega
  case b4 => exact Nat.le_of_eq hsz.symm
  intro w1 hown hgrow
  try rw [hsz] at hown
  have HM := hid (BlockIs.made hown)
  have hB1 : Below (w.heap.size + 2) W0 w1 := (Below.refl _ W0).grown hgrow (Nat.le_of_eq hsz.symm) (fun k h => by cases h)
  have B1 := hid (H0.out.1.trans (hB1.mono (by omega)))
  have X1 := H0.out.2.1.on hB1 (by omega)
  have Y1 := hid (And.intro X1 (H0.out.2.2.on hB1 (by omega)))
  have c1 := X1.cell (j := 0) rfl
  clear hown hgrow hB1 X1 H0 c0
  clear hsz hW0 W0
  go_wp2
  go_loopg [4, 5, 13] l.length (fun g _ _ i wr => ∃ (k : Nat), k + g = l.length ∧ i = .int .i64 k ∧ Hid (Below w.heap.size w wr) ∧ Hid (BlockIs wr (w.heap.size + 1) 26 [.slice none 0 0]) ∧ ∃ rest, Hid (rest.length = (l.length - k) * 3) ∧ Hid (BlockIs wr (w.heap.size + 2) 36 (fileCells (l.take k) ++ rest)))
  case atStart => exact ⟨0, by omega, rfl, B1, Y1.out.2, _, made_length l.length, HM⟩
  case round =>
    obtain ⟨k, hkg, rfl, BR, YR, rest, hrl, FP⟩ := hrel
    clear HM B1 Y1
    cases gk with
    | zero =>
      have hlt : ¬ (k : Int) < (l.length : Int) := by omega
      have hP : BlockIs wr (w.heap.size + 2) 36 (fileCells l) := by
        have h0 : rest = [] := List.length_eq_zero_iff.1 (by rw [hrl.out, show l.length - k = 0 by omega])
        have := FP.out
        rw [h0, List.append_nil, List.take_of_length_le (by omega)] at this
        exact this
      have HP := hid (hP.far (b := w.heap.size + 1) (j := 0) (by omega) (.slice (some ⟨w.heap.size + 2, 0, none⟩) l.length l.length))
      have HB := hid (BR.out.setCell (p := ⟨w.heap.size + 1, 0, none⟩) (by show _ ≤ _ + 1; omega) (.slice (some ⟨w.heap.size + 2, 0, none⟩) l.length l.length))
      have y0 := YR.out.cell (j := 0) rfl
      have z0 := YR.out.thaw 0
      clear FP hrl hP BR YR
      go_wp2
      refine bodyPost_ret (v := .agg #[.slice (some ⟨w.heap.size + 2, 0, none⟩) l.length l.length]) (by simp [results, Try.results44, go_sem, y0]) rfl ⟨_, Nat.le_add_right _ _, rfl, HP.out, HB.out⟩
    | succ g =>
      have hlt : k < l.length := by omega
      have hlt' : (k : Int) < (l.length : Int) := by omega
      have hne : l ≠ [] := by intro e; rw [e] at hlt; simp at hlt
      obtain ⟨b, off, rfl, hc⟩ := HA.out.on BR.out hne
      obtain ⟨x0, x1, x2⟩ := hc k hlt
      clear hc
      have C := hid (fun w => copiedFile_any l[k] (HS.out _ (List.getElem_mem hlt)).1 (HS.out _ (List.getElem_mem hlt)).2 w)
      unfold FileD.value at C
      have hbA := below_more (Below.refl wr.heap.size wr) (.cells #[.string l[k].name, .string l[k].text, .int .i64 l[k].kept] 36)
      have HBA := hid hbA
      clear hbA
      go_wp2_with fail
      refine (C.out _).mono ?_
      rintro e w2 ⟨rfl, b2⟩
      have b3 := below_via HBA.out b2
      obtain ⟨⟨z0, z1, z2, y0, y1, y2⟩, hf, r', hr', hnew⟩ := put_file hlt FP.out hrl.out b3 FP.out.lt
      have B2 := hid (below_via BR.out b3)
      have Y2 := hid (YR.out.on b3 YR.out.lt)
      have f0 := hf (k * 3)
      have f1 := hf (k * 3 + 1)
      have f2 := hf (k * 3 + 2)
      have HN := hid hnew
      have HR := hid hr'
      clear x0 x1 x2 C hf hnew hr' b2 b3 FP hrl BR YR
      go_wp2
      go_roundg g
      case measure => omega
      case rel => exact ⟨k + 1, by omega, by go_num, ((B2.out.setCell (by show _ ≤ _ + 2; omega) _).setCell (by show _ ≤ _ + 2; omega) _).setCell (by show _ ≤ _ + 2; omega) _, ((Y2.out.far (by omega) _).far (by omega) _).far (by omega) _, r', HR, HN⟩
end Go.Proofs.Ytfkknmhokiacaaa

namespace Go.Proofs
open Go.RowKit Go.Maps Go.Sort Go.Shelf

-- maps.Keys[loop.example/g00232/impl.openDisk,string,*loop.example/g00232/impl.openFile] (function 80; its iterator 89) · slices.Sorted[string] (79) · slices.Sort[[]string,string] (88) · the map's type 81, the keys' 9
shelf_lay_g SlLaysZ.n7 Ggz 7 at Try 80 as Try.keys80
shelf_lay_g SlLaysZ.n6 Ggz 6 at Try 79 as Try.sorted79
shelf_lay_g SlLaysM.n6 Slgm 6 at Try 88 as Try.sort88

/-- slices.Sort's two contracts at this dump, at the fence that asks nothing. -/
theorem Try.sorts79 (m : Nat) : AnyZ.SortsIn Try.prog Try.sorted79_ren Fence.wide m :=
  ⟨fun blk off cap ss W hH hblk hsz => callsIn_wide.2 (AnyM.slices_Sort_string Try.sort88 blk off cap ss W hH hblk hsz),
   fun p cap W => callsIn_wide.2 (AnyM.slices_Sort_string_none Try.sort88 p cap W)⟩

/-- **maps.Keys[loop.example/g00232/impl.openDisk,string,*loop.example/g00232/impl.openFile], at whatever map, the nil one too:** a function value over ONE NEW BLOCK, which holds the map. -/
theorem Try.maps_Keys_80 (mb : Option Nat) (W : World) : CallsIn Fence.wide 5 Try.prog 80 #[.map mb] W fun e w' => e = .returned (.func (.func 89) #[] #[.pointer (some ⟨W.heap.size, 0, none⟩)]) ∧ w' = W.alloc (.cells #[.map mb] 81) :=
  AnyZ.keys_in Try.keys80 Fence.wide 5 trivial rfl mb W

set_option maxHeartbeats 1000000 in
/-- **slices.Sorted[string] AT WHAT maps.Keys[loop.example/g00232/impl.openDisk,string,*loop.example/g00232/impl.openFile] HANDED BACK FOR A MAP THAT IS NOT nil** ('w': the world AHEAD of maps.Keys' call): A NEW SLICE THAT HOLDS THE MAP's KEYS, SORTED; nil just where it has none; nothing that lay before has turned. -/
theorem Try.slices_Sorted_keys_79_80 {H : Type} (b nn : Nat) (D0 : DataW H) (R : Value → Option (DataW H × List MemPlace)) (w : World) (hown : w.ownsMap Try.prog 9 R b nn D0) (hmax : Maps.size D0 ≤ maxLen) (hbytes : Maps.size D0 * 16 ≤ 140737488355328) :
    CallsIn Fence.wide 5 Try.prog 79 #[.func (.func 89) #[] #[.pointer (some ⟨w.heap.size, 0, none⟩)]] (w.alloc (.cells #[.map (some b)] 81)) fun e w' => ∃ (v : Value) (ss : List (List UInt8)), e = .returned v ∧ ss.Perm (strKeys D0) ∧
      w'.ownsRow (w.alloc (.cells #[.map (some b)] 81)).heap.size 9 1 v ss.length ((ss.mergeSort (fun x y => decide (x ≤ y))).map encStr) ∧ (v = .slice none 0 0 ↔ ss = []) ∧ Below (w.alloc (.cells #[.map (some b)] 81)).heap.size (w.alloc (.cells #[.map (some b)] 81)) w' := by
  have hbl := hown.lt
  have hseq : SeqGives Fence.wide 2 Try.prog 89 #[.pointer (some ⟨w.heap.size, 0, none⟩)] encStr (fun ss => ss.Perm (strKeys D0)) (Maps.size D0) (w.alloc (.cells #[.map (some b)] 81)) :=
    AnyZ.keys_gives (ρ := Try.keys80_ren) { Try.keys80 with } Fence.wide _ trivial rfl (by omega) w.heap.size b nn D0 _ (by simp) (by simp) (by
      obtain ⟨es, clock, hb, Ft, hs, hD⟩ := hown
      exact ⟨es, clock, (Below.heap_alloc _ _ b hbl).trans hb, Ft, hs, hD⟩)
  exact AnyZ.sorted_in Try.sorted79 Fence.wide 5 trivial trivial trivial trivial rfl (by omega) (Try.sorts79 _) (enters_of Try.func88 (by kernel_rfl) rfl) 89 #[.pointer (some ⟨w.heap.size, 0, none⟩)] trivial (enters_of Try.func89 (by kernel_rfl) rfl) _ _ hmax hbytes _ hseq

set_option maxHeartbeats 1000000 in
/-- **.. AND FOR THE nil MAP: nil.** -/
theorem Try.slices_Sorted_keys_nil_79_80 (w : World) :
    CallsIn Fence.wide 5 Try.prog 79 #[.func (.func 89) #[] #[.pointer (some ⟨w.heap.size, 0, none⟩)]] (w.alloc (.cells #[.map none] 81)) fun e w' => ∃ (v : Value) (ss : List (List UInt8)), e = .returned v ∧ ss = [] ∧
      w'.ownsRow (w.alloc (.cells #[.map none] 81)).heap.size 9 1 v ss.length ((ss.mergeSort (fun x y => decide (x ≤ y))).map encStr) ∧ (v = .slice none 0 0 ↔ ss = []) ∧ Below (w.alloc (.cells #[.map none] 81)).heap.size (w.alloc (.cells #[.map none] 81)) w' := by
  have hseq : SeqGives Fence.wide 2 Try.prog 89 #[.pointer (some ⟨w.heap.size, 0, none⟩)] encStr (fun ss : List (List UInt8) => ss = []) 0 (w.alloc (.cells #[.map none] 81)) :=
    AnyZ.keys_gives_nil (ρ := Try.keys80_ren) { Try.keys80 with } Fence.wide _ trivial rfl w.heap.size _ (by simp) (by simp)
  exact AnyZ.sorted_in Try.sorted79 Fence.wide 5 trivial trivial trivial trivial rfl (by omega) (Try.sorts79 _) (enters_of Try.func88 (by kernel_rfl) rfl) 89 #[.pointer (some ⟨w.heap.size, 0, none⟩)] trivial (enters_of Try.func89 (by kernel_rfl) rfl) _ 0 (Nat.zero_le _) (by omega) _ hseq

-- THE CALLER's WALK over 'slices.Sorted(maps.Keys(m))' (inside '(callsIn_wide (n := 6)).1'; 'have hfK : Fence.wide.fn 80 := trivial', 'have hfS : Fence.wide.fn 79 := trivial' ahead): THE TWO ARMS TO PASTE:
--   gi_wp2_with (first
--     | (gi_at_call 80; refine (Try.maps_Keys_80 _ _).mono ?_; rintro e w' ⟨rfl, rfl⟩)
--     | (gi_at_call 79; refine (Try.slices_Sorted_keys_79_80 b nn D0 R w hown hmax hbytes).mono ?_; rintro e w' ⟨v, ss, rfl, hS, hrow, hnil, hb⟩))


end Go.Proofs

namespace Go.Proofs.Ytfkknmhokiacaaa
open Go.RowKit Go.Maps

theorem names_sorted {l : List FileD} (h : Asc l) : (l.map fun f => f.name.data.toList).mergeSort (fun x y => decide (x ≤ y)) = l.map fun f => f.name.data.toList := by
  refine List.mergeSort_of_pairwise ?_
  rw [List.pairwise_map]
  refine h.imp fun {a b} q => ?_
  rw [ByteArray.toList_eq, ByteArray.toList_eq] at q
  simpa using List.le_of_lt q
/-- names in a row of the call's own -/
def nameCells (l : List FileD) : List Value := l.map fun f => .string f.name
theorem names_own {w : World} {base : Nat} {v : Value} {l : List FileD} (h : w.ownsRow base 9 1 v l.length ((l.map fun f => f.name.data.toList).map encStr)) : ∃ va vc, v = .slice va l.length vc ∧ OwnAt w 9 (nameCells l) l.length va base w.heap.size := by
  have he : (l.map fun f => f.name.data.toList).map encStr = nameCells l := by
    rw [List.map_map, nameCells]
    refine List.map_congr_left fun f _ => ?_
    simp [encStr]
  rw [he] at h
  have hlt := h.lt
  obtain ⟨_, (⟨rfl, h0⟩ | ⟨g, cap, cur, rfl, hb, hg, _, _, _, ht⟩)⟩ := h
  · exact ⟨none, 0, by rw [h0], Or.inl h0⟩
  · refine ⟨_, cap, rfl, Or.inr ⟨g, cur.toList.drop (l.length * 1), rfl, hb, (hlt g rfl).2, ?_⟩⟩
    have hcur : cur.toList = nameCells l ++ cur.toList.drop (l.length * 1) := by rw [← ht, List.take_append_drop]
    unfold BlockIs
    rw [hg, ← hcur]
theorem names_cell {w : World} {l : List FileD} {va : Option Addr} {lo hi : Nat} (h : OwnAt w 9 (nameCells l) l.length va lo hi) {k : Nat} (hk : k < l.length) : ∃ g, va = some ⟨g, 0, none⟩ ∧ w.cell? ⟨g, k, none⟩ = some (.string l[k].name) := by
  rcases h with h | ⟨g, r, e, _, _, hb⟩
  · omega
  · refine ⟨g, e, hb.cell ?_⟩
    rw [List.getElem?_append_left (by simpa [nameCells] using hk)]
    simp [nameCells, hk]
theorem ownsRow_on {w w' : World} {base size n : Nat} {t : TypeId} {v : Value} {xs : List Value} (h : w.ownsRow base t size v n xs) (hb : Below w.heap.size w w') : w'.ownsRow base t size v n xs := by
  have hlt := h.lt
  refine ⟨h.1, h.2.imp id fun ⟨g, cap, cur, a, b, c, r⟩ => ⟨g, cap, cur, a, b, ?_, r⟩⟩
  rw [hb.block g (hlt g (by rw [a]; rfl)).2]
  exact c
/-- behind an append to a row of the call's own -/
theorem behind_append2 {w wr w1 : World} {v : Value} {base n : Nat} {t : TypeId} {size : Nat} {xs : List Value} {o : Obj} (hB : w.heap.size ≤ base) (BR : Below w.heap.size w wr) (OR : wr.ownsRow base t size v n xs) (hz : base ≤ wr.heap.size) (hg : (wr.alloc o).grownBy w1 v.ownBlock) :
    Below w.heap.size w w1 ∧ base ≤ w1.heap.size ∧ (∀ j, j < base → w1.heap[j]? = wr.heap[j]?) := by
  have hown : ∀ j, v.ownBlock = some j → base ≤ j := fun j hj => (OR.lt j hj).1
  have hd : Below wr.heap.size wr (wr.alloc o) := below_more (Below.refl _ wr) o
  have h1 : Below base wr w1 := ((hd.mono hz).grown hg (Nat.le_trans hz hd.size) hown)
  exact ⟨BR.trans (h1.mono hB), Nat.le_trans hz h1.size, fun j hj => h1.block j hj⟩
theorem OwnAt.same {w w' : World} {t : TypeId} {cs : List Value} {n : Nat} {va : Option Addr} {lo hi base : Nat} (h : OwnAt w t cs n va lo hi) (hs : ∀ j, j < base → w'.heap[j]? = w.heap[j]?) (hb : hi ≤ base) : OwnAt w' t cs n va lo hi :=
  h.imp id fun ⟨g, r, a, b, c, d⟩ => ⟨g, r, a, b, c, by unfold BlockIs; rw [hs g (by omega)]; exact d⟩
theorem BlockIs.same {w w' : World} {g base : Nat} {t : TypeId} {cs : List Value} (h : BlockIs w g t cs) (hs : ∀ j, j < base → w'.heap[j]? = w.heap[j]?) (hb : g < base) : BlockIs w' g t cs := by
  unfold BlockIs; rw [hs g hb]; exact h
theorem take_cells {l : List FileD} {k : Nat} (hk : k < l.length) : fileCells (l.take (k + 1)) = fileCells (l.take k) ++ [.string l[k].name, .string l[k].text, .int .i64 l[k].kept] := fileCells_take l k hk

set_option maxRecDepth 1000000 in
set_option maxHeartbeats 4000000 in
theorem implClosed_any (b : Nat) (l : List FileD) (adr : ByteArray → Nat) (lo : Nat) (D : DataW Unit) (w : World) (h : OpenIs w b l adr lo D) :
    Calls Try.prog 52 #[.map (some b)] w fun e w' => ∃ va vc, e = .returned (.agg #[.slice va l.length vc]) ∧ OwnAt w' 36 (fileCells l) l.length va w.heap.size w'.heap.size ∧ Below w.heap.size w w' := by
  obtain ⟨i0, hi, hz0, hz1, hz2⟩ := info_parts toFile_info
  have hl : l.length ≤ 30 := (diskOk_iff.1 h.right).1
  have H := hid h
  have hx0 : BlockIs (w.alloc (.cells #[.slice none 0 0] 26)) w.heap.size 26 [.slice none 0 0] := heap_alloc_new w _
  obtain ⟨W1, hW1⟩ : ∃ W1, (w.alloc (.cells #[.slice none 0 0] 26)).alloc (.cells #[.slice none 0 0] 26) = W1 := ⟨_, rfl⟩
  have hs1 : W1.heap.size = w.heap.size + 2 := by rw [← hW1]; simp [World.alloc, -World.alloc_eq]
  have hb1 : Below w.heap.size w W1 := by rw [← hW1]; exact below_more (below_more (Below.refl _ w) _) _
  have hxR : BlockIs W1 w.heap.size 26 [.slice none 0 0] := by rw [← hW1]; exact hx0.on (below_more (Below.refl _ _) _) hx0.lt
  have hxD : BlockIs W1 (w.heap.size + 1) 26 [.slice none 0 0] := by
    rw [← hW1]
    have := heap_alloc_new (w.alloc (.cells #[.slice none 0 0] 26)) (.cells #[.slice none 0 0] 26)
    rw [show (w.alloc (.cells #[.slice none 0 0] 26)).heap.size = w.heap.size + 1 by simp [World.alloc, -World.alloc_eq]] at this
    exact this
  have h1 := h.on hb1
  have hsz := h.size
  have CK := hid ((callsIn_wide (n := 5)).1 (Try.maps_Keys_80 (some b) W1))
  have CS := hid ((callsIn_wide (n := 5)).1 (Try.slices_Sorted_keys_79_80 b _ D ptrRead W1 h1.own (by rw [hsz]; unfold maxLen; omega) (by rw [hsz]; omega)))
  have hbk := below_more (Below.refl W1.heap.size W1) (.cells #[.map (some b)] 81)
  have H1 := hid (And.intro hb1 (And.intro hxR (And.intro hxD hbk)))
  have HS1 := hid hs1
  clear h hx0 hb1 hxR hxD h1 hbk hsz hs1
  go_enter Try.func52, Try.ntmps52
  go_wp2_with fail
  refine Calls.mono CK.out ?_
  rintro e w2 ⟨rfl, hw2⟩
  rw [hw2]
  clear hw2 w2 CK
  go_wp2_with fail
  refine Calls.mono CS.out ?_
  rintro e w3 ⟨v, ss, rfl, hS, hrow, _, b3⟩
  have hperm := hS.trans H.out.perm.symm
  have hsl : ss.length = l.length := by rw [hperm.length_eq, List.length_map]
  rw [hsl, mergeSort_of_perm hperm, names_sorted (diskOk_iff.1 H.out.right).2.2] at hrow
  obtain ⟨na, nc, rfl, hnames⟩ := names_own hrow
  have b13 := below_via H1.out.2.2.2 b3
  have B3 := hid (below_via H1.out.1 b13)
  have hsA := hid b13.size
  have X3 := hid (And.intro (H1.out.2.1.on b13 H1.out.2.1.lt) (And.intro (H1.out.2.2.1.on b13 H1.out.2.2.1.lt) (hnames.down (lo' := w.heap.size + 2) (by have := H1.out.2.2.2.size; have := HS1.out; omega) (Nat.le_refl _))))
  have hG : w.heap.size + 2 ≤ w3.heap.size := by have := hsA.out; have := HS1.out; omega
  clear hS hrow b3 hperm hsl hnames b13 H1 CS hW1 hsA
  go_wp2
  go_loopg [5, 6, 11] l.length (fun q _ _ i wr => ∃ (k : Nat) (v : Value), k + q = l.length ∧ i = .int .i64 k ∧ Hid (Below w.heap.size w wr) ∧ Hid (BlockIs wr w.heap.size 26 [.slice none 0 0] ∧ BlockIs wr (w.heap.size + 1) 26 [v] ∧ OwnAt wr 9 (nameCells l) l.length na (w.heap.size + 2) w3.heap.size) ∧ Hid (w3.heap.size ≤ wr.heap.size ∧ wr.ownsRow w3.heap.size 36 3 v k (fileCells (l.take k))))
  case atStart => exact ⟨0, .slice none 0 0, by omega, rfl, B3, X3, Nat.le_refl _, rfl, Or.inl ⟨rfl, rfl⟩⟩
  case round =>
    obtain ⟨k, v, hkg, rfl, BR, XR, OR⟩ := hrel
    clear B3 X3
    have c0 := XR.out.1.cell (j := 0) rfl
    have c1 := XR.out.2.1.cell (j := 0) rfl
    have f0 := XR.out.1.thaw 0
    have f1 := XR.out.2.1.thaw 0
    cases gk with
    | zero =>
      have hlt : ¬ (k : Int) < (l.length : Int) := by omega
      obtain rfl : k = l.length := by omega
      rw [List.take_length] at OR
      obtain ⟨va, vc, rfl, ho⟩ := own_of_row OR.out.2
      have HO := hid (((ho.far (b := w.heap.size) (j := 0) (by omega) (.slice va l.length vc)).down (lo' := w.heap.size) (by omega) (Nat.le_refl _)))
      have HB := hid (BR.out.setCell (p := ⟨w.heap.size, 0, none⟩) (Nat.le_refl _) (.slice va l.length vc))
      clear OR BR XR ho
      go_wp2
      refine bodyPost_ret (v := .agg #[.slice va l.length vc]) (by simp [results, Try.results52, go_sem, c0]) rfl ⟨va, ⟨vc, rfl⟩, ?_, HB.out⟩
      have := HO.out
      rw [show (wr.setCell ⟨w.heap.size, 0, none⟩ (.slice va l.length vc)).heap.size = wr.heap.size by simp [World.setCell]]
      exact this
    | succ q =>
      have hlt : k < l.length := by omega
      have hlt' : (k : Int) < (l.length : Int) := by omega
      obtain ⟨g, rfl, nk⟩ := names_cell XR.out.2.2 hlt
      have hop := H.out.on BR.out
      have hmem := List.getElem_mem hlt
      have hsm := diskOk_small H.out.right l[k] hmem
      have hrun := hop.get hmem (by unfold maxLen; omega)
      have hbl := hop.blk _ hmem
      have y0 := hbl.cell (j := 0) rfl
      have y1 := hbl.cell (j := 1) rfl
      obtain ⟨va, vc, rfl⟩ := row_shape OR.out.2
      have CC : Hid (Calls Try.prog 68 #[.agg #[.string l[k].name, .string l[k].text, .int .i64 l[k].kept]] wr.drew fun e w4 => e = .returned (.agg #[.string l[k].name, .string l[k].text, .int .i64 l[k].kept]) ∧ w4.cell? ⟨w.heap.size + 1, 0, none⟩ = some (.slice va k vc) ∧ (w4.alloc (.cells #[.string l[k].name, .string l[k].text, .int .i64 l[k].kept] 36)).cell? ⟨w.heap.size + 1, 0, none⟩ = some (.slice va k vc) ∧ w4.frozen? ⟨w.heap.size + 1, 0, none⟩ = false ∧ w4.ownsRow w3.heap.size 36 3 (.slice va k vc) k (fileCells (l.take k)) ∧ w3.heap.size ≤ w4.heap.size ∧ Hid (Below wr.heap.size wr w4)) := by
        have hd : Below wr.heap.size wr wr.drew := below_drewN (Below.refl _ _) 1
        refine Calls.mono (copiedFile_any l[k] hsm.1 hsm.2 wr.drew) ?_
        rintro e w4 ⟨rfl, b4⟩
        have b := below_via hd b4
        have k1 := XR.out.2.1.on b XR.out.2.1.lt
        have ba := below_more (Below.refl w4.heap.size w4) (.cells #[.string l[k].name, .string l[k].text, .int .i64 l[k].kept] 36)
        exact ⟨rfl, k1.cell (j := 0) rfl, (k1.on ba k1.lt).cell (j := 0) rfl, k1.thaw 0, ownsRow_on OR.out.2 b, Nat.le_trans OR.out.1 b.size, b⟩
      clear hop hmem hbl
      go_wp2
      go_region_law (first | (refine step_append_lies _ rfl (.tmp 19) (.tmp 31) 24 rfl w3.heap.size 36 i0 _ 3 40 Try.underlying24 hi hz0 hz1 hz2 rfl (by decide) _ k _ (by simp [Act.eval]) (hown.alloc _) ⟨w4.heap.size, 0, none⟩ 1 1 [.string l[k].name, .string l[k].text, .int .i64 l[k].kept] (by simp [Act.eval]) rfl (World.news_of_block (cs := #[.string l[k].name, .string l[k].text, .int .i64 l[k].kept]) (t := 36) (fr := (0, 0)) (heap_alloc_new w4 _)) (by simp [Value.oneCell']) (by decide) (by unfold maxLen; omega) (by omega) (by simp; omega) (w4.heap.size + 1) (by simp) ?_; intro g1 cap1 w5 hown1 hgrow hat hlt1; obtain ⟨B5, hz5, hk5⟩ := behind_append2 (w := w) (Nat.le_trans (Nat.le_add_right _ 2) hG) (below_via BR.out H4.out) hown h34 hgrow; have z1 := ((XR.out.2.1.on H4.out XR.out.2.1.lt).same hk5 (by omega)).cell (j := 0) rfl; have z2 := ((XR.out.2.1.on H4.out XR.out.2.1.lt).same hk5 (by omega)).thaw 0) | (go_simp; go_wp2_with (go_at_call 68; refine Calls.mono CC.out ?_; rintro e w4 ⟨rfl, m1, m3, m2, hown, h34, H4⟩)))
      all_goals
        have HO : Hid (w3.heap.size ≤ (w5.setCell ⟨w.heap.size + 1, 0, none⟩ (.slice (some ⟨g1, 0, none⟩) (k + 1) cap1)).heap.size ∧ (w5.setCell ⟨w.heap.size + 1, 0, none⟩ (.slice (some ⟨g1, 0, none⟩) (k + 1) cap1)).ownsRow w3.heap.size 36 3 (.slice (some ⟨g1, 0, none⟩) (k + 1) cap1) (k + 1) (fileCells (l.take (k + 1)))) := by
          rw [take_cells hlt]
          exact ⟨by rw [size_setCell]; exact hz5, ownsRow_setCell_below hown1 (by show _ + 1 < _; omega) _⟩
        have HX := hid (And.intro (((XR.out.1.on H4.out XR.out.1.lt).same hk5 (by omega)).far (b := w.heap.size + 1) (j := 0) (by omega) (.slice (some ⟨g1, 0, none⟩) (k + 1) cap1)) (And.intro (((XR.out.2.1.on H4.out XR.out.2.1.lt).same hk5 (by omega)).set 0 (.slice (some ⟨g1, 0, none⟩) (k + 1) cap1)) (((XR.out.2.2.on H4.out).same hk5 (Nat.le_refl _)).far (b := w.heap.size + 1) (j := 0) (by omega) (.slice (some ⟨g1, 0, none⟩) (k + 1) cap1))))
        have HB := hid (B5.setCell (p := ⟨w.heap.size + 1, 0, none⟩) (by show _ ≤ _ + 1; omega) (.slice (some ⟨g1, 0, none⟩) (k + 1) cap1))
        clear hown1 hgrow hat hlt1 B5 hz5 hk5 z1 z2 m1 m2 m3 hown h34 H4 CC OR XR BR c0 c1 f0 f1 y0 y1 hrun nk hsm
        go_wp2
        go_roundg q
        case measure => omega
        case rel => exact ⟨k + 1, _, by omega, by go_num, HB, HX, HO⟩
end Go.Proofs.Ytfkknmhokiacaaa
