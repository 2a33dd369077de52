/-
  An open disk: files behind pointers in a map of the call's own, by their names.
-/
import Derived.Test.YthkfgiilbkjojaaPlainDo
import Derived.Maps.OwnSet
import Derived.Maps.OwnOps
import Derived.Sort.KeysCollected
namespace Go.Proofs.Ythkfgiilbkjojaa
open Go.RowKit Go.Maps

/-- how a pointer to an open file reads: by its block -/
def ptrRead : Value → Option (DataW Unit × List MemPlace)
  | .pointer (some ⟨g, 0, none⟩) => some (.lit (.int .i64 g), [])
  | .pointer none => some (.nil, [])
  | _ => none
theorem ptrRead_mk (g : Nat) : ptrRead (.pointer (some ⟨g, 0, none⟩)) = some (.lit (.int .i64 g), []) := rfl
theorem ptrRead_inv {v : Value} {g : Nat} {ps : List MemPlace} (h : ptrRead v = some (.lit (.int .i64 g), ps)) : v = .pointer (some ⟨g, 0, none⟩) := by
  unfold ptrRead at h
  split at h
  · simp at h
    rw [Int.ofNat_inj.1 h.1]
  · simp at h
  · cases h
theorem ptrRead_nil {v : Value} {ps : List MemPlace} (h : ptrRead v = some (.nil, ps)) : v = .pointer none := by
  unfold ptrRead at h
  split at h
  · simp at h
  · rfl
  · cases h
theorem open_keyed : Keyed Try.prog 9 := string_keyed Try.underlying9
theorem open_zero (w : World) : (zeroValue 108).run Try.prog w = .ok (.pointer none) w := by kernel_rfl
def keyL (s : ByteArray) : Lit := .string s.data.toList
theorem keyL_of {s : ByteArray} (h : s.size ≤ maxLen) : keyOf Try.prog 9 (.string s) = some (keyL s) := WideMaps.keyOf_string_mk Try.underlying9 h
theorem keyL_lit (s : ByteArray) : WideAt.IsKeyLit (keyL s) := trivial
theorem keyL_ne {s t : ByteArray} (h : s ≠ t) : keyL s ≠ keyL t := by
  intro e
  simp only [keyL, Lit.string.injEq] at e
  exact h (ByteArray.ext (Array.toList_inj.1 e))
theorem owns_tight {w : World} {P : Program} {k : TypeId} {R : Value → Option (DataW Unit × List MemPlace)} {b n : Nat} {D : DataW Unit} (h : w.ownsMap P k R b n D) : w.ownsMap P k R b (Maps.size D) D := by
  obtain ⟨es, clock, hb, F, hs, rfl⟩ := h
  exact ⟨es, clock, hb, F, by simp [Maps.size, length_sorted], rfl⟩

/-- block b is a map that has the files of a right disk by their names, each behind a pointer to a block of its own -/
structure OpenIs (w : World) (b : Nat) (l : List FileD) (adr : ByteArray → Nat) (lo : Nat) (D : DataW Unit) : Prop where
  own : w.ownsMap Try.prog 9 ptrRead b (Maps.size D) D
  right : diskOk l = true
  has : ∀ s, Maps.has D (keyL s) = true ↔ ∃ f ∈ l, f.name = s
  at_ : ∀ f ∈ l, ∀ z, D.atKey (keyL f.name) z = .lit (.int .i64 (adr f.name))
  blk : ∀ f ∈ l, BlockIs w (adr f.name) 110 [.string f.text, .int .i64 f.kept]
  low : lo ≤ b
  lows : ∀ f ∈ l, lo ≤ adr f.name
  inj : ∀ f ∈ l, ∀ g ∈ l, adr f.name = adr g.name → f.name = g.name

theorem OpenIs.on {w w' : World} {b : Nat} {l : List FileD} {adr : ByteArray → Nat} {lo : Nat} {D : DataW Unit} (h : OpenIs w b l adr lo D) (hb : Below w.heap.size w w') : OpenIs w' b l adr lo D :=
  ⟨by obtain ⟨es, clock, hb', F, hs, hD⟩ := h.own; exact ⟨es, clock, (hb.block b h.own.lt).trans hb', F, hs, hD⟩, h.right, h.has, h.at_, fun f hf => (h.blk f hf).on hb (h.blk f hf).lt, h.low, h.lows, h.inj⟩
theorem OpenIs.drew {w : World} {b : Nat} {l : List FileD} {adr : ByteArray → Nat} {lo : Nat} {D : DataW Unit} (h : OpenIs w b l adr lo D) : OpenIs w.drew b l adr lo D := h.on (below_drewN (Below.refl _ _) 1)
/-- the map's block holds no cells -/
theorem owns_apart {w : World} {P : Program} {k : TypeId} {R : Value → Option (DataW Unit × List MemPlace)} {b n g : Nat} {D : DataW Unit} {t : TypeId} {cs : List Value} (h : w.ownsMap P k R b n D) (hg : BlockIs w g t cs) : g ≠ b := by
  obtain ⟨es, clock, hb, _⟩ := h
  intro e
  subst e
  unfold BlockIs at hg
  rw [hb] at hg
  cases hg
theorem BlockIs.turned {w w' : World} {b g : Nat} {t : TypeId} {cs : List Value} (hg : BlockIs w g t cs) (ht : w.mapTurned w' b) (hne : g ≠ b) : BlockIs w' g t cs := by
  unfold BlockIs
  rw [ht.grown.block g hg.lt (by simpa using hne)]
  exact hg

theorem names_nodup {l : List FileD} (h : Asc l) : (l.map fun f => f.name.data.toList).Nodup := by
  rw [List.nodup_iff_pairwise_ne, List.pairwise_map]
  refine h.imp fun {a b} q e => ?_
  rw [ByteArray.toList_eq, ByteArray.toList_eq, e] at q
  exact List.lt_irrefl _ q
theorem OpenIs.perm {w : World} {b : Nat} {l : List FileD} {adr : ByteArray → Nat} {lo : Nat} {D : DataW Unit} (h : OpenIs w b l adr lo D) : (l.map fun f => f.name.data.toList).Perm (strKeys D) := by
  obtain ⟨es, rfl, hk⟩ := h.own.keysOf
  obtain ⟨es', he, hp⟩ := h.own.tidy open_keyed
  cases he
  refine perm_strKeys hp (fun p hq => by obtain ⟨v, hv⟩ := hk p hq; obtain ⟨x, _, hx, _⟩ := Maps.keyOf_str Try.underlying9 hv; exact ⟨x, hx⟩) (names_nodup (diskOk_iff.1 h.right).2.2) fun x => ?_
  have hx : keyL ⟨x.toArray⟩ = .string x := by simp [keyL]
  rw [← hx, h.has]
  simp only [List.mem_map]
  exact ⟨fun ⟨f, hf, e⟩ => ⟨f, hf, ByteArray.ext (by rw [← e])⟩, fun ⟨f, hf, e⟩ => ⟨f, hf, by rw [e]⟩⟩
theorem OpenIs.size {w : World} {b : Nat} {l : List FileD} {adr : ByteArray → Nat} {lo : Nat} {D : DataW Unit} (h : OpenIs w b l adr lo D) : Maps.size D = l.length := by
  have hp := h.perm.length_eq
  obtain ⟨es, rfl⟩ := h.own.isMap
  simpa [Maps.size, strKeys] using hp.symm

/-- 'file, there := open[name]' -/
theorem OpenIs.look {w : World} {b : Nat} {l : List FileD} {adr : ByteArray → Nat} {lo : Nat} {D : DataW Unit} (h : OpenIs w b l adr lo D) {s : ByteArray} (hs : s.size ≤ maxLen) :
    (∃ f, foundOf l s = some f ∧ (Instr.lookup 83 (.map (some b)) (.string s) true).run Try.prog w = .ok (.tuple #[.pointer (some ⟨adr s, 0, none⟩), .bool true]) w ∧ BlockIs w (adr s) 110 [.string f.text, .int .i64 f.kept]) ∨
    (foundOf l s = none ∧ (Instr.lookup 83 (.map (some b)) (.string s) true).run Try.prog w = .ok (.tuple #[.pointer none, .bool false]) w) := by
  obtain ⟨v, ps, hrun, hv⟩ := h.own.look_ok open_keyed Try.underlying83 (open_zero w) (zd := .nil) (zp := []) rfl (keyL_of hs)
  cases hf : foundOf l s with
  | none =>
    have hno : Maps.has D (keyL s) = false := by
      cases hh : Maps.has D (keyL s) with
      | false => rfl
      | true => obtain ⟨f, hm, e⟩ := (h.has s).1 hh; exact absurd e (found_not hf f hm)
    rw [hno] at hrun
    rw [Maps.atKey_of_not_has hno] at hv
    rw [ptrRead_nil hv] at hrun
    exact Or.inr ⟨rfl, hrun⟩
  | some f =>
    obtain ⟨hm, rfl⟩ := found_mem hf
    rw [(h.has f.name).2 ⟨f, hm, rfl⟩] at hrun
    rw [h.at_ f hm] at hv
    rw [ptrRead_inv hv] at hrun
    exact Or.inl ⟨f, rfl, hrun, h.blk f hm⟩
/-- 'open[name]', the name is there -/
theorem OpenIs.get {w : World} {b : Nat} {l : List FileD} {adr : ByteArray → Nat} {lo : Nat} {D : DataW Unit} (h : OpenIs w b l adr lo D) {f : FileD} (hf : f ∈ l) (hs : f.name.size ≤ maxLen) :
    (Instr.lookup 83 (.map (some b)) (.string f.name) false).run Try.prog w = .ok (.pointer (some ⟨adr f.name, 0, none⟩)) w := by
  obtain ⟨v, ps, hrun, hv⟩ := h.own.lookup open_keyed Try.underlying83 (open_zero w) (zd := .nil) (zp := []) rfl (keyL_of hs)
  rw [h.at_ f hf] at hv
  rw [ptrRead_inv hv] at hrun
  exact hrun

def adrPut (adr : ByteArray → Nat) (x : ByteArray) (g : Nat) (s : ByteArray) : Nat := if s.toList == x.toList then g else adr s
theorem adrPut_same (adr : ByteArray → Nat) (x : ByteArray) (g : Nat) : adrPut adr x g x = g := by simp [adrPut]
theorem adrPut_other (adr : ByteArray → Nat) {x s : ByteArray} (g : Nat) (h : s ≠ x) : adrPut adr x g s = adr s := by
  have : (s.toList == x.toList) = false := beq_eq_false_iff_ne.2 fun e => h (text_eq e)
  simp [adrPut, this]
/-- a file is put in -/
theorem open_put {w w' : World} {b : Nat} {l : List FileD} {adr : ByteArray → Nat} {lo : Nat} {D : DataW Unit} {n g : Nat} (f : FileD)
    (hhas : ∀ s, Maps.has D (keyL s) = true ↔ ∃ f ∈ l, f.name = s) (hat : ∀ f ∈ l, ∀ z, D.atKey (keyL f.name) z = .lit (.int .i64 (adr f.name))) (hinj : ∀ f ∈ l, ∀ g ∈ l, adr f.name = adr g.name → f.name = g.name)
    (hmap : Maps.IsMap D) (hlow : lo ≤ b) (hr : diskOk (filesPut l f) = true)
    (hown : w'.ownsMap Try.prog 9 ptrRead b n (D.put (keyL f.name) (.lit (.int .i64 g)))) (ht : w.mapTurned w' b) (hb0 : ∀ k t cs, BlockIs w k t cs → k ≠ b)
    (hblk : ∀ h ∈ l, h.name ≠ f.name → lo ≤ adr h.name ∧ adr h.name ≠ g ∧ BlockIs w (adr h.name) 110 [.string h.text, .int .i64 h.kept]) (hg : lo ≤ g) (hgb : BlockIs w g 110 [.string f.text, .int .i64 f.kept]) :
    OpenIs w' b (filesPut l f) (adrPut adr f.name g) lo (D.put (keyL f.name) (.lit (.int .i64 g))) := by
  refine ⟨owns_tight hown, hr, fun s => ?_, fun h hh z => ?_, fun h hh => ?_, hlow, fun h hh => ?_, fun h hh k hk e => ?_⟩
  · by_cases e : s = f.name
    · rw [e, Maps.has_put_same hmap (keyL_lit _)]
      exact ⟨fun _ => ⟨f, mem_put.2 (Or.inl rfl), rfl⟩, fun _ => rfl⟩
    · rw [Maps.has_put_other (keyL_ne e), hhas]
      exact ⟨fun ⟨h, hm, q⟩ => ⟨h, mem_put.2 (Or.inr ⟨hm, by rw [q]; exact e⟩), q⟩, fun ⟨h, hm, q⟩ => by
        rcases mem_put.1 hm with rfl | ⟨hm, _⟩
        · exact absurd q.symm e
        · exact ⟨h, hm, q⟩⟩
  · rcases mem_put.1 hh with rfl | ⟨hm, hne⟩
    · rw [Maps.atKey_put_same hmap (keyL_lit _), adrPut_same]
    · rw [Maps.atKey_put_other (keyL_ne hne), hat h hm, adrPut_other adr g hne]
  · rcases mem_put.1 hh with rfl | ⟨hm, hne⟩
    · rw [adrPut_same]; exact hgb.turned ht (hb0 _ _ _ hgb)
    · rw [adrPut_other adr g hne]; exact (hblk h hm hne).2.2.turned ht (hb0 _ _ _ (hblk h hm hne).2.2)
  · rcases mem_put.1 hh with rfl | ⟨hm, hne⟩
    · rw [adrPut_same]; exact hg
    · rw [adrPut_other adr g hne]; exact (hblk h hm hne).1
  · rcases mem_put.1 hh with rfl | ⟨hm, hne⟩
    · rcases mem_put.1 hk with rfl | ⟨km, kne⟩
      · rfl
      · rw [adrPut_same, adrPut_other adr g kne] at e; exact absurd e.symm (hblk k km kne).2.1
    · rcases mem_put.1 hk with rfl | ⟨km, kne⟩
      · rw [adrPut_same, adrPut_other adr g hne] at e; exact absurd e (hblk h hm hne).2.1
      · rw [adrPut_other adr g hne, adrPut_other adr g kne] at e; exact hinj h hm k km e
/-- a file's cells are written -/
theorem open_set {w w' : World} {b : Nat} {l : List FileD} {adr : ByteArray → Nat} {lo : Nat} {D : DataW Unit} {name t : ByteArray} {k : Int} {f : FileD} {j : Nat} {v : Value} (h : OpenIs w b l adr lo D) (hf : foundOf l name = some f) (hr : diskOk (filesPut l ⟨name, t, k⟩) = true)
    (hw : w' = w.setCell ⟨adr name, j, none⟩ v) (hb : BlockIs w' (adr name) 110 [.string t, .int .i64 k]) : OpenIs w' b (filesPut l ⟨name, t, k⟩) adr lo D := by
  obtain ⟨hm, hn⟩ := found_mem hf
  have hne : b ≠ adr name := fun e => owns_apart h.own (h.blk f hm) (by rw [hn]; exact e.symm)
  refine ⟨by rw [hw]; exact h.own.setCell hne v, hr, fun s => ?_, fun g hg z => ?_, fun g hg => ?_, h.low, fun g hg => ?_, fun g hg q hq e => ?_⟩
  · rw [h.has]
    constructor
    · rintro ⟨g, hg, e⟩
      by_cases q : g.name = name
      · exact ⟨_, mem_put.2 (Or.inl rfl), by rw [← e, q]⟩
      · exact ⟨g, mem_put.2 (Or.inr ⟨hg, q⟩), e⟩
    · rintro ⟨g, hg, e⟩
      rcases mem_put.1 hg with rfl | ⟨hg, _⟩
      · exact ⟨f, hm, by rw [hn]; exact e⟩
      · exact ⟨g, hg, e⟩
  · rcases mem_put.1 hg with rfl | ⟨hg, _⟩
    · show D.atKey (keyL name) z = .lit (.int .i64 (adr name))
      rw [← hn]; exact h.at_ f hm z
    · exact h.at_ g hg z
  · rcases mem_put.1 hg with rfl | ⟨hg, q⟩
    · exact hb
    · rw [hw]
      exact (h.blk g hg).far (fun e => q (by have := h.inj g hg f hm (by rw [hn]; exact e.symm); rw [this, hn])) v
  · rcases mem_put.1 hg with rfl | ⟨hg, _⟩
    · show lo ≤ adr name
      rw [← hn]; exact h.lows f hm
    · exact h.lows g hg
  · have up : ∀ x ∈ filesPut l ⟨name, t, k⟩, ∃ y ∈ l, y.name = x.name := by
      intro x hx
      rcases mem_put.1 hx with rfl | ⟨hx, _⟩
      · exact ⟨f, hm, hn⟩
      · exact ⟨x, hx, rfl⟩
    obtain ⟨g', hg', eg⟩ := up g hg
    obtain ⟨q', hq', eq⟩ := up q hq
    rw [← eg, ← eq] at e ⊢
    exact h.inj g' hg' q' hq' e
/-- a file is taken out -/
theorem open_del {w w' : World} {b : Nat} {l : List FileD} {adr : ByteArray → Nat} {lo : Nat} {D : DataW Unit} {n : Nat} {x : ByteArray} (h : OpenIs w b l adr lo D)
    (hown : w'.ownsMap Try.prog 9 ptrRead b n (D.del (keyL x))) (ht : w.mapTurned w' b) : OpenIs w' b (filesNot l x) adr lo (D.del (keyL x)) := by
  refine ⟨owns_tight hown, not_right h.right, fun s => ?_, fun f hf z => ?_, fun f hf => ?_, h.low, fun f hf => h.lows f (mem_not.1 hf).1, fun f hf g hg => h.inj f (mem_not.1 hf).1 g (mem_not.1 hg).1⟩
  · by_cases e : s = x
    · rw [e, Maps.has_del_same]
      exact ⟨fun q => (by cases q), fun ⟨f, hm, q⟩ => absurd q (mem_not.1 hm).2⟩
    · rw [Maps.has_del_other (keyL_ne e), h.has]
      exact ⟨fun ⟨f, hm, q⟩ => ⟨f, mem_not.2 ⟨hm, by rw [q]; exact e⟩, q⟩, fun ⟨f, hm, q⟩ => ⟨f, (mem_not.1 hm).1, q⟩⟩
  · rw [Maps.atKey_del_other (keyL_ne (mem_not.1 hf).2), h.at_ f (mem_not.1 hf).1]
  · exact (h.blk f (mem_not.1 hf).1).turned ht (owns_apart h.own (h.blk f (mem_not.1 hf).1))
end Go.Proofs.Ythkfgiilbkjojaa
