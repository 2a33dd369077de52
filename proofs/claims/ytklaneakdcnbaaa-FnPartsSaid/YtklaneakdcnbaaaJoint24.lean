/-
  A datagram's parts, in whatever order: they join once, when all are there.
-/
import Derived.Test.YtklaneakdcnbaaaJoint21
import Derived.Test.YtklaneakdcnbaaaJoint1
import Derived.Test.YtklaneakdcnbaaaJoint23
import Derived.Test.YtklaneakdcnbaaaJoint12
namespace Go.Proofs.Ytklaneakdcnbaaa
open Go.RowKit

def ordJ (r n k : Nat) : List Nat := (List.range k).map fun i => (i + r) % n
def heldE (d : DgramD) (sz n : Nat) (J : List Nat) : BitD := ⟨d.src, d.ident, J.map (fun m => (partAt d sz m).body), J.map (fun m => ((m * sz : Nat) : Int)), if n - 1 ∈ J then (d.body.size : Int) else 0, 15⟩
def bitsK (d : DgramD) (sz n r k : Nat) : List BitD := if k = 0 then [] else [heldE d sz n (ordJ r n k)]
def preB (d : DgramD) (sz m : Nat) : ByteArray := d.body.extract 0 (min (m * sz) d.body.size)
theorem part_size {d : DgramD} {sz m : Nat} (hlt : m * sz < d.body.size) (hs : 0 < sz) : (partAt d sz m).body.size = min (m * sz + sz) d.body.size - m * sz := by
  simp only [partAt, ByteArray.size_extract]
  omega
theorem part_ok {d : DgramD} (hd : WholeD d) {sz m : Nat} (hs : 0 < sz) (h8 : sz % 8 = 0) (hm : m < nParts d sz) : dgramOk (partAt d sz m) = true := by
  obtain ⟨h1, h2, h3, h4, h5, h6⟩ := hd
  have hlt := (parts_more hs).2 hm
  have hq : m * sz % 8 = 0 := by rw [Nat.mul_mod, h8]; simp
  have hz := part_size hlt hs
  refine dgramOk_yes h1 h2 h3 ?_ ?_ ?_ ?_
  · simp only [partAt]; omega
  · simp only [partAt]; omega
  · rw [hz]; simp only [partAt]; omega
  · intro hmo
    rw [hz]
    simp only [partAt] at hmo
    split at hmo
    · rw [h5] at hmo; cases hmo
    · omega
theorem pre_size {d : DgramD} {sz m : Nat} (hlt : m * sz < d.body.size) : (preB d sz m).size = m * sz := by
  simp only [preB, ByteArray.size_extract]
  omega
theorem pre_step {d : DgramD} {sz m : Nat} (hlt : m * sz < d.body.size) : preB d sz m ++ (partAt d sz m).body = preB d sz (m + 1) := by
  simp only [preB, partAt]
  rw [Nat.min_eq_left (Nat.le_of_lt hlt), ByteArray.extract_append_extract, Nat.succ_mul]
  congr 1
  omega
theorem pre_zero (d : DgramD) (sz : Nat) : preB d sz 0 = ⟨#[]⟩ := by
  apply ByteArray.ext
  have : (preB d sz 0).data.size = 0 := by
    have : (preB d sz 0).size = 0 := by simp [preB]
    exact this
  exact Array.eq_empty_of_size_eq_zero this
theorem pre_all {d : DgramD} {sz m : Nat} (h : d.body.size ≤ m * sz) : preB d sz m = d.body := by
  rw [preB, Nat.min_eq_right h, ByteArray.extract_zero_size]
theorem first_in {sz m : Nat} (hs : 0 < sz) {J : List Nat} (h : m ∈ J) : ∃ i, firstAt (J.map (fun m => ((m * sz : Nat) : Int))) ((m * sz : Nat) : Int) = some i ∧ J[i]? = some m := by
  cases hf : firstAt (J.map (fun m => ((m * sz : Nat) : Int))) ((m * sz : Nat) : Int) with
  | none =>
    rw [firstAt, List.findIdx?_eq_none_iff] at hf
    have := hf ((m * sz : Nat) : Int) (List.mem_map.2 ⟨m, h, rfl⟩)
    simp at this
  | some i =>
    obtain ⟨hi, he⟩ := firstAt_get hf
    refine ⟨i, rfl, ?_⟩
    rw [List.length_map] at hi
    rw [List.getElem_map] at he
    rw [List.getElem?_eq_getElem hi]
    congr 1
    exact Nat.eq_of_mul_eq_mul_right hs (by exact_mod_cast he)
theorem first_out {sz m : Nat} (hs : 0 < sz) {J : List Nat} (h : m ∉ J) : firstAt (J.map (fun m => ((m * sz : Nat) : Int))) ((m * sz : Nat) : Int) = none := by
  rw [firstAt, List.findIdx?_eq_none_iff]
  intro x hx
  obtain ⟨j, hj, rfl⟩ := List.mem_map.1 hx
  rw [decide_eq_false_iff_not]
  intro e
  exact h (by rw [← Nat.eq_of_mul_eq_mul_right hs (show j * sz = m * sz by exact_mod_cast e)]; exact hj)
theorem take_in {d : DgramD} (hd : WholeD d) {sz n m : Nat} (hs : 0 < sz) {J : List Nat} (h : m ∈ J) : takeD (heldE d sz n J) (partAt d sz m) = heldE d sz n J := by
  obtain ⟨i, hi, _⟩ := first_in hs h
  have hp : (partAt d sz m).place = ((m * sz : Nat) : Int) := by simp only [partAt, hd.2.2.2.1]; omega
  rw [takeD, if_pos]
  rw [hp]
  show (firstAt (J.map _) _).isSome = true
  rw [hi]
  rfl
theorem last_iff {d : DgramD} {sz m : Nat} (hs : 0 < sz) (hm : m < nParts d sz) : d.body.size ≤ m * sz + sz ↔ m = nParts d sz - 1 := by
  have h1 := parts_more (d := d) (k := m + 1) hs
  rw [Nat.succ_mul] at h1
  constructor
  · intro h
    have : ¬ m + 1 < nParts d sz := fun q => by have := h1.2 q; omega
    omega
  · intro h
    have : ¬ m * sz + sz < d.body.size := fun q => by have := h1.1 q; omega
    omega
theorem bit_ext {a b : BitD} (h1 : a.src = b.src) (h2 : a.ident = b.ident) (h3 : a.texts = b.texts) (h4 : a.ats = b.ats) (h5 : a.total = b.total) (h6 : a.lim = b.lim) : a = b := by
  cases a
  cases b
  simp only at h1 h2 h3 h4 h5 h6
  subst h1 h2 h3 h4 h5 h6
  rfl
theorem take_out {d : DgramD} (hd : WholeD d) {sz m : Nat} (hs : 0 < sz) {J : List Nat} (hm : m < nParts d sz) (h : m ∉ J) : takeD (heldE d sz (nParts d sz) J) (partAt d sz m) = heldE d sz (nParts d sz) (J ++ [m]) := by
  have hp : (partAt d sz m).place = ((m * sz : Nat) : Int) := by simp only [partAt, hd.2.2.2.1]; omega
  have hlt := (parts_more hs).2 hm
  have hz := part_size hlt hs
  have hli := last_iff hs hm
  have hno : ¬ (firstAt (heldE d sz (nParts d sz) J).ats (partAt d sz m).place).isSome = true := by
    rw [hp]
    show ¬ (firstAt (J.map _) _).isSome = true
    rw [first_out hs h]
    simp
  rw [takeD, if_neg hno]
  refine bit_ext rfl rfl (by simp [addPart, heldE]) (by simp only [addPart, heldE, List.map_append, List.map_cons, List.map_nil]; rw [hp]) ?_ rfl
  by_cases e : m = nParts d sz - 1
  · have hb := hli.2 e
    have hmo : (partAt d sz m).more = false := by simp only [partAt, if_pos hb, hd.2.2.2.2.1]
    have hn : nParts d sz - 1 ∉ J := e ▸ h
    have h1 : (addPart (heldE d sz (nParts d sz) J) (partAt d sz m)).total = (partAt d sz m).place + ((partAt d sz m).body.size : Int) := if_pos ⟨hmo, if_neg hn⟩
    have h2 : (heldE d sz (nParts d sz) (J ++ [m])).total = (d.body.size : Int) := if_pos (by rw [← e]; simp)
    rw [h1, h2, hp, hz]
    omega
  · have hb : ¬ d.body.size ≤ m * sz + sz := fun q => e (hli.1 q)
    have hmo : (partAt d sz m).more = true := by simp only [partAt, if_neg hb]
    have h1 : (addPart (heldE d sz (nParts d sz) J) (partAt d sz m)).total = (heldE d sz (nParts d sz) J).total := if_neg (fun q => by rw [hmo] at q; cases q.1)
    rw [h1]
    simp only [heldE, List.mem_append, List.mem_singleton]
    by_cases q : nParts d sz - 1 ∈ J
    · rw [if_pos q, if_pos (Or.inl q)]
    · rw [if_neg q, if_neg (fun z => z.elim q (fun z => e z.symm))]
theorem run_parts {d : DgramD} {sz : Nat} (hs : 0 < sz) {J : List Nat} {E : BitD} (hE : E = heldE d sz (nParts d sz) J) (ht : E.total = (d.body.size : Int)) : ∀ t m f, m + t = nParts d sz → t ≤ f → ((∀ i, m ≤ i → i < nParts d sz → i ∈ J) → runB E f (preB d sz m) = some d.body) ∧ ((∃ i, m ≤ i ∧ i < nParts d sz ∧ i ∉ J) → runB E f (preB d sz m) = none) := by
  intro t
  induction t with
  | zero =>
    intro m f hm _
    have hge : d.body.size ≤ m * sz := by
      have := parts_more (d := d) (k := m) hs
      rcases Nat.lt_or_ge (m * sz) d.body.size with q | q
      · have := this.1 q; omega
      · exact q
    refine ⟨fun _ => ?_, fun ⟨i, h1, h2, _⟩ => by omega⟩
    rw [pre_all hge, runB_end E f (by rw [ht]; omega)]
  | succ t ih =>
    intro m f hm hf
    have hlt := (parts_more (d := d) (k := m) hs).2 (by omega)
    have hps := pre_size hlt
    have hl : ((preB d sz m).size : Int) < E.total := by rw [hps, ht]; omega
    by_cases hin : m ∈ J
    · obtain ⟨i, hi, hj⟩ := first_in hs hin
      have hfa : firstAt E.ats ((preB d sz m).size : Int) = some i := by rw [hps, hE]; exact hi
      have htx : textB E i = (partAt d sz m).body := by
        rw [hE]
        simp only [textB, heldE, List.getD_eq_getElem?_getD, List.getElem?_map, hj]
        rfl
      have hnz : (textB E i).size ≠ 0 := by rw [htx, part_size hlt hs]; omega
      obtain ⟨f', rfl⟩ : ∃ f', f = f' + 1 := ⟨f - 1, by omega⟩
      rw [runB_step hl hfa hnz, htx, pre_step hlt]
      obtain ⟨i1, i2⟩ := ih (m + 1) f' (by omega) (by omega)
      refine ⟨fun h => i1 fun i q1 q2 => h i (by omega) q2, fun ⟨i, q1, q2, q3⟩ => i2 ⟨i, ?_, q2, q3⟩⟩
      rcases Nat.eq_or_lt_of_le q1 with e | e
      · subst e; exact absurd hin q3
      · exact e
    · refine ⟨fun h => absurd (h m (Nat.le_refl _) (by omega)) hin, fun _ => ?_⟩
      rw [runB_no hl (by rw [hps, hE]; exact first_out hs hin)]
theorem parts_pos {d : DgramD} (hd : WholeD d) {sz : Nat} (hs : 0 < sz) : 0 < nParts d sz ∧ nParts d sz ≤ d.body.size := by
  have h0 : 0 < nParts d sz := (parts_more hs).1 (by have := hd.2.2.2.2.2; omega)
  have h1 := (parts_more (d := d) (k := nParts d sz - 1) hs).2 (by omega)
  have h2 : nParts d sz - 1 ≤ (nParts d sz - 1) * sz := Nat.le_mul_of_pos_right _ hs
  omega
theorem body_all {d : DgramD} (hd : WholeD d) {sz : Nat} (hs : 0 < sz) {J : List Nat} (h : ∀ i, i < nParts d sz → i ∈ J) : bodyB (heldE d sz (nParts d sz) J) = some d.body := by
  obtain ⟨p0, p1⟩ := parts_pos hd hs
  have ht : (heldE d sz (nParts d sz) J).total = (d.body.size : Int) := by simp only [heldE, if_pos (h (nParts d sz - 1) (by omega))]
  have := (run_parts hs rfl ht (nParts d sz) 0 d.body.size (by omega) p1).1 (fun i _ q => h i q)
  rw [pre_zero] at this
  rw [bodyB, ht, Int.toNat_natCast, this]
  have hb := hd.2.2.2.2.2
  exact if_pos ⟨by omega, rfl⟩
theorem body_miss {d : DgramD} (hd : WholeD d) {sz : Nat} (hs : 0 < sz) {J : List Nat} (h : ∃ i, i < nParts d sz ∧ i ∉ J) : bodyB (heldE d sz (nParts d sz) J) = none := by
  obtain ⟨p0, p1⟩ := parts_pos hd hs
  by_cases hl : nParts d sz - 1 ∈ J
  · have ht : (heldE d sz (nParts d sz) J).total = (d.body.size : Int) := by simp only [heldE, if_pos hl]
    obtain ⟨i, q1, q2⟩ := h
    have := (run_parts hs rfl ht (nParts d sz) 0 d.body.size (by omega) p1).2 ⟨i, Nat.zero_le _, q1, q2⟩
    rw [pre_zero] at this
    rw [bodyB, ht, Int.toNat_natCast, this]
    rfl
  · have ht : (heldE d sz (nParts d sz) J).total = 0 := by simp only [heldE, if_neg hl]
    rw [bodyB, ht]
    cases runB (heldE d sz (nParts d sz) J) (0 : Int).toNat ⟨#[]⟩ <;> simp
theorem turn_inj {n r i j : Nat} (hi : i < n) (hj : j < n) (h : (i + r) % n = (j + r) % n) : i = j := by
  have h1 := Nat.sub_mod_eq_zero_of_mod_eq h
  have h2 := Nat.sub_mod_eq_zero_of_mod_eq h.symm
  rw [Nat.mod_eq_of_lt (by omega)] at h1 h2
  omega
theorem ordJ_succ (r n k : Nat) : ordJ r n (k + 1) = ordJ r n k ++ [(k + r) % n] := by simp [ordJ, List.range_succ]
theorem ordJ_mem {r n k m : Nat} : m ∈ ordJ r n k ↔ ∃ i, i < k ∧ (i + r) % n = m := by simp [ordJ]
theorem ordJ_new {r n k : Nat} (hk : k < n) : (k + r) % n ∉ ordJ r n k := by
  rw [ordJ_mem]
  rintro ⟨i, hi, he⟩
  have := turn_inj (by omega) hk he
  omega
theorem ordJ_all {r n m : Nat} (hm : m < n) : m ∈ ordJ r n n := by
  rw [ordJ_mem]
  have hr : r % n < n := Nat.mod_lt _ (by omega)
  by_cases h : r % n ≤ m
  · refine ⟨m - r % n, by omega, ?_⟩
    rw [Nat.add_mod, Nat.mod_eq_of_lt (show m - r % n < n by omega), Nat.sub_add_cancel h, Nat.mod_eq_of_lt hm]
  · refine ⟨m + n - r % n, by omega, ?_⟩
    rw [Nat.add_mod, Nat.mod_eq_of_lt (show m + n - r % n < n by omega), Nat.sub_add_cancel (by omega), Nat.add_mod_right, Nat.mod_eq_of_lt hm]
theorem join_at {d : DgramD} {sz r k : Nat} (p : DgramD) (h1 : p.src = d.src) (h2 : p.ident = d.ident) : joinAt (bitsK d sz (nParts d sz) r k) p 5 = ([], heldE d sz (nParts d sz) (ordJ r (nParts d sz) k), []) := by
  by_cases hk : k = 0
  · subst hk
    simp [bitsK, joinAt, foundB, newB, heldE, ordJ, h1, h2]
  · have hf : foundB (bitsK d sz (nParts d sz) r k) p = some 0 := by
      simp [bitsK, hk, foundB, isOf, heldE, h1, h2, List.findIdx?_cons]
    simp only [joinAt, hf]
    simp [bitsK, hk]
theorem join_ok {p : DgramD} (h : dgramOk p = true) : joinOk p 5 = true := by simp [joinOk, h]
theorem part_whole {d : DgramD} (hd : WholeD d) {sz m : Nat} (h : d.body.size ≤ sz) (hm : m = 0) : partAt d sz m = d := by
  subst hm
  obtain ⟨a, b, c, pl, mo, s⟩ := d
  obtain ⟨_, _, _, h4, h5, _⟩ := hd
  simp only at h4 h5
  subst h4 h5
  simp only at h
  simp [partAt, Nat.min_eq_right h, ByteArray.extract_zero_size, h]
theorem part_not {d : DgramD} (hd : WholeD d) {sz m : Nat} (hs : 0 < sz) (hn : 2 ≤ nParts d sz) : ¬ ((partAt d sz m).place = 0 ∧ (partAt d sz m).more = false) := by
  rintro ⟨h1, h2⟩
  simp only [partAt, hd.2.2.2.1] at h1 h2
  have h3 : m * sz = 0 := by omega
  rw [h3] at h2
  have := (parts_more (d := d) (k := 1) hs).2 (by omega)
  rw [if_neg (by omega)] at h2
  cases h2
theorem whole_part {d : DgramD} (hd : WholeD d) (sz m : Nat) : wholeG (partAt d sz m) d.body = d := by
  obtain ⟨a, b, c, pl, mo, s⟩ := d
  obtain ⟨_, _, _, h4, h5, _⟩ := hd
  simp only at h4 h5
  subst h4 h5
  rfl
/-- a part comes for the first time -/
theorem join_step {d : DgramD} (hd : WholeD d) {sz r k : Nat} (hs : 0 < sz) (h8 : sz % 8 = 0) (hk : k < nParts d sz) : joinB (bitsK d sz (nParts d sz) r k) (partAt d sz ((k + r) % nParts d sz)) 5 = if k + 1 = nParts d sz then ([], d, true) else (bitsK d sz (nParts d sz) r (k + 1), zeroG, false) := by
  have hm : (k + r) % nParts d sz < nParts d sz := Nat.mod_lt _ (by omega)
  have hok := join_ok (part_ok hd hs h8 hm)
  by_cases hn : 2 ≤ nParts d sz
  · have hno := part_not hd (m := (k + r) % nParts d sz) hs hn
    have ha := join_at (d := d) (sz := sz) (r := r) (k := k) (partAt d sz ((k + r) % nParts d sz)) rfl rfl
    have htk := take_out hd hs hm (ordJ_new (r := r) hk)
    rw [← ordJ_succ] at htk
    by_cases he : k + 1 = nParts d sz
    · rw [if_pos he]
      have hb := body_all hd hs (J := ordJ r (nParts d sz) (k + 1)) (fun i hi => by rw [he]; exact ordJ_all hi)
      rw [joinB_some hok hno (S := d.body) (by rw [ha]; show bodyB (takeD _ _) = _; rw [htk, hb]), ha, whole_part hd]
      rfl
    · rw [if_neg he]
      have hb := body_miss hd hs (J := ordJ r (nParts d sz) (k + 1)) ⟨(k + 1 + r) % nParts d sz, Nat.mod_lt _ (by omega), ordJ_new (by omega)⟩
      rw [joinB_none hok hno (by rw [ha]; show bodyB (takeD _ _) = _; rw [htk, hb]), ha]
      simp only [htk, List.nil_append]
      simp [bitsK]
  · have h1 : nParts d sz = 1 := by have := (parts_pos hd hs).1; omega
    have hk0 : k = 0 := by omega
    have hm0 : (k + r) % nParts d sz = 0 := by rw [h1]; exact Nat.mod_one _
    have hle : d.body.size ≤ sz := by
      rcases Nat.lt_or_ge sz d.body.size with q | q
      · have := (parts_more (d := d) (k := 1) hs).1 (by omega); omega
      · exact q
    have hw := part_whole hd hle hm0
    rw [hw] at hok ⊢
    rw [joinB_once hok ⟨hd.2.2.2.1, hd.2.2.2.2.1⟩, if_pos (by omega), hk0]
    rfl
/-- .. and once more -/
theorem join_again {d : DgramD} (hd : WholeD d) {sz r k : Nat} (hs : 0 < sz) (h8 : sz % 8 = 0) (hk : k + 1 < nParts d sz) : joinB (bitsK d sz (nParts d sz) r (k + 1)) (partAt d sz ((k + r) % nParts d sz)) 5 = (bitsK d sz (nParts d sz) r (k + 1), zeroG, false) := by
  have hm : (k + r) % nParts d sz < nParts d sz := Nat.mod_lt _ (by omega)
  have hok := join_ok (part_ok hd hs h8 hm)
  have hno := part_not hd (m := (k + r) % nParts d sz) hs (by omega)
  have ha := join_at (d := d) (sz := sz) (r := r) (k := k + 1) (partAt d sz ((k + r) % nParts d sz)) rfl rfl
  have htk := take_in hd (sz := sz) (n := nParts d sz) (m := (k + r) % nParts d sz) hs (J := ordJ r (nParts d sz) (k + 1)) (by rw [ordJ_succ]; simp)
  have hb := body_miss hd hs (J := ordJ r (nParts d sz) (k + 1)) ⟨(k + 1 + r) % nParts d sz, Nat.mod_lt _ (by omega), ordJ_new (by omega)⟩
  rw [joinB_none hok hno (by rw [ha]; show bodyB (takeD _ _) = _; rw [htk, hb]), ha]
  simp only [htk, List.nil_append]
  simp [bitsK]
/-- what the walk asks of the bits -/
theorem bitsK_fit {d : DgramD} (hd : WholeD d) {sz r k : Nat} (hs : 8 ≤ sz) (hk : k ≤ nParts d sz) (e : BitD) (h : e ∈ bitsK d sz (nParts d sz) r k) : SmallB e ∧ IntsWf e.ats ∧ e.total ≤ 1000000 := by
  have hb := hd.2.2.2.2.2
  have hn : nParts d sz ≤ 20 := nParts_le hs (by omega)
  unfold bitsK at h
  split at h
  · cases h
  · rw [List.mem_singleton] at h
    subst h
    have hl : (ordJ r (nParts d sz) k).length = k := by simp [ordJ]
    refine ⟨⟨by simp only [heldE, List.length_map]; omega, by simp only [heldE, List.length_map]; omega, fun t ht => ?_⟩, fun z hz => ?_, ?_⟩
    · obtain ⟨m, _, rfl⟩ := List.mem_map.1 ht
      simp only [partAt, ByteArray.size_extract]
      omega
    · obtain ⟨m, hm, rfl⟩ := List.mem_map.1 hz
      obtain ⟨i, hi, rfl⟩ := ordJ_mem.1 hm
      have hlt : (i + r) % nParts d sz < nParts d sz := Nat.mod_lt _ (by omega)
      have := (parts_more (d := d) (by omega)).2 hlt
      exact outerM_wf _ (by omega)
    · simp only [heldE]
      split <;> omega
theorem bitsK_one (d : DgramD) (sz n r k : Nat) : (bitsK d sz n r k).length ≤ 1 ∧ (bitsK d sz n r 0 = []) ∧ (bitsK d sz n r (k + 1)).length = 1 := by
  refine ⟨?_, rfl, by simp [bitsK]⟩
  unfold bitsK
  split <;> simp
end Go.Proofs.Ytklaneakdcnbaaa
