/-
  Plain facts on several frames, one behind the other, cut anywhere; nothing of the program stands here.
-/
import Derived.Test.YtfkknmhokiacaaaDoorPlainFrame
import Derived.Test.YtfkknmhokiacaaaDoorPlainVarBack
namespace Go.Proofs.YtfkknmhokiacaaaDoor
open Go.RowKit

theorem frm_size (t : ByteArray) : (frm t).size = (vb t.size).length + 4 + t.size := by
  have : (frm t).size = (frm t).data.toList.length := by simp
  rw [this, frm_list]
  simp [four_length]
  omega

theorem bytes_ext {a b : ByteArray} (h : a.data.toList = b.data.toList) : a = b := ByteArray.ext (Array.toList_inj.1 h)

/-- at a whole frame -/
theorem frame_step {c t : ByteArray} {p r : List UInt8} (hc : c.data.toList = p ++ (frm t).data.toList ++ r) (h1 : 1 ≤ t.size) (h9 : t.size ≤ 9000) :
    rf c p.length = some (p.length + (vb t.size).length + 4, p.length + (vb t.size).length + 4 + t.size) ∧ c.extract (p.length + (vb t.size).length + 4) (p.length + (vb t.size).length + 4 + t.size) = t := by
  have hcs : c.size = p.length + ((vb t.size).length + 4 + t.size) + r.length := by
    have : c.size = c.data.toList.length := by simp
    rw [this, hc]
    simp [frm_size]
    omega
  have hd : c.data.toList.drop p.length = (frm t).data.toList ++ r := by rw [hc, List.append_assoc, List.drop_left]
  have ht : c.extract (p.length + (vb t.size).length + 4) (p.length + (vb t.size).length + 4 + t.size) = t := by
    apply bytes_ext
    rw [extract_eq, show p.length + (vb t.size).length + 4 = p.length + ((vb t.size).length + 4) by omega, ← List.drop_drop, hd, frm_list]
    rw [show p.length + ((vb t.size).length + 4) + t.size - (p.length + ((vb t.size).length + 4)) = t.data.toList.length by simp]
    rw [List.append_assoc, show (vb t.size).length + 4 = (vb t.size ++ four (sumOf t.data.toList)).length by simp [four_length], List.drop_left, List.take_left]
  have hf : c.extract p.length (p.length + (vb t.size).length + 4 + t.size) = frm t := by
    apply bytes_ext
    rw [extract_eq, hd, show p.length + (vb t.size).length + 4 + t.size - p.length = (frm t).data.toList.length by simp [frm_size]; omega, List.take_left]
  refine ⟨rf_yes ?_ (by omega) h1 h9 (by rw [ht, hf]), ht⟩
  rw [hd, frm_list, List.append_assoc, List.append_assoc]
  exact rv_vb (by omega) _

theorem rvFrom_on_all (q : List UInt8) (h : ∀ x ∈ q, 128 ≤ x.toNat) : ∀ p, rvFrom p q = none := by
  induction q with
  | nil => intro p; rfl
  | cons b r ih =>
    intro p
    by_cases h5 : 5 ≤ p.length
    · exact rvFrom_full _ _ h5
    · rw [rvFrom_on _ _ _ (by omega) (h b (by simp))]
      exact ih (fun x hx => h x (by simp [hx])) _

theorem vb_on (n : Nat) : ∀ (q : List UInt8), q <+: vb n → q.length < (vb n).length → ∀ x ∈ q, 128 ≤ x.toNat := by
  induction n using Nat.strongRecOn with
  | _ n ih =>
    intro q hq hl x hx
    by_cases h : n ≤ 127
    · rw [vb_small h] at hl
      have : q = [] := List.eq_nil_of_length_eq_zero (by simpa using hl)
      subst this
      cases hx
    · rw [vb_big (by omega)] at hq hl
      cases q with
      | nil => cases hx
      | cons y r =>
        obtain ⟨hy, hr⟩ := List.cons_prefix_cons.1 hq
        simp only [List.length_cons] at hl
        rcases List.mem_cons.1 hx with rfl | hx
        · rw [hy, UInt8.toNat_ofNat']
          omega
        · exact ih (n / 128) (by omega) r hr (by omega) x hx

/-- at a frame that is cut -/
theorem frame_stop {c t : ByteArray} {p q : List UInt8} (hc : c.data.toList = p ++ q) (hq : q <+: (frm t).data.toList) (hl : q.length < (frm t).size) (h9 : t.size ≤ 9000) : rf c p.length = none := by
  have hcs : c.size = p.length + q.length := by
    have : c.size = c.data.toList.length := by simp
    rw [this, hc]
    simp
  have hd : c.data.toList.drop p.length = q := by rw [hc, List.drop_left]
  rw [frm_size] at hl
  by_cases hv : q.length < (vb t.size).length
  · refine rf_no ?_
    rw [hd]
    have hqv : q <+: vb t.size := by
      rw [frm_list, List.append_assoc] at hq
      exact List.prefix_of_prefix_length_le hq (List.prefix_append _ _) (by omega)
    exact rvFrom_on_all q (vb_on _ q hqv hv) []
  · have hvq : vb t.size <+: q := by
      rw [frm_list, List.append_assoc] at hq
      exact List.prefix_of_prefix_length_le (List.prefix_append _ _) hq (by omega)
    obtain ⟨r, hr⟩ := hvq
    refine rf_not (n := t.size) (c := (vb t.size).length) ?_ (fun h => by have := h.1; omega)
    rw [hd, ← hr]
    exact rv_vb (by omega) _

/-- three frames, cut at k: how many are whole -/
def whole3 (a b c k : Nat) : Nat := if k < a then 0 else if k < a + b then 1 else if k < a + b + c then 2 else 3

theorem extract_take (s : ByteArray) (k : Nat) : (s.extract 0 k).data.toList = s.data.toList.take k := by rw [extract_eq]; simp

/-- what is read of three frames, cut at k -/
theorem three_cut {s t1 t2 t3 : ByteArray} (hs : s.data.toList = (frm t1).data.toList ++ (frm t2).data.toList ++ (frm t3).data.toList) (h1 : 1 ≤ t1.size ∧ t1.size ≤ 9000) (h2 : 1 ≤ t2.size ∧ t2.size ≤ 9000) (h3 : 1 ≤ t3.size ∧ t3.size ≤ 9000) (hb : s.size ≤ 20000) (k : Nat) (hk : k ≤ s.size) :
    (k < (frm t1).size ∧ ufT (s.extract 0 k) = [] ∧ ufE (s.extract 0 k) = 0) ∨
    ((frm t1).size ≤ k ∧ k < (frm t1).size + (frm t2).size ∧ ufT (s.extract 0 k) = [t1] ∧ ufE (s.extract 0 k) = (frm t1).size) ∨
    ((frm t1).size + (frm t2).size ≤ k ∧ k < (frm t1).size + (frm t2).size + (frm t3).size ∧ ufT (s.extract 0 k) = [t1, t2] ∧ ufE (s.extract 0 k) = (frm t1).size + (frm t2).size) ∨
    (k = (frm t1).size + (frm t2).size + (frm t3).size ∧ ufT (s.extract 0 k) = [t1, t2, t3] ∧ ufE (s.extract 0 k) = (frm t1).size + (frm t2).size + (frm t3).size) := by
  have e1 : (frm t1).data.toList.length = (frm t1).size := by simp
  have e2 : (frm t2).data.toList.length = (frm t2).size := by simp
  have e3 : (frm t3).data.toList.length = (frm t3).size := by simp
  have hsz : s.size = (frm t1).size + (frm t2).size + (frm t3).size := by
    have : s.size = s.data.toList.length := by simp
    rw [this, hs]
    simp; omega
  have hcl : (s.extract 0 k).size = k := by rw [ByteArray.size_extract]; omega
  have hct := extract_take s k
  obtain ⟨c, hc⟩ : ∃ c, s.extract 0 k = c := ⟨_, rfl⟩
  rw [hc] at hct hcl ⊢
  clear hc
  have hT : ufT c = recs c (ufs c 0) := by rw [ufT, if_neg (by omega)]
  have hE : ufE c = endOf (ufs c 0) := by rw [ufE, if_neg (by omega)]
  rw [hT, hE]
  have f1 := frm_size t1
  have f2 := frm_size t2
  have f3 := frm_size t3
  by_cases k1 : k < (frm t1).size
  · left
    have : rf c 0 = none := frame_stop (p := []) (q := s.data.toList.take k) (t := t1) (by simp [hct]) (by
      rw [hs, List.append_assoc, List.take_append_of_le_length (by omega)]
      exact List.take_prefix _ _) (by rw [List.length_take]; omega) h1.2
    rw [ufs_none this]
    exact ⟨k1, rfl, rfl⟩
  · right
    have s1 := frame_step (c := c) (t := t1) (p := []) (r := (s.data.toList.take k).drop (frm t1).data.toList.length) (by
      rw [hct]
      have : (s.data.toList.take k).take (frm t1).data.toList.length = (frm t1).data.toList := by
        rw [List.take_take, Nat.min_eq_left (by omega), hs, List.append_assoc, List.take_left]
      simp only [List.nil_append]
      conv => rhs; lhs; rw [← this]
      rw [List.take_append_drop]) h1.1 h1.2
    simp only [List.length_nil, Nat.zero_add] at s1
    rw [ufs_some s1.1]
    by_cases k2 : k < (frm t1).size + (frm t2).size
    · left
      have : rf c (frm t1).data.toList.length = none := frame_stop (p := (frm t1).data.toList) (q := ((frm t2).data.toList ++ (frm t3).data.toList).take (k - (frm t1).data.toList.length)) (t := t2) (by
        rw [hct, hs, List.append_assoc, List.take_append, List.take_of_length_le (by omega)]) (by
        rw [List.take_append_of_le_length (by omega)]
        exact List.take_prefix _ _) (by rw [List.length_take]; omega) h2.2
      rw [e1, f1] at this
      rw [ufs_none this]
      refine ⟨by omega, k2, by simp [recs, s1.2], by simp [endOf, f1]⟩
    · right
      have s2 := frame_step (c := c) (t := t2) (p := (frm t1).data.toList) (r := (s.data.toList.take k).drop ((frm t1).data.toList ++ (frm t2).data.toList).length) (by
        rw [hct]
        have : (s.data.toList.take k).take ((frm t1).data.toList ++ (frm t2).data.toList).length = (frm t1).data.toList ++ (frm t2).data.toList := by
          rw [List.take_take, Nat.min_eq_left (by rw [List.length_append]; omega), hs, List.take_left]
        conv => rhs; lhs; rw [← this]
        rw [List.take_append_drop]) h2.1 h2.2
      rw [e1, f1] at s2
      rw [ufs_some s2.1]
      by_cases k3 : k < (frm t1).size + (frm t2).size + (frm t3).size
      · left
        have : rf c ((frm t1).data.toList ++ (frm t2).data.toList).length = none := frame_stop (p := (frm t1).data.toList ++ (frm t2).data.toList) (q := ((frm t3).data.toList).take (k - ((frm t1).data.toList ++ (frm t2).data.toList).length)) (t := t3) (by
          rw [hct, hs, List.take_append, List.take_of_length_le (by rw [List.length_append]; omega)]) (List.take_prefix _ _) (by rw [List.length_take, List.length_append]; omega) h3.2
        rw [List.length_append, e1, e2, f1, f2, show (vb t1.size).length + 4 + t1.size + ((vb t2.size).length + 4 + t2.size) = (vb t1.size).length + 4 + t1.size + (vb t2.size).length + 4 + t2.size by omega] at this
        rw [ufs_none this]
        refine ⟨by omega, k3, by simp [recs, s1.2, s2.2], by simp [endOf]; omega⟩
      · right
        have hkk : k = (frm t1).size + (frm t2).size + (frm t3).size := by omega
        have hcs : c.data.toList = (frm t1).data.toList ++ (frm t2).data.toList ++ (frm t3).data.toList ++ [] := by
          rw [hct, ← hs, List.append_nil, List.take_of_length_le (by simp; omega)]
        have s3 := frame_step (c := c) (t := t3) (p := (frm t1).data.toList ++ (frm t2).data.toList) (r := []) hcs h3.1 h3.2
        rw [List.length_append, e1, e2, f1, f2, show (vb t1.size).length + 4 + t1.size + ((vb t2.size).length + 4 + t2.size) = (vb t1.size).length + 4 + t1.size + (vb t2.size).length + 4 + t2.size by omega] at s3
        rw [ufs_some s3.1]
        have hz : rf c ((vb t1.size).length + 4 + t1.size + (vb t2.size).length + 4 + t2.size + (vb t3.size).length + 4 + t3.size) = none := by
          refine rf_no ?_
          rw [List.drop_eq_nil_of_le (by simp; omega)]
          rfl
        rw [ufs_none hz]
        refine ⟨hkk, by simp [recs, s1.2, s2.2, s3.2], by simp [endOf]; omega⟩

/-- the frames of the first k texts, one behind the other -/
def catN (ts : List ByteArray) (k : Nat) : ByteArray := ((ts.take k).map frm).foldl (· ++ ·) ByteArray.empty
theorem catN_zero (ts : List ByteArray) : catN ts 0 = ByteArray.empty := rfl
theorem catN_succ (ts : List ByteArray) (k : Nat) (h : k < ts.length) : catN ts (k + 1) = catN ts k ++ frm ts[k] := by
  unfold catN
  rw [List.take_succ_eq_append_getElem h, List.map_append, List.foldl_append]
  rfl
theorem catN_le (ts : List ByteArray) (h : ∀ t ∈ ts, t.size ≤ 900) : ∀ k, k ≤ ts.length → (catN ts k).size ≤ 909 * k := by
  intro k
  induction k with
  | zero => intro _; simp [catN]
  | succ k ih =>
    intro hk
    have h1 := ih (by omega)
    have h2 := h ts[k] (List.getElem_mem (by omega))
    have h3 := vb_len (n := ts[k].size) (by omega)
    rw [catN_succ _ _ (by omega), ByteArray.size_append, frm_size]
    omega
/-- where the first k frames end -/
def endsN (ts : List ByteArray) (k : Nat) : List Int := (List.range (k + 1)).map fun j => ((catN ts j).size : Int)
theorem endsN_length (ts : List ByteArray) (k : Nat) : (endsN ts k).length = k + 1 := by simp [endsN]
theorem endsN_succ (ts : List ByteArray) (k : Nat) : endsN ts (k + 1) = endsN ts k ++ [((catN ts (k + 1)).size : Int)] := by
  unfold endsN
  rw [List.range_succ, List.map_append]
  rfl
theorem endsN_at (ts : List ByteArray) (k j : Nat) (h : j ≤ k) : (endsN ts k)[j]? = some ((catN ts j).size : Int) := by
  simp [endsN, show j < k + 1 by omega]
theorem cat3_list (t1 t2 t3 : ByteArray) : (catN [t1, t2, t3] 3).data.toList = (frm t1).data.toList ++ (frm t2).data.toList ++ (frm t3).data.toList := by
  simp [catN, ByteArray.data_append]
theorem cat_sizes (t1 t2 t3 : ByteArray) : (catN [t1, t2, t3] 1).size = (frm t1).size ∧ (catN [t1, t2, t3] 2).size = (frm t1).size + (frm t2).size ∧ (catN [t1, t2, t3] 3).size = (frm t1).size + (frm t2).size + (frm t3).size := by
  simp [catN, ByteArray.size_append]
end Go.Proofs.YtfkknmhokiacaaaDoor
