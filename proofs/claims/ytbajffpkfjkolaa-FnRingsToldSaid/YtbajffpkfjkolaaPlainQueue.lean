/-
  A right ring as a queue: texts from Tail on, going round.
-/
import Derived.Test.YtbajffpkfjkolaaPlainPost
namespace Go.Proofs.Ytbajffpkfjkolaa

/-- the i-th text of a queue -/
def qAt (q : List ByteArray) (i : Nat) : ByteArray := q.getD i ByteArray.empty
/-- the slots l, Head h, Tail t hold just the texts q, in order -/
def RingIs (l : List SlotD) (h t : Nat) (q : List ByteArray) : Prop :=
  (1 ≤ l.length ∧ l.length ≤ 8) ∧ t < l.length ∧ h = (t + q.length) % l.length ∧ q.length ≤ l.length ∧ (∀ s ∈ q, 1 ≤ s.size ∧ s.size ≤ 100) ∧
    ∀ i, i < l.length → slotAt l ((t + i) % l.length) = if i < q.length then ⟨1, qAt q i⟩ else slot0

theorem qAt_size {q : List ByteArray} (hq : ∀ s ∈ q, 1 ≤ s.size ∧ s.size ≤ 100) {i : Nat} (hi : i < q.length) : 1 ≤ (qAt q i).size ∧ (qAt q i).size ≤ 100 := by
  have e : qAt q i = q[i] := by simp [qAt, hi]
  rw [e]
  exact hq _ (List.getElem_mem hi)
/-- going round, once -/
theorem round_at {n t i : Nat} (ht : t < n) (hi : i ≤ n) : (t + i) % n = if t + i < n then t + i else t + i - n := by
  split
  · rename_i h; exact Nat.mod_eq_of_lt h
  · rename_i h
    have : t + i = (t + i - n) + n := by omega
    by_cases e : t + i - n < n
    · rw [this, Nat.add_mod_right, Nat.mod_eq_of_lt e]; omega
    · omega
theorem round_inj {n t i j : Nat} (ht : t < n) (hi : i < n) (hj : j < n) (h : (t + i) % n = (t + j) % n) : i = j := by
  rw [round_at ht (Nat.le_of_lt hi), round_at ht (Nat.le_of_lt hj)] at h
  split at h <;> split at h <;> omega
theorem RingIs.small {l : List SlotD} {h t : Nat} {q : List ByteArray} (hr : RingIs l h t q) : ∀ f ∈ l, slotOne f ≤ 1048576 := by
  obtain ⟨⟨l1, l2⟩, ht, _, _, hq, hs⟩ := hr
  intro f hf
  obtain ⟨p, hp, rfl⟩ := List.getElem_of_mem hf
  have e : ∃ i, i < l.length ∧ (t + i) % l.length = p := by
    by_cases hle : t ≤ p
    · exact ⟨p - t, by omega, by rw [show t + (p - t) = p by omega, Nat.mod_eq_of_lt hp]⟩
    · exact ⟨p + l.length - t, by omega, by rw [show t + (p + l.length - t) = p + l.length by omega, Nat.add_mod_right, Nat.mod_eq_of_lt hp]⟩
  obtain ⟨i, hi, e⟩ := e
  have := hs i hi
  rw [e, slotAt_eq hp] at this
  rw [this]
  split
  · rename_i h1
    have := qAt_size hq h1
    show ((qAt q i).size : Int) ≤ _
    omega
  · decide
theorem RingIs.head_lt {l : List SlotD} {h t : Nat} {q : List ByteArray} (hr : RingIs l h t q) : h < l.length := by
  obtain ⟨⟨l1, l2⟩, ht, rfl, _⟩ := hr
  exact Nat.mod_lt _ (by omega)
theorem RingIs.at0 {l : List SlotD} {h t : Nat} {q : List ByteArray} (hr : RingIs l h t q) : slotAt l t = if 0 < q.length then ⟨1, qAt q 0⟩ else slot0 := by
  obtain ⟨⟨l1, l2⟩, ht, _, _, _, hs⟩ := hr
  have := hs 0 (by omega)
  rw [Nat.add_zero, Nat.mod_eq_of_lt ht] at this
  exact this
theorem RingIs.atHead {l : List SlotD} {h t : Nat} {q : List ByteArray} (hr : RingIs l h t q) : (slotAt l h).own = if q.length < l.length then 0 else 1 := by
  have h0 := hr.at0
  obtain ⟨⟨l1, l2⟩, ht, rfl, hq, _, hs⟩ := hr
  by_cases hlt : q.length < l.length
  · rw [hs q.length hlt, if_neg (by omega), if_pos hlt]; rfl
  · rw [show (t + q.length) % l.length = t by rw [show q.length = l.length by omega, Nat.add_mod_right, Nat.mod_eq_of_lt ht], h0, if_pos (by omega), if_neg hlt]
theorem RingIs.held {l : List SlotD} {h t : Nat} {q : List ByteArray} (hr : RingIs l h t q) : ringHeld l h t = q.length := by
  have h0 := hr.at0
  obtain ⟨⟨l1, l2⟩, ht, rfl, hq, _, hs⟩ := hr
  unfold ringHeld
  rw [h0]
  rw [round_at ht hq]
  by_cases hlt : q.length < l.length
  · by_cases hz : q.length = 0
    · rw [hz]
      simp [slot0, ht]
    · rw [if_neg]
      · split
        · rw [show t + q.length + l.length - t = q.length + l.length by omega, Nat.add_mod_right, Nat.mod_eq_of_lt hlt]
        · rw [show t + q.length - l.length + l.length - t = q.length by omega, Nat.mod_eq_of_lt hlt]
      · intro hh
        have := hh.1
        split at this <;> omega
  · have e : q.length = l.length := by omega
    have e2 : (if t + q.length < l.length then t + q.length else t + q.length - l.length) = t := by rw [if_neg (by omega)]; omega
    rw [e2, if_pos ⟨rfl, by rw [if_pos (by omega)]⟩, e]
theorem RingIs.ok {l : List SlotD} {h t : Nat} {q : List ByteArray} (hr : RingIs l h t q) : ringOk l h t = true := by
  have hh := hr.held
  have hl := hr.head_lt
  obtain ⟨⟨l1, l2⟩, ht, _, hq, hsz, hs⟩ := hr
  rw [ringOk_in ⟨⟨l1, l2⟩, ⟨by omega, by omega⟩, by omega, by omega⟩]
  refine List.all_eq_true.2 fun i hi => ?_
  have hi' : i < l.length := List.mem_range.1 hi
  unfold ringGood
  rw [hh, hs i hi']
  by_cases h1 : i < q.length
  · rw [if_pos h1, if_pos h1]
    have := qAt_size hsz h1
    simp [isPosted]; omega
  · rw [if_neg h1, if_neg h1]; rfl
theorem ring_new {n : Nat} (h1 : 1 ≤ n) (h8 : n ≤ 8) : RingIs (List.replicate n slot0) 0 0 [] := by
  refine ⟨by rw [List.length_replicate]; omega, by rw [List.length_replicate]; omega, by simp, by simp, fun s hs => by simp at hs, fun i hi => ?_⟩
  rw [List.length_replicate] at hi ⊢
  rw [Nat.zero_add, Nat.mod_eq_of_lt hi, slotAt_eq (by rw [List.length_replicate]; exact hi), List.getElem_replicate]
  simp
theorem slotAt_set {l : List SlotD} {p j : Nat} (hj : j < l.length) (d : SlotD) : slotAt (l.set p d) j = if p = j then d else slotAt l j := by
  rw [slotAt_eq (by rw [List.length_set]; exact hj), List.getElem_set, slotAt_eq hj]
theorem RingIs.postOk {l : List SlotD} {h t : Nat} {q : List ByteArray} (hr : RingIs l h t q) (s : ByteArray) : postOk l h t s = (decide (1 ≤ s.size) && decide (s.size ≤ 100) && decide (q.length < l.length)) := by
  unfold Go.Proofs.Ytbajffpkfjkolaa.postOk
  rw [hr.ok, Int.toNat_natCast, hr.atHead]
  by_cases hlt : q.length < l.length
  · simp [hlt]
  · simp [hlt]
theorem RingIs.post {l : List SlotD} {h t : Nat} {q : List ByteArray} (hr : RingIs l h t q) {s : ByteArray} (hs1 : 1 ≤ s.size) (hs2 : s.size ≤ 100) (hlt : q.length < l.length) : RingIs (l.set h ⟨1, s⟩) ((h + 1) % l.length) t (q ++ [s]) := by
  have hl := hr.head_lt
  obtain ⟨⟨l1, l2⟩, ht, rfl, hq, hsz, hs⟩ := hr
  unfold RingIs
  rw [List.length_set, List.length_append]
  refine ⟨⟨l1, l2⟩, ht, ?_, by simp; omega, ?_, fun i hi => ?_⟩
  · rw [Nat.mod_add_mod]; rfl
  · intro s' h'
    rcases List.mem_append.1 h' with h' | h'
    · exact hsz s' h'
    · rw [List.mem_singleton.1 h']; exact ⟨hs1, hs2⟩
  · rw [slotAt_set (Nat.mod_lt _ (by omega))]
    by_cases e : i = q.length
    · subst e
      rw [if_pos rfl, if_pos (by simp)]
      simp [qAt]
    · rw [if_neg (fun x => e (round_inj ht hi hlt x.symm)), hs i hi]
      by_cases h1 : i < q.length
      · rw [if_pos h1, if_pos (by simp; omega)]
        simp [qAt, h1, List.getElem?_append_left]
      · rw [if_neg h1, if_neg (by simp; omega)]
theorem RingIs.takeOk {l : List SlotD} {h t : Nat} {q : List ByteArray} (hr : RingIs l h t q) : takeOk l h t = decide (0 < q.length) := by
  unfold Go.Proofs.Ytbajffpkfjkolaa.takeOk
  rw [hr.ok, Int.toNat_natCast, hr.at0]
  by_cases hz : 0 < q.length
  · simp [hz]
  · simp [hz, slot0]
theorem RingIs.take {l : List SlotD} {h t : Nat} {a : ByteArray} {q : List ByteArray} (hr : RingIs l h t (a :: q)) : takeS l h t = a ∧ RingIs (l.set t slot0) h ((t + 1) % l.length) q := by
  have hok := hr.takeOk
  have h0 := hr.at0
  obtain ⟨⟨l1, l2⟩, ht, rfl, hq, hsz, hs⟩ := hr
  simp only [List.length_cons] at hq hok h0 hs ⊢
  refine ⟨?_, ?_⟩
  · unfold takeS
    rw [hok, if_pos (by simp), Int.toNat_natCast, h0, if_pos (by omega)]
    rfl
  · unfold RingIs
    rw [List.length_set]
    refine ⟨⟨l1, l2⟩, Nat.mod_lt _ (by omega), ?_, by omega, fun s h' => hsz s (List.mem_cons_of_mem _ h'), fun i hi => ?_⟩
    · rw [Nat.mod_add_mod]; congr 1; omega
    · rw [Nat.mod_add_mod, slotAt_set (Nat.mod_lt _ (by omega)), show t + 1 + i = t + (i + 1) by omega]
      by_cases e : i + 1 = l.length
      · rw [e, Nat.add_mod_right, Nat.mod_eq_of_lt ht, if_pos rfl, if_neg (by omega)]
      · have hi1 : i + 1 < l.length := by omega
        have hne : ¬ t = (t + (i + 1)) % l.length := by
          intro x
          have := round_inj ht (show 0 < l.length by omega) hi1 (by rw [Nat.add_zero, Nat.mod_eq_of_lt ht]; exact x)
          omega
        rw [if_neg hne, hs (i + 1) hi1]
        by_cases h1 : i < q.length
        · rw [if_pos (by omega), if_pos h1]; rfl
        · rw [if_neg (by omega), if_neg h1]
theorem RingIs.posted {l : List SlotD} {h t : Nat} {q : List ByteArray} (hr : RingIs l h t q) {s : ByteArray} (hs1 : 1 ≤ s.size) (hs2 : s.size ≤ 100) : ∃ (h' : Nat) (q' : List ByteArray), postH l h t s = (h' : Int) ∧ RingIs (postL l h t s) h' t q' := by
  have hp := hr.postOk s
  unfold postH postL
  rw [hp]
  by_cases hlt : q.length < l.length
  · rw [if_pos (by simp [hs1, hs2, hlt]), if_pos (by simp [hs1, hs2, hlt]), Int.toNat_natCast]
    exact ⟨_, _, rfl, hr.post hs1 hs2 hlt⟩
  · rw [if_neg (by simp [hlt]), if_neg (by simp [hlt])]
    exact ⟨_, _, rfl, hr⟩
theorem RingIs.taken {l : List SlotD} {h t : Nat} {q : List ByteArray} (hr : RingIs l h t q) : ∃ (t' : Nat) (q' : List ByteArray), takeT l h t = (t' : Int) ∧ RingIs (takeL l h t) h t' q' := by
  have hp := hr.takeOk
  unfold takeT takeL
  rw [hp]
  cases q with
  | nil =>
    rw [if_neg (by simp), if_neg (by simp)]
    exact ⟨_, _, rfl, hr⟩
  | cons a q =>
    rw [if_pos (by simp), if_pos (by simp), Int.toNat_natCast]
    exact ⟨_, _, rfl, hr.take.2⟩
/-- the card's slots are as many as the texts -/
theorem RingIs.heldBy {l : List SlotD} {h t : Nat} {q : List ByteArray} (hr : RingIs l h t q) : heldBy l = q.length := by
  obtain ⟨⟨l1, l2⟩, ht, _, hq, _, hs⟩ := hr
  have hrot : Go.Proofs.Ytbajffpkfjkolaa.heldBy l = Go.Proofs.Ytbajffpkfjkolaa.heldBy (l.drop t ++ l.take t) := by
    unfold Go.Proofs.Ytbajffpkfjkolaa.heldBy
    rw [List.filter_append, List.length_append, Nat.add_comm, ← List.length_append, ← List.filter_append, List.take_append_drop]
  have hlist : l.drop t ++ l.take t = q.map (fun s => (⟨1, s⟩ : SlotD)) ++ List.replicate (l.length - q.length) slot0 := by
    apply List.ext_getElem
    · simp; omega
    · intro i h1 h2
      have hi : i < l.length := by simp at h1; omega
      have hx := hs i hi
      have hm := round_at ht (Nat.le_of_lt hi)
      rw [hm] at hx
      have hL : (l.drop t ++ l.take t)[i] = slotAt l (if t + i < l.length then t + i else t + i - l.length) := by
        split
        · rename_i hc
          rw [List.getElem_append_left (by simp; omega), List.getElem_drop, slotAt_eq hc]
        · rename_i hc
          rw [List.getElem_append_right (by simp; omega), List.getElem_take, slotAt_eq (by omega)]
          congr 1
          simp; omega
      rw [hL, hx]
      split
      · rename_i hc
        rw [List.getElem_append_left (by simpa using hc), List.getElem_map]
        simp [qAt, hc]
      · rename_i hc
        rw [List.getElem_append_right (by simp; omega), List.getElem_replicate]
  rw [hrot, hlist]
  unfold Go.Proofs.Ytbajffpkfjkolaa.heldBy
  rw [List.filter_append, List.length_append]
  have e1 : ((q.map (fun s => (⟨1, s⟩ : SlotD))).filter fun e => e.own == 1).length = q.length := by
    rw [List.filter_map, List.length_map]
    have : q.filter ((fun e : SlotD => e.own == 1) ∘ fun s => (⟨1, s⟩ : SlotD)) = q := List.filter_eq_self.2 fun _ _ => rfl
    rw [this]
  have e2 : ((List.replicate (l.length - q.length) slot0).filter fun e => e.own == 1) = [] := List.filter_eq_nil_iff.2 fun a ha => by rw [List.eq_of_mem_replicate ha]; decide
  rw [e1, e2]
  rfl
end Go.Proofs.Ytbajffpkfjkolaa
