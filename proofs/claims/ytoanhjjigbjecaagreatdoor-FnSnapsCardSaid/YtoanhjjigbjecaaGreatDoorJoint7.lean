/-
  A region that draws its order, walked by what holds of each operation's value, not by orders: whatever order is picked, each operation finds what it reads, and leaves what is said of it.
-/
import Derived.Orders
namespace Go.Proofs.YtoanhjjigbjecaaGreatDoor

/-- where an operation's value goes -/
def dstAt (ops : Array Oper) (j : Nat) : Option Tmp := (ops[j]?).bind fun o => o.dst
/-- the frame with the values of the first n operations that are listed -/
def laidBy (ops : Array Oper) (vs : Nat → Value) (listed : Nat → Bool) : Nat → Act → Act
  | 0, a => a
  | n + 1, a => if listed n then (laidBy ops vs listed n a).put (dstAt ops n) (vs n) else laidBy ops vs listed n a

/-- an operation's value in a frame, and the world behind it -/
def Does (P : Program) (o : Oper) (a : Act) (w : World) (K : Value → World → Prop) : Prop :=
  match (execOp a.eval o).run P w with
  | .ok (.value v) w' => K v w'
  | .ok .skip w' => K undef w'
  | .ok (.enter f args) w' => Calls P f args w' fun e w'' => ∃ v, e = .returned v ∧ K v w''
  | _ => False

theorem does_value {P : Program} {o : Oper} {a : Act} {w w' : World} {v : Value} {K : Value → World → Prop} (h : (execOp a.eval o).run P w = .ok (.value v) w') (hk : K v w') : Does P o a w K := by
  unfold Does
  rw [h]
  exact hk
theorem does_enter {P : Program} {o : Oper} {a : Act} {w w' : World} {f : FuncId} {args : Array Value} {K : Value → World → Prop} (h : (execOp a.eval o).run P w = .ok (.enter f args) w') (hk : Calls P f args w' fun e w'' => ∃ v, e = .returned v ∧ K v w'') : Does P o a w K := by
  unfold Does
  rw [h]
  exact hk

theorem does_skip {P : Program} {o : Oper} {a : Act} {w w' : World} {K : Value → World → Prop} (h : (execOp a.eval o).run P w = .ok .skip w') (hk : K undef w') : Does P o a w K := by
  unfold Does
  rw [h]
  exact hk

theorem put_size (a : Act) (d : Option Tmp) (v : Value) : (a.put d v).tmps.size = a.tmps.size := by
  cases d with
  | none => rfl
  | some d => simp [Act.put]

theorem laidBy_size (ops : Array Oper) (vs : Nat → Value) (l : Nat → Bool) (n : Nat) (a : Act) : (laidBy ops vs l n a).tmps.size = a.tmps.size := by
  induction n with
  | zero => rfl
  | succ n ih =>
    rw [laidBy]
    split
    · rw [put_size, ih]
    · exact ih

theorem eval_put_both {a b : Act} {x : Operand} (hs : a.tmps.size = b.tmps.size) (h : a.eval x = b.eval x) (d : Option Tmp) (v : Value) : (a.put d v).eval x = (b.put d v).eval x := by
  by_cases hx : ∃ t, d = some t ∧ x = .tmp t
  · obtain ⟨t, rfl, rfl⟩ := hx
    simp only [Act.eval, Act.put]
    by_cases ht : t < a.tmps.size
    · have ht' : t < b.tmps.size := hs ▸ ht
      simp [ht, ht']
    · have ht' : ¬ t < b.tmps.size := fun q => ht (hs.symm ▸ q)
      simp [ht, ht']
  · rw [Act.eval_put (fun d' hd hxd => hx ⟨d', hd, hxd⟩), Act.eval_put (fun d' hd hxd => hx ⟨d', hd, hxd⟩)]
    exact h

/-- what an operand is does not hang on operations that don't write it -/
theorem laidBy_eval (ops : Array Oper) (vs : Nat → Value) (l : Nat → Bool) (x : Operand) (n : Nat) (a : Act) (h : ∀ j, j < n → ∀ d, dstAt ops j = some d → x = .tmp d → l j = true) :
    (laidBy ops vs l n a).eval x = (laidBy ops vs (fun _ => true) n a).eval x := by
  induction n with
  | zero => rfl
  | succ n ih =>
    have ih' := ih (fun j hj => h j (by omega))
    rw [laidBy, laidBy, if_pos rfl]
    split
    · exact eval_put_both (by rw [laidBy_size, laidBy_size]) ih' _ _
    · rename_i hl
      rw [Act.eval_put (fun d hd hxd => hl (h n (by omega) d hd hxd))]
      exact ih'

/-- other values of what isn't listed change nothing -/
theorem laidBy_congr (ops : Array Oper) (vs vs' : Nat → Value) (l l' : Nat → Bool) (n : Nat) (a : Act) (hl : ∀ j, j < n → l j = l' j) (hv : ∀ j, j < n → l j = true → vs j = vs' j) : laidBy ops vs l n a = laidBy ops vs' l' n a := by
  induction n with
  | zero => rfl
  | succ n ih =>
    have ih' := ih (fun j hj => hl j (by omega)) (fun j hj => hv j (by omega))
    rw [laidBy, laidBy, ih', hl n (by omega)]
    split
    · rename_i h
      rw [hv n (by omega) (by rw [hl n (by omega)]; exact h)]
    · rfl

def upd (vs : Nat → Value) (i : Nat) (v : Value) : Nat → Value := fun j => if j = i then v else vs j
def mark (l : Nat → Bool) (i : Nat) : Nat → Bool := fun j => if j = i then true else l j

/-- one more is listed -/
theorem laidBy_put (ops : Array Oper) (hd : ∀ i j, i ≠ j → ∀ d, dstAt ops i = some d → dstAt ops j ≠ some d) (vs : Nat → Value) (l : Nat → Bool) (i : Nat) (hi : l i = false) (v : Value) (n : Nat) (hn : i < n) (a : Act) :
    (laidBy ops vs l n a).put (dstAt ops i) v = laidBy ops (upd vs i v) (mark l i) n a := by
  induction n with
  | zero => omega
  | succ n ih =>
    rcases Nat.lt_or_ge i n with q | q
    · have ih' := ih q
      have e1 : mark l i n = l n := by simp [mark]; omega
      have e2 : upd vs i v n = vs n := by simp [upd]; omega
      rw [laidBy, laidBy, e1, e2]
      split
      · rw [Act.put_comm _ (vs n) v (fun d h => hd n i (by omega) d h), ih']
      · exact ih'
    · obtain rfl : i = n := by omega
      have e1 : mark l i i = true := by simp [mark]
      have e2 : upd vs i v i = v := by simp [upd]
      rw [laidBy, laidBy, e1, e2, if_neg (by simp [hi]), if_pos rfl]
      congr 1
      exact laidBy_congr ops _ _ _ _ i a (fun j hj => by simp [mark]; omega) (fun j hj _ => by simp [upd]; omega)

/-- how many are not listed yet -/
def open_ (l : Array Bool) : Nat → Nat
  | 0 => 0
  | n + 1 => open_ l n + if l.getD n false = true then 0 else 1
theorem unlisted_set {l : Array Bool} {i : Nat} (hl : i < l.size) (hi : l.getD i false = false) (n : Nat) (hn : i < n) : open_ (l.setIfInBounds i true) n + 1 = open_ l n := by
  have far : ∀ m, m ≤ i → open_ (l.setIfInBounds i true) m = open_ l m := by
    intro m hm
    induction m with
    | zero => rfl
    | succ m ih => rw [open_, open_, ih (by omega), getD_set_ne false (by omega)]
  induction n with
  | zero => omega
  | succ n ih =>
    rcases Nat.lt_or_ge i n with q | q
    · rw [open_, open_, getD_set_ne false (by omega)]
      have := ih q
      omega
    · obtain rfl : i = n := by omega
      have e : (l.setIfInBounds i true).getD i false = true := by simp [hl]
      rw [open_, open_, far i (Nat.le_refl _), e, hi]
      simp
theorem unlisted_none {l : Array Bool} (n : Nat) (h : open_ l n = 0) : ∀ j, j < n → l.getD j false = true := by
  induction n with
  | zero => intro j hj; omega
  | succ n ih =>
    rw [open_] at h
    intro j hj
    rcases Nat.lt_or_ge j n with q | q
    · exact ih (by omega) j q
    · obtain rfl : j = n := by omega
      cases hb : l.getD j false with
      | true => rfl
      | false => rw [hb] at h; simp at h
theorem open_all (n : Nat) (l : Array Bool) : open_ l n ≤ n := by
  induction n with
  | zero => exact Nat.le_refl _
  | succ n ih => rw [open_]; split <;> omega
/-- what is asked of a region: each edge points back; whoever reads a value waits for it; no guards, no select; each value has a place of its own -/
def planB (ops : Array Oper) : Bool :=
  (List.range ops.size).all fun i => match ops[i]? with
    | none => true
    | some o => o.guard.isNone && (match o.op with | .select .. => false | _ => true) && (o.after.all fun e => !Region.binds .any e || decide (e.on < i)) &&
      (List.range ops.size).all fun j => match dstAt ops j with
        | none => true
        | some d => (decide (j = i) || (o.dst != some d)) && (!(o.op.operands.toList.any fun x => match x with | .tmp t => t == d | _ => false) || o.after.toList.any fun e => Region.binds .any e && decide (e.on = j))
theorem planB_spec {ops : Array Oper} (h : planB ops = true) {i : Nat} {o : Oper} (ho : ops[i]? = some o) :
    o.guard = none ∧ (∀ cs b, o.op ≠ .select cs b) ∧ (∀ e ∈ o.after, Region.binds .any e = true → e.on < i) ∧ ∀ j, j < ops.size → ∀ d, dstAt ops j = some d → (j ≠ i → o.dst ≠ some d) ∧ (.tmp d ∈ o.op.operands → ∃ e ∈ o.after, Region.binds .any e = true ∧ e.on = j) := by
  have hlt : i < ops.size := (Array.getElem?_eq_some_iff.1 ho).1
  unfold planB at h
  rw [List.all_eq_true] at h
  have hi := h i (List.mem_range.2 hlt)
  simp only [ho, Bool.and_eq_true] at hi
  obtain ⟨⟨⟨h1, h2⟩, h3⟩, h4⟩ := hi
  refine ⟨by simpa using h1, ?_, ?_, ?_⟩
  · intro cs b e
    rw [e] at h2
    simp at h2
  · intro e he hb
    rw [Array.all_eq_true_iff_forall_mem] at h3
    simpa [hb] using h3 e he
  · intro j hj d hd
    rw [List.all_eq_true] at h4
    have h5 := h4 j (List.mem_range.2 hj)
    simp only [hd, Bool.and_eq_true, Bool.or_eq_true] at h5
    obtain ⟨h6, h7⟩ := h5
    refine ⟨?_, ?_⟩
    · intro hne
      rcases h6 with q | q
      · exact absurd (by simpa using q) hne
      · simpa using q
    · intro hm
      rcases h7 with q | q
      · have hy : (o.op.operands.toList.any fun x => match x with | .tmp t => t == d | _ => false) = true := List.any_eq_true.2 ⟨.tmp d, by simpa using hm, by simp⟩
        rw [hy] at q
        cases q
      · obtain ⟨e, he, q⟩ := List.any_eq_true.1 q
        simp only [Bool.and_eq_true, decide_eq_true_eq] at q
        exact ⟨e, by simpa using he, q.1, q.2⟩

/-- one waits for another -/
def waitsB (ops : Array Oper) (k i : Nat) : Bool := match ops[k]? with
  | none => false
  | some o => o.after.toList.any fun e => Region.binds .any e && decide (e.on = i)
theorem waitsB_spec {ops : Array Oper} {k i : Nat} (h : waitsB ops k i = true) : ∃ o, ops[k]? = some o ∧ ∃ e ∈ o.after, Region.binds .any e = true ∧ e.on = i := by
  unfold waitsB at h
  cases ho : ops[k]? with
  | none => rw [ho] at h; cases h
  | some o =>
    rw [ho] at h
    obtain ⟨e, he, hb⟩ := List.any_eq_true.1 h
    simp only [Bool.and_eq_true, decide_eq_true_eq] at hb
    exact ⟨o, rfl, e, by simpa using he, hb.1, hb.2⟩
/-- whoever spoils j is i itself, or waits for i, or for one that waits for i -/
def freshB (ops : Array Oper) (dies : Nat → Nat → Bool) (i j : Nat) : Bool := (List.range ops.size).all fun k => !dies j k || decide (k = i) || waitsB ops k i || (List.range ops.size).any fun q => waitsB ops k q && waitsB ops q i
theorem freshB_spec {ops : Array Oper} {dies : Nat → Nat → Bool} {i j k : Nat} (h : freshB ops dies i j = true) (hk : k < ops.size) (hd : dies j k = true) : k = i ∨ (∃ o, ops[k]? = some o ∧ ∃ e ∈ o.after, Region.binds .any e = true ∧ e.on = i) ∨ ∃ q, waitsB ops k q = true ∧ waitsB ops q i = true := by
  unfold freshB at h
  rw [List.all_eq_true] at h
  have h1 := h k (List.mem_range.2 hk)
  simp only [hd, Bool.not_true, Bool.false_or, Bool.or_eq_true, decide_eq_true_eq] at h1
  rcases h1 with (h1 | h1) | h1
  · exact Or.inl h1
  · exact Or.inr (Or.inl (waitsB_spec h1))
  · rw [List.any_eq_true] at h1
    obtain ⟨q, _, hq⟩ := h1
    rw [Bool.and_eq_true] at hq
    exact Or.inr (Or.inr ⟨q, hq.1, hq.2⟩)

section
variable {P : Program} {ops : Array Oper} {Q : Exit → Act → World → Prop}

theorem wpAny_states (hp : planB ops = true) (a0 : Act) (C : World → Prop) (good : Nat → Value → Value → World → Prop) (mate : Nat → Nat) (dies : Nat → Nat → Bool) (Ext : Nat → World → World → Prop) (init : Nat → World → Prop) (ends : Nat → Nat → Bool) (hinit : ∀ i m w w', ends m i = false → Ext i w w' → init m w → init m w') (hmate : ∀ i, mate i = i ∨ ∃ o, ops[i]? = some o ∧ ∃ e ∈ o.after, Region.binds .any e = true ∧ e.on = mate i)
    (hext : ∀ i j v u w w', i ≠ j → dies j i = false → waitsB ops j i = false → Ext i w w' → good j v u w → good j v u w')
    (hs : ∀ i o, ops[i]? = some o → ∀ vs w, C w → (∀ m, freshB ops ends i m = true → init m w) → (∀ e ∈ o.after, Region.binds .any e = true → freshB ops dies i e.on = true → good e.on (vs e.on) (vs (mate e.on)) w) → Does P o (laidBy ops vs (fun _ => true) ops.size a0) w fun v w' => good i v (if mate i = i then v else vs (mate i)) w' ∧ C w' ∧ Ext i w w')
    (hf : ∀ vs w, C w → (∀ m, (∀ k, ends m k = false) → init m w) → (∀ j, j < ops.size → (∀ k, dies j k = false) → good j (vs j) (vs (mate j)) w) → Q .normal (laidBy ops vs (fun _ => true) ops.size a0) w) :
    ∀ (fuel : Nat) (listed : Array Bool) (a : Act) (w : World), listed.size = ops.size → open_ listed ops.size ≤ fuel →
      (∃ vs, a = laidBy ops vs (fun j => listed.getD j false) ops.size a0 ∧ C w ∧ (∀ j o, listed.getD j false = true → ops[j]? = some o → ∀ e ∈ o.after, Region.binds .any e = true → listed.getD e.on false = true) ∧ (∀ m, (∀ k, ends m k = true → listed.getD k false = false) → init m w) ∧ ∀ j, j < ops.size → listed.getD j false = true → (∀ k, dies j k = true → listed.getD k false = false) → good j (vs j) (vs (mate j)) w) → wpAny P .any ops Q fuel listed a w := by
  have hdist : ∀ i j, i ≠ j → ∀ d, dstAt ops i = some d → dstAt ops j ≠ some d := by
    intro i j hij d hd e
    have hdst := e
    unfold dstAt at hdst
    cases hoj : ops[j]? with
    | none => rw [hoj] at hdst; cases hdst
    | some o =>
      rw [hoj] at hdst
      have hi : i < ops.size := by
        rcases Nat.lt_or_ge i ops.size with q | q
        · exact q
        · unfold dstAt at hd; rw [Array.getElem?_eq_none q] at hd; cases hd
      exact ((planB_spec hp hoj).2.2.2 i hi d hd).1 hij hdst
  have fin : ∀ (listed : Array Bool) (a : Act) (w : World), (∀ j, j < ops.size → listed.getD j false = true) → (∃ vs, a = laidBy ops vs (fun j => listed.getD j false) ops.size a0 ∧ C w ∧ (∀ j o, listed.getD j false = true → ops[j]? = some o → ∀ e ∈ o.after, Region.binds .any e = true → listed.getD e.on false = true) ∧ (∀ m, (∀ k, ends m k = true → listed.getD k false = false) → init m w) ∧ ∀ j, j < ops.size → listed.getD j false = true → (∀ k, dies j k = true → listed.getD k false = false) → good j (vs j) (vs (mate j)) w) → Q .normal a w := by
    rintro listed a w hall ⟨vs, rfl, hC, _, hIn, hg⟩
    rw [laidBy_congr ops vs vs _ (fun _ => true) ops.size a0 (fun j hj => hall j hj) (fun _ _ _ => rfl)]
    exact hf vs w hC (fun m hm => hIn m fun k hk => by rw [hm k] at hk; cases hk) fun j hj hd => hg j hj (hall j hj) (fun k hk => by rw [hd k] at hk; cases hk)
  have all_of : ∀ listed : Array Bool, listed.size = ops.size → Region.ready .any ops listed = [] → ∀ j, j < ops.size → listed.getD j false = true := by
    intro listed hsz hr j
    induction j using Nat.strongRecOn with
    | _ j ih =>
      intro hj
      cases hb : listed.getD j false with
      | true => rfl
      | false =>
        have hm : j ∈ Region.ready .any ops listed := by
          rw [mem_ready]
          refine ⟨?_, ops[j], by simp [hj], fun e he hbe => ?_⟩
          · have : j < listed.size := by omega
            simpa [this] using hb
          · have hlt := (planB_spec hp (show ops[j]? = some ops[j] by simp [hj])).2.2.1 e he hbe
            exact ih e.on hlt (by omega)
        rw [hr] at hm
        cases hm
  intro fuel
  induction fuel with
  | zero =>
    intro listed a w hsz hop hI
    have hall := unlisted_none (l := listed) ops.size (by omega)
    refine ⟨?_, fin listed a w hall hI⟩
    cases hr : Region.ready .any ops listed with
    | nil => rfl
    | cons x xs =>
      have hm : x ∈ Region.ready .any ops listed := by rw [hr]; exact List.mem_cons_self
      rw [mem_ready] at hm
      obtain ⟨h0, o, ho, _⟩ := hm
      have hx : x < ops.size := (Array.getElem?_eq_some_iff.1 ho).1
      have h1 := hall x hx
      have hxl : x < listed.size := by omega
      simp [hxl] at h0 h1
      rw [h0] at h1
      cases h1
  | succ fuel ih =>
    intro listed a w hsz hop hI
    refine ⟨fun hr => fin listed a w (all_of listed hsz hr) hI, ?_⟩
    intro i hi
    rw [mem_ready] at hi
    obtain ⟨h0, o, ho, hedge⟩ := hi
    have hlt : i < ops.size := (Array.getElem?_eq_some_iff.1 ho).1
    have hil : i < listed.size := by omega
    have h0' : listed.getD i false = false := by simpa [hil] using h0
    obtain ⟨vs, rfl, hC, hcl, hIn, hg⟩ := hI
    obtain ⟨p1, p2, p3, p4⟩ := planB_spec hp ho
    have young : ∀ (D : Nat → Nat → Bool) j, freshB ops D i j = true → ∀ k, D j k = true → listed.getD k false = false := by
      intro D j hd k hk
      cases hlk : listed.getD k false with
      | false => rfl
      | true =>
        have hks : k < ops.size := by
          rcases Nat.lt_or_ge k ops.size with q | q
          · exact q
          · have : ¬ k < listed.size := by omega
            simp [this] at hlk
        rcases freshB_spec hd hks hk with e | ⟨ok, hok, e, he, hb, hon⟩ | ⟨q, hkq, hqi⟩
        · subst e; rw [h0'] at hlk; cases hlk
        · have := hcl k ok hlk hok e he hb
          rw [hon, h0'] at this
          cases this
        · obtain ⟨ok, hok, e, he, hb, hon⟩ := waitsB_spec hkq
          have hq := hcl k ok hlk hok e he hb
          rw [hon] at hq
          obtain ⟨oq, hoq, e2, he2, hb2, hon2⟩ := waitsB_spec hqi
          have := hcl q oq hq hoq e2 he2 hb2
          rw [hon2, h0'] at this
          cases this
    have hdo := hs i o ho vs w hC (fun m hm => hIn m (young ends m hm)) (fun e he hb hd => hg e.on (by have := p3 e he hb; omega) (hedge e he hb) (young dies e.on hd))
    have hex : execOp (laidBy ops vs (fun j => listed.getD j false) ops.size a0).eval o = execOp (laidBy ops vs (fun _ => true) ops.size a0).eval o := by
      refine execOp_congr o p2 fun x hx => laidBy_eval ops vs _ x ops.size a0 fun j hj d hd hxd => ?_
      subst hxd
      obtain ⟨e, he, hb, rfl⟩ := (p4 j hj d hd).2 (by simpa using hx)
      exact hedge e he hb
    have go : ∀ v w', (good i v (if mate i = i then v else vs (mate i)) w' ∧ C w' ∧ Ext i w w') → wpAny P .any ops Q fuel (listed.setIfInBounds i true) ((laidBy ops vs (fun j => listed.getD j false) ops.size a0).put o.dst v) w' := by
      rintro v w' ⟨g1, g2, g3⟩
      have hdst : dstAt ops i = o.dst := by unfold dstAt; rw [ho]; rfl
      have hnew : (fun j => (listed.setIfInBounds i true).getD j false) = mark (fun j => listed.getD j false) i := by
        funext j
        by_cases hj : j = i
        · subst hj; simp [mark, hil]
        · rw [getD_set_ne false (by omega)]; simp [mark, hj]
      refine ih _ _ _ (by simpa using hsz) (by have := unlisted_set hil h0' ops.size hlt; omega) ⟨upd vs i v, ?_, g2, ?_, ?_, ?_⟩
      · rw [← hdst, hnew]
        exact laidBy_put ops hdist vs _ i h0' v ops.size hlt a0
      · intro j oj hlj hoj e he hb
        have hset : ∀ k, listed.getD k false = true → (listed.setIfInBounds i true).getD k false = true := by
          intro k hk
          by_cases hki : k = i
          · subst hki; simp [hil]
          · rw [getD_set_ne false (by omega)]; exact hk
        by_cases hji : j = i
        · subst hji
          rw [ho] at hoj
          cases hoj
          exact hset _ (hedge e he hb)
        · rw [getD_set_ne false (by omega)] at hlj
          exact hset _ (hcl j oj hlj hoj e he hb)
      · intro m hm
        refine hinit i m w w' ?_ g3 (hIn m fun k hk => ?_)
        · cases hd : ends m i with
          | false => rfl
          | true =>
            have := hm i hd
            simp [hil] at this
        · have hk2 := hm k hk
          by_cases hki : k = i
          · subst hki; exact h0'
          · rw [getD_set_ne false (by omega)] at hk2
            exact hk2
      · intro j hj hlj hdj
        by_cases hji : j = i
        · subst hji
          by_cases hmj : mate j = j
          · rw [if_pos hmj] at g1
            rw [hmj]
            simpa [upd] using g1
          · rw [if_neg hmj] at g1
            have e1 : upd vs j v (mate j) = vs (mate j) := by simp [upd, hmj]
            have e2 : upd vs j v j = v := by simp [upd]
            rw [e1, e2]
            exact g1
        · rw [getD_set_ne false (by omega)] at hlj
          have : upd vs i v j = vs j := by simp [upd, hji]
          have hm2 : upd vs i v (mate j) = vs (mate j) := by
            by_cases hmi : mate j = i
            · rcases hmate j with h | ⟨oj, hoj, e, he, hb, h⟩
              · exact absurd (h.symm.trans hmi) hji
              · have := hcl j oj hlj hoj e he hb
                rw [h, hmi, h0'] at this
                cases this
            · simp [upd, hmi]
          rw [this, hm2]
          refine hext i j _ _ w w' (fun h => hji h.symm) ?_ ?_ g3 (hg j hj hlj (fun k hk => ?_))
          · cases hd : dies j i with
            | false => rfl
            | true =>
              have := hdj i hd
              simp [hil] at this
          · cases hwt : waitsB ops j i with
            | false => rfl
            | true =>
              obtain ⟨oj, hoj, e, he, hb, hon⟩ := waitsB_spec hwt
              have := hcl j oj hlj hoj e he hb
              rw [hon, h0'] at this
              cases this
          · have hk2 := hdj k hk
            by_cases hki : k = i
            · subst hki; exact h0'
            · rw [getD_set_ne false (by omega)] at hk2
              exact hk2
    unfold wpOp
    simp only [ho]
    have hwant : Region.wanted o (yielded ops (laidBy ops vs (fun j => listed.getD j false) ops.size a0).tmps) = true := by simp [Region.wanted, p1]
    rw [if_pos hwant]
    left
    unfold Oper.wp
    rw [hex]
    unfold Does at hdo
    generalize (execOp (laidBy ops vs (fun _ => true) ops.size a0).eval o).run P w = r at *
    cases r with
    | ok n w' =>
      cases n <;> simp only [Oper.upon] <;> simp only at hdo
      case value u => exact go _ _ hdo
      case skip => exact go _ _ hdo
      case enter f args =>
        refine Calls.mono hdo ?_
        rintro e w'' ⟨v, rfl, h⟩
        exact go _ _ h
    | halt x w' => simp only at hdo

/-- the rule: a region that draws its order, by what holds of each operation's value -/
theorem wp_region_states {id : Nat} {a : Act} {w : World} (hm : P.follows .mixedOrders = true) (hp : planB ops = true) (C : World → Prop) (good : Nat → Value → Value → World → Prop) (mate : Nat → Nat) (dies : Nat → Nat → Bool) (Ext : Nat → World → World → Prop) (init : Nat → World → Prop) (ends : Nat → Nat → Bool) (hinit : ∀ i m w w', ends m i = false → Ext i w w' → init m w → init m w') (hmate : ∀ i, mate i = i ∨ ∃ o, ops[i]? = some o ∧ ∃ e ∈ o.after, Region.binds .any e = true ∧ e.on = mate i)
    (hext : ∀ i j v u w w', i ≠ j → dies j i = false → waitsB ops j i = false → Ext i w w' → good j v u w → good j v u w') (hC : C { w with drawn := w.drawn + 1 }) (hI : ∀ m, init m { w with drawn := w.drawn + 1 })
    (hs : ∀ i o, ops[i]? = some o → ∀ vs w, C w → (∀ m, freshB ops ends i m = true → init m w) → (∀ e ∈ o.after, Region.binds .any e = true → freshB ops dies i e.on = true → good e.on (vs e.on) (vs (mate e.on)) w) → Does P o (laidBy ops vs (fun _ => true) ops.size a) w fun v w' => good i v (if mate i = i then v else vs (mate i)) w' ∧ C w' ∧ Ext i w w')
    (hf : ∀ vs w, C w → (∀ m, (∀ k, ends m k = false) → init m w) → (∀ j, j < ops.size → (∀ k, dies j k = false) → good j (vs j) (vs (mate j)) w) → Q .normal (laidBy ops vs (fun _ => true) ops.size a) w) : (Code.region id ops true).wp P Q a w := by
  refine wp_region_any hm (wpAny_states hp a C good mate dies Ext init ends hinit hmate hext hs hf ops.size _ a _ (by simp) (open_all _ _) ⟨fun _ => undef, ?_, hC, ?_, fun m _ => hI m, ?_⟩)
  · have : ∀ n, laidBy ops (fun _ => undef) (fun j => (Array.replicate ops.size false).getD j false) n a = a := by
      intro n
      induction n with
      | zero => rfl
      | succ n ih =>
        rw [laidBy, if_neg, ih]
        by_cases h : n < ops.size <;> simp [h]
    exact (this _).symm
  · intro j o hl ho
    have hj : j < ops.size := (Array.getElem?_eq_some_iff.1 ho).1
    simp [hj] at hl
  · intro j hj hl
    simp [hj] at hl

theorem eval_put_here (a : Act) (d : Tmp) (v : Value) (h : d < a.tmps.size) : (a.put (some d) v).eval (.tmp d) = v := by
  simp [Act.eval, Act.put, h]
/-- where an operation's value lies when all are done -/
theorem laidBy_at (hp : planB ops = true) (vs : Nat → Value) (a : Act) {j : Nat} {d : Tmp} (hd : dstAt ops j = some d) (hs : d < a.tmps.size) (n : Nat) (hn : j < n) (hno : n ≤ ops.size) : (laidBy ops vs (fun _ => true) n a).eval (.tmp d) = vs j := by
  induction n with
  | zero => omega
  | succ n ih =>
    rw [laidBy, if_pos rfl]
    rcases Nat.lt_or_ge j n with q | q
    · rw [Act.eval_put, ih q (by omega)]
      intro d' hd' e
      cases e
      cases ho : ops[n]? with
      | none => unfold dstAt at hd'; rw [ho] at hd'; cases hd'
      | some o =>
        have h1 : o.dst = some d := by unfold dstAt at hd'; rw [ho] at hd'; exact hd'
        exact ((planB_spec hp ho).2.2.2 j (by omega) d hd).1 (by omega) h1
    · obtain rfl : j = n := by omega
      rw [hd]
      exact eval_put_here _ _ _ (by rw [laidBy_size]; exact hs)
theorem laidBy_base (vs : Nat → Value) (a : Act) {x : Operand} (n : Nat) (h : ∀ j, j < n → ∀ d, dstAt ops j = some d → x ≠ .tmp d) : (laidBy ops vs (fun _ => true) n a).eval x = a.eval x := by
  induction n with
  | zero => rfl
  | succ n ih =>
    rw [laidBy, if_pos rfl, Act.eval_put (fun d hd => h n (by omega) d hd)]
    exact ih fun j hj => h j (by omega)

theorem base_of {d : Tmp} (h : ((List.range ops.size).all fun j => dstAt ops j != some d) = true) : ∀ j, j < ops.size → dstAt ops j ≠ some d := by
  intro j hj e
  rw [List.all_eq_true] at h
  have := h j (List.mem_range.2 hj)
  simp [e] at this
/-- a thing said of each operation, one by one -/
def eachFrom (S : Nat → Oper → Prop) : Nat → List Oper → Prop
  | _, [] => True
  | i, o :: l => S i o ∧ eachFrom S (i + 1) l
theorem eachFrom_at {S : Nat → Oper → Prop} : ∀ (l : List Oper) (k i : Nat) (o : Oper), eachFrom S k l → l[i]? = some o → S (k + i) o
  | [], _, _, _, _, h => by simp at h
  | x :: l, k, 0, o, h, ho => by
    simp at ho
    subst ho
    exact h.1
  | x :: l, k, i + 1, o, h, ho => by
    have := eachFrom_at l (k + 1) i o h.2 (by simpa using ho)
    rw [show k + 1 + i = k + (i + 1) by omega] at this
    exact this

/-- the values' places lie in the frame -/
def roomB (ops : Array Oper) (N : Nat) : Bool := (List.range ops.size).all fun j => match dstAt ops j with | none => true | some d => decide (d < N)

/-- each one's mate is itself, or one that it waits for, whose value lies in the slot that is named -/
def mateB (ops : Array Oper) (mate slot : Nat → Nat) : Bool :=
  (List.range ops.size).all fun i => decide (mate i = i) || (decide (mate i < ops.size) && (dstAt ops (mate i) == some (slot i)) && (match ops[i]? with | none => false | some o => o.after.toList.any fun e => Region.binds .any e && decide (e.on = mate i)))
theorem mateB_slot {mate slot : Nat → Nat} (h : mateB ops mate slot = true) {i : Nat} (hi : i < ops.size) (hne : mate i ≠ i) : dstAt ops (mate i) = some (slot i) ∧ mate i < ops.size := by
  unfold mateB at h
  rw [List.all_eq_true] at h
  have h1 := h i (List.mem_range.2 hi)
  simp only [Bool.or_eq_true, decide_eq_true_eq, Bool.and_eq_true] at h1
  rcases h1 with h1 | ⟨⟨h1, h2⟩, _⟩
  · exact absurd h1 hne
  · exact ⟨by simpa using h2, h1⟩
theorem mateB_edge {mate slot : Nat → Nat} (h : mateB ops mate slot = true) (hout : ∀ i, ops.size ≤ i → mate i = i) : ∀ i, mate i = i ∨ ∃ o, ops[i]? = some o ∧ ∃ e ∈ o.after, Region.binds .any e = true ∧ e.on = mate i := by
  intro i
  rcases Nat.lt_or_ge i ops.size with hi | hi
  · unfold mateB at h
    rw [List.all_eq_true] at h
    have h1 := h i (List.mem_range.2 hi)
    simp only [Bool.or_eq_true, decide_eq_true_eq, Bool.and_eq_true] at h1
    rcases h1 with h1 | ⟨_, h2⟩
    · exact Or.inl h1
    · right
      cases ho : ops[i]? with
      | none => rw [ho] at h2; cases h2
      | some o =>
        rw [ho] at h2
        obtain ⟨e, he, hb⟩ := List.any_eq_true.1 h2
        simp only [Bool.and_eq_true, decide_eq_true_eq] at hb
        exact ⟨o, rfl, e, by simpa using he, hb.1, hb.2⟩
  · exact Or.inl (hout i hi)
theorem does_mono {o : Oper} {a : Act} {w : World} {K K' : Value → World → Prop} (h : Does P o a w K) (hk : ∀ v w', K v w' → K' v w') : Does P o a w K' := by
  unfold Does at h ⊢
  generalize (execOp a.eval o).run P w = r at *
  cases r with
  | ok n w' =>
    cases n <;> simp only at h ⊢
    case value u => exact hk _ _ h
    case skip => exact hk _ _ h
    case enter f args =>
      refine Calls.mono h ?_
      rintro e w'' ⟨v, rfl, h2⟩
      exact ⟨v, rfl, hk _ _ h2⟩
  | halt x w' => simp only at h

/-- the rule, one operation at a time: what an operation reads is what was said of it -/
theorem wp_region_from {id : Nat} {a : Act} {w : World} (hm : P.follows .mixedOrders = true) (hp : planB ops = true) {N : Nat} (hN : a.tmps.size = N) (hr : roomB ops N = true) (C : World → Prop) (good : Nat → Value → Value → World → Prop) (mate : Nat → Nat) (dies : Nat → Nat → Bool) (Ext : Nat → World → World → Prop) (init : Nat → World → Prop) (ends : Nat → Nat → Bool) (hinit : ∀ i m w w', ends m i = false → Ext i w w' → init m w → init m w') (slot : Nat → Nat) (hmb : mateB ops mate slot = true) (hout : ∀ i, ops.size ≤ i → mate i = i)
    (hext : ∀ i j v u w w', i ≠ j → dies j i = false → waitsB ops j i = false → Ext i w w' → good j v u w → good j v u w') (hC : C { w with drawn := w.drawn + 1 }) (hI : ∀ m, init m { w with drawn := w.drawn + 1 })
    (hs : eachFrom (fun i o => ∀ (A : Act) (w : World), C w → (∀ m, freshB ops ends i m = true → init m w) → (∀ j d, j < ops.size → dstAt ops j = some d → Operand.tmp d ∈ o.op.operands → freshB ops dies i j = true → mate j = j → good j (A.eval (.tmp d)) (A.eval (.tmp d)) w) → (∀ d, (∀ j, j < ops.size → dstAt ops j ≠ some d) → A.eval (.tmp d) = a.eval (.tmp d)) → Does P o A w fun v w' => good i v (if mate i = i then v else A.eval (.tmp (slot i))) w' ∧ C w' ∧ Ext i w w') 0 ops.toList)
    (hf : ∀ vs w, C w → (∀ m, (∀ k, ends m k = false) → init m w) → (∀ j, j < ops.size → (∀ k, dies j k = false) → good j (vs j) (vs (mate j)) w) → Q .normal (laidBy ops vs (fun _ => true) ops.size a) w) : (Code.region id ops true).wp P Q a w := by
  refine wp_region_states hm hp C good mate dies Ext init ends hinit (mateB_edge hmb hout) hext hC hI ?_ hf
  intro i o ho vs w hCw hiw hg
  have hS := eachFrom_at ops.toList 0 i o hs (by simpa using ho)
  rw [Nat.zero_add] at hS
  have room : ∀ j d, j < ops.size → dstAt ops j = some d → d < a.tmps.size := by
    intro j d hj hd
    unfold roomB at hr
    rw [List.all_eq_true] at hr
    have := hr j (List.mem_range.2 hj)
    simp only [hd, decide_eq_true_eq] at this
    rw [hN]
    exact this
  have hi : i < ops.size := (Array.getElem?_eq_some_iff.1 ho).1
  have hsl : mate i ≠ i → (laidBy ops vs (fun _ => true) ops.size a).eval (.tmp (slot i)) = vs (mate i) := by
    intro hne
    obtain ⟨h1, h2⟩ := mateB_slot hmb hi hne
    exact laidBy_at hp vs a h1 (room _ _ h2 h1) ops.size h2 (Nat.le_refl _)
  have hdone := hS (laidBy ops vs (fun _ => true) ops.size a) w hCw hiw ?_ ?_
  · refine does_mono hdone fun v w' ⟨g1, g2, g3⟩ => ⟨?_, g2, g3⟩
    by_cases hmi : mate i = i
    · rw [if_pos hmi] at g1 ⊢
      exact g1
    · rw [if_neg hmi] at g1 ⊢
      rw [hsl hmi] at g1
      exact g1
  · intro j d hj hd hmem hdie hmj
    have hsz : d < a.tmps.size := room j d hj hd
    rw [laidBy_at hp vs a hd hsz ops.size hj (Nat.le_refl _)]
    obtain ⟨e, he, hb, rfl⟩ := ((planB_spec hp ho).2.2.2 j hj d hd).2 hmem
    have := hg e he hb hdie
    rw [hmj] at this
    exact this
  · intro d hd
    refine laidBy_base vs a ops.size fun j hj d' hd' e => ?_
    cases e
    exact hd j hj hd'

theorem eachFrom_mono {S T : Nat → Oper → Prop} (h : ∀ i o, S i o → T i o) : ∀ (l : List Oper) (k : Nat), eachFrom S k l → eachFrom T k l
  | [], _, _ => trivial
  | _ :: l, k, q => ⟨h _ _ q.1, eachFrom_mono h l (k + 1) q.2⟩
/-- the same, with nothing that holds at the beginning and ends within -/
theorem wp_region_each {id : Nat} {a : Act} {w : World} (hm : P.follows .mixedOrders = true) (hp : planB ops = true) {N : Nat} (hN : a.tmps.size = N) (hr : roomB ops N = true) (C : World → Prop) (good : Nat → Value → Value → World → Prop) (mate : Nat → Nat) (dies : Nat → Nat → Bool) (Ext : Nat → World → World → Prop) (slot : Nat → Nat) (hmb : mateB ops mate slot = true) (hout : ∀ i, ops.size ≤ i → mate i = i)
    (hext : ∀ i j v u w w', i ≠ j → dies j i = false → waitsB ops j i = false → Ext i w w' → good j v u w → good j v u w') (hC : C { w with drawn := w.drawn + 1 })
    (hs : eachFrom (fun i o => ∀ (A : Act) (w : World), C w → (∀ j d, j < ops.size → dstAt ops j = some d → Operand.tmp d ∈ o.op.operands → freshB ops dies i j = true → mate j = j → good j (A.eval (.tmp d)) (A.eval (.tmp d)) w) → (∀ d, (∀ j, j < ops.size → dstAt ops j ≠ some d) → A.eval (.tmp d) = a.eval (.tmp d)) → Does P o A w fun v w' => good i v (if mate i = i then v else A.eval (.tmp (slot i))) w' ∧ C w' ∧ Ext i w w') 0 ops.toList)
    (hf : ∀ vs w, C w → (∀ j, j < ops.size → (∀ k, dies j k = false) → good j (vs j) (vs (mate j)) w) → Q .normal (laidBy ops vs (fun _ => true) ops.size a) w) : (Code.region id ops true).wp P Q a w :=
  wp_region_from hm hp hN hr C good mate dies Ext (fun _ _ => True) (fun _ _ => false) (fun _ _ _ _ _ _ h => h) slot hmb hout hext hC (fun _ => trivial) (eachFrom_mono (fun _ _ h A w hc _ => h A w hc) ops.toList 0 hs) (fun vs w hc _ => hf vs w hc)
end
end Go.Proofs.YtoanhjjigbjecaaGreatDoor
