/- A region whose reads come first: whatever may come up and reads only is taken ahead of a call that makes memory and of a store into what was read. Plain lemmas on regions, no condition. -/
import Derived.StillTail
import Derived.OrdersHeld
import Derived.Deep.Quiet
import Derived.Test.YtiamkgkhamnaeaaDoorFlat
namespace Go.Proofs.YtiamkgkhamnaeaaDoor
set_option maxRecDepth 20000
set_option linter.unusedSimpArgs false
set_option linter.unusedVariables false
section
variable {P : Program} {ops : Array Oper} {Q : Exit → Act → World → Prop} {md : Region.Mode} {S : World → Prop} {d : Nat} {I : Array Bool → World → Prop}
/-- whatever order is picked; behind each operation I holds of what has come up and of the world -/
def wpAnyX (P : Program) (md : Region.Mode) (ops : Array Oper) (Q : Exit → Act → World → Prop) (I : Array Bool → World → Prop) : Nat → Array Bool → Act → World → Prop
  | 0, listed, a, w => Region.ready md ops listed = [] ∧ Q .normal a w
  | fuel + 1, listed, a, w =>
    (Region.ready md ops listed = [] → Q .normal a w) ∧
    ∀ i ∈ Region.ready md ops listed, wpOp P ops Q i (fun a' w' => I (listed.setIfInBounds i true) w' ∧ wpAnyX P md ops Q I fuel (listed.setIfInBounds i true) a' w') a w
theorem wpAny_of_X : ∀ (fuel : Nat) (listed : Array Bool) (a : Act) (w : World), wpAnyX P md ops Q I fuel listed a w → wpAny P md ops Q fuel listed a w
  | 0, _, _, _, h => h
  | fuel + 1, _, _, _, h => ⟨h.1, fun i hi => wpOp_mono (fun a' w' h' => wpAny_of_X fuel _ a' w' h'.2) (h.2 i hi)⟩
/-- what is listed is closed under what binds -/
structure ClosedL (md : Region.Mode) (ops : Array Oper) (listed : Array Bool) : Prop where
  size : listed.size = ops.size
  closed : ∀ j oj, ops[j]? = some oj → listed.getD j false = true → ∀ e ∈ oj.after, Region.binds md e = true → listed.getD e.on false = true
theorem ClosedL.set {i : Nat} {listed : Array Bool} (inv : ClosedL md ops listed) (hi : i ∈ Region.ready md ops listed) : ClosedL md ops (listed.setIfInBounds i true) := by
  obtain ⟨_, oi, hoi, hall⟩ := mem_ready.1 hi
  refine ⟨by simp [inv.size], fun j oj hj hl e he hb => ?_⟩
  by_cases hij : i = j
  · subst hij
    have : oj = oi := Option.some.inj (hj.symm.trans hoi)
    subst this
    exact getD_set_true (hall e he hb)
  · rw [getD_set_ne false hij] at hl
    exact getD_set_true (inv.closed j oj hj hl e he hb)
/-- operation d waits, by way of others, for operation k -/
def goodB (md : Region.Mode) (ops : Array Oper) (d : Nat) : Nat → Nat → Bool
  | 0, k => k == d
  | f + 1, k => k == d || (List.range (d + 1)).any fun j => Region.waitsFor md ops j k && goodB md ops d f j
theorem unlisted_d {listed : Array Bool} (inv : ClosedL md ops listed) : ∀ (f i : Nat), goodB md ops d f i = true → i < ops.size → listed.getD i true = false → listed.getD d true = false
  | 0, i, h, _, hun => by
    simp only [goodB, beq_iff_eq] at h
    exact h ▸ hun
  | f + 1, i, h, hi, hun => by
    simp only [goodB, Bool.or_eq_true, beq_iff_eq] at h
    rcases h with h | h
    · exact h ▸ hun
    · obtain ⟨j, hj, hj2⟩ := List.any_eq_true.1 h
      simp only [Bool.and_eq_true] at hj2
      obtain ⟨oj, hoj, e, he, hb, hon⟩ := Region.waitsFor_spec hj2.1
      have hjo : j < ops.size := (Array.getElem?_eq_some_iff.1 hoj).1
      have hjs : j < listed.size := by rw [inv.size]; exact hjo
      have hl : listed.getD j false = false := by
        cases hl : listed.getD j false with
        | false => rfl
        | true =>
          have h2 := inv.closed j oj hoj hl e he hb
          rw [hon, getD_both hun] at h2
          cases h2
      exact unlisted_d inv f j hj2.2 hjo (getD_in hjs hl)
theorem wpAnyX_first {i : Nat} {oi : Oper} {v : Value} (hi : ops[i]? = some oi) (hsel : ∀ (j : Nat) (o : Oper) cs b, ops[j]? = some o → o.op ≠ .select cs b)
    (hQ : ∀ c a w, Q (.panic c) (a.put oi.dst v) w → Q (.panic c) a w) (hIi : ∀ listed w, I (listed.setIfInBounds i true) w ↔ I listed w) (hI : ∀ listed w, ClosedL md ops listed → listed.getD i true = false → I listed w → S w) :
    ∀ (fuel : Nat) (listed : Array Bool) (a : Act) (w : World), ClosedL md ops listed →
      (∀ j oj, ops[j]? = some oj → j ≠ i → listed.getD j true = false → (∀ e ∈ oj.after, Region.binds md e = true → e.on ≠ i) → oi.apart ops oj = true) →
      i ∈ Region.ready md ops listed → YieldsIf P ops S oi v a → I listed w →
      wpAnyX P md ops Q I fuel (listed.setIfInBounds i true) (a.put oi.dst v) w → wpAnyX P md ops Q I (fuel + 1) listed a w := by
  intro fuel
  induction fuel with
  | zero =>
    intro listed a w inv hfree hr hy hS H
    refine ⟨fun h => (by rw [h] at hr; cases hr), fun j hj => ?_⟩
    by_cases hji : j = i
    · subst hji; exact hy.wpOp hi (hI _ _ inv (mem_ready.1 hr).1 hS) ⟨(hIi _ _).2 hS, H⟩
    · have := ready_mono hj hji
      rw [H.1] at this
      cases this
  | succ fuel ih =>
    intro listed a w inv hfree hr hy hS H
    refine ⟨fun h => (by rw [h] at hr; cases hr), fun j hj => ?_⟩
    by_cases hji : j = i
    · subst hji; exact hy.wpOp hi (hI _ _ inv (mem_ready.1 hr).1 hS) ⟨(hIi _ _).2 hS, H⟩
    · have h1 := H.2 j (ready_mono hj hji)
      obtain ⟨hjun, oj, hoj, hall⟩ := mem_ready.1 hj
      have h0 := (mem_ready.1 hr).1
      have hnot : ∀ e ∈ oj.after, Region.binds md e = true → e.on ≠ i := fun e he hb heq => by
        have h1 := hall e he hb
        rw [heq] at h1
        rcases Nat.lt_or_ge i listed.size with h' | h'
        · simp [h'] at h0 h1; rw [h0] at h1; cases h1
        · simp [Array.getElem?_eq_none h'] at h1
      have h2 := wpOp_putIf hoj (hfree j oj hoj hji hjun hnot) (fun cs b => hsel i oi cs b hi) (fun cs b => hsel j oj cs b hoj) hQ hy h1
      have hfree' : ∀ k ok, ops[k]? = some ok → k ≠ i → (listed.setIfInBounds j true).getD k true = false →
          (∀ e ∈ ok.after, Region.binds md e = true → e.on ≠ i) → oi.apart ops ok = true := fun k ok hk hki hun hno => by
        refine hfree k ok hk hki ?_ hno
        by_cases hjk : j = k
        · subst hjk; exact hjun
        · rw [getD_set_ne true hjk] at hun; exact hun
      have inv' := inv.set hj
      refine wpOp_mono (fun a' w' h3 => ?_) h2
      have h5 : I (listed.setIfInBounds j true) w' := (hIi _ _).1 (by rw [Array.setIfInBounds_comm _ _ hji]; exact h3.2.1)
      exact ⟨h5, ih (listed.setIfInBounds j true) a' w' inv' hfree' (ready_mono hr (Ne.symm hji)) h3.1 h5 (by rw [Array.setIfInBounds_comm _ _ hji]; exact h3.2.2)⟩
/-- operations that hand back a value, or stop: no call -/
def plainOp : Op → Bool
  | .move _ | .assign _ | .pick _ _ _ | .load _ _ | .binOp _ _ _ _ _ | .unOp _ _ _ | .convert _ _ _ | .fieldAddr _ _ _ | .field _ _ _ | .indexAddr _ _ _ | .index _ _ _ | .extract _ _ | .slice _ _ _ _ _ | .build _ _ | .nilCheck _ | .makeInterface _ _ => true
  | _ => false
theorem bind_ok {α β : Type} {s : Sem α} {f : α → Sem β} {w w' : World} {n : β} (h : (s >>= f).run P w = .ok n w') : ∃ a w1, (f a).run P w1 = .ok n w' := by
  simp only [Sem.run_bind] at h
  generalize Sem.run P s w = r at h
  cases r with
  | ok a w1 => exact ⟨a, w1, by simpa [Result.andThen] using h⟩
  | halt x w1 => simp [Result.andThen] at h
theorem val_of {s : Sem Value} {w w' : World} {n : Next} (h : (do pure (Next.value (← s)) : Sem Next).run P w = .ok n w') : ∃ u, n = .value u := by
  simp only [Sem.run_bind] at h
  generalize Sem.run P s w = r at h
  cases r with
  | ok a w1 =>
    simp [Result.andThen] at h
    exact ⟨_, h.1.symm⟩
  | halt x w1 => simp [Result.andThen] at h
theorem plain_value {o : Oper} {ρ : Operand → Value} {w w' : World} {n : Next} (hp : plainOp o.op = true) (h : (execOp ρ o).run P w = .ok n w') : ∃ u, n = .value u := by
  unfold execOp at h
  cases ho : o.op <;> simp only [ho, plainOp, Bool.false_eq_true] at hp <;> simp only [ho] at h
  case move => simp at h; exact ⟨_, h.1.symm⟩
  case assign => simp at h; exact ⟨_, h.1.symm⟩
  case pick => exact val_of (s := do pure (if ← asBool _ then _ else _)) (by simpa using h)
  case nilCheck =>
    split at h
    · simp [runtimePanic] at h
    · simp [runtimePanic] at h
    · simp [runtimePanic] at h
    · split at h
      · simp [runtimePanic] at h
      · obtain ⟨p, w1, h⟩ := bind_ok h
        obtain ⟨q, w2, h⟩ := bind_ok h
        split at h
        · obtain ⟨r, w3, h⟩ := bind_ok h
          simp at h
          exact ⟨_, h.1.symm⟩
        · simp at h
          exact ⟨_, h.1.symm⟩
      · simp at h; exact ⟨_, h.1.symm⟩
    · simp at h; exact ⟨_, h.1.symm⟩
  all_goals exact val_of h
theorem yieldsIf_of_quiet {o : Oper} {v : Value} {a : Act} (hp : plainOp o.op = true) (h : YieldsIn P ops S o v a) : YieldsIf P ops S o v a := by
  rcases h with ⟨hw, h⟩ | h
  · refine .inl ⟨hw, fun w hS => ?_⟩
    have h1 := h w hS
    unfold Oper.quietAt at h1
    generalize hr : (execOp a.eval o).run P w = r at h1
    cases r with
    | halt x w' => simp only [Oper.quietUpon] at h1
    | ok n w' =>
      obtain ⟨u, rfl⟩ := plain_value hp hr
      simp only [Oper.quietUpon] at h1
      rw [h1.1, h1.2]
  · exact .inr h
/-- the operations marked, from number k on: may come up, wait for nobody, are apart from whoever does not wait for them; d waits for them -/
def headsB (md : Region.Mode) (ops : Array Oper) (ok : Nat → Bool) : List Bool → Nat → Array Bool → Bool
  | [], _, _ => true
  | true :: bs, k, listed => ok k && (Region.ready md ops listed).contains k && Region.free md ops listed k && ((ops[k]?).map fun o => plainOp o.op).getD false && headsB md ops ok bs (k + 1) (listed.setIfInBounds k true)
  | false :: bs, k, listed => headsB md ops ok bs (k + 1) listed
def afterHeads : List Bool → Nat → Array Bool → Array Bool
  | [], _, listed => listed
  | true :: bs, k, listed => afterHeads bs (k + 1) (listed.setIfInBounds k true)
  | false :: bs, k, listed => afterHeads bs (k + 1) listed
def keepOps : List Bool → List Oper → List Oper
  | true :: bs, o :: l => o :: keepOps bs l
  | false :: bs, _ :: l => keepOps bs l
  | _, _ => []
def headsN : List Bool → Nat
  | [] => 0
  | true :: bs => headsN bs + 1
  | false :: bs => headsN bs
theorem wpAnyX_heads {ok : Nat → Bool} (hsel : Region.noSelect ops = true) (hQ : ∀ c a t v w, Q (.panic c) (a.put t v) w → Q (.panic c) a w)
    (hIi : ∀ k, ok k = true → ∀ listed w, I (listed.setIfInBounds k true) w ↔ I listed w) (hI : ∀ k, ok k = true → k < ops.size → ∀ listed w, ClosedL md ops listed → listed.getD k true = false → I listed w → S w) (fuel : Nat) {w : World} :
    ∀ (bs : List Bool) (l : List Oper) (k : Nat) (listed : Array Bool) (a : Act), (∀ j, j < bs.length → l[j]? = ops[k + j]?) → ClosedL md ops listed → headsB md ops ok bs k listed = true → I listed w →
      wpQuiet P ops S (fun a' => wpAnyX P md ops Q I fuel (afterHeads bs k listed) a' w) (keepOps bs l) a → wpAnyX P md ops Q I (fuel + headsN bs) listed a w
  | [], _, _, _, _, _, _, _, _, h => h
  | true :: bs, [], k, listed, a, hl, inv, hB, hS, h => by
    simp only [headsB, Bool.and_eq_true] at hB
    have h0 := hl 0 (by simp)
    simp only [List.getElem?_nil, Nat.add_zero] at h0
    rw [← h0] at hB
    simp at hB
  | false :: bs, [], k, listed, a, hl, inv, hB, hS, h => by
    simp only [headsB] at hB
    refine wpAnyX_heads hsel hQ hIi hI fuel bs [] (k + 1) listed a (fun j hj => ?_) inv hB hS (by cases bs with | nil => exact h | cons b bs => cases b <;> exact h)
    have := hl (j + 1) (by simp; omega)
    simpa [Nat.add_assoc, Nat.add_comm 1 j] using this
  | true :: bs, o :: l, k, listed, a, hl, inv, hB, hS, h => by
    simp only [headsB, Bool.and_eq_true] at hB
    obtain ⟨⟨⟨⟨hk, hr⟩, hf⟩, hp⟩, hB'⟩ := hB
    have h0 : ops[k]? = some o := by simpa using (hl 0 (by simp)).symm
    have hr' : k ∈ Region.ready md ops listed := by simpa using hr
    have hp' : plainOp o.op = true := by simpa [h0] using hp
    have hst : qOp P ops S k (wpQuiet P ops S (fun a' => wpAnyX P md ops Q I fuel (afterHeads (true :: bs) k listed) a' w) (keepOps bs l)) a := by unfold qOp; simp only [h0]; exact h
    obtain ⟨v, hy, hK⟩ := yieldsIn_of_qOp h0 hst
    exact wpAnyX_first h0 (Region.noSelect_spec hsel) (fun c a w => hQ c a _ _ w) (hIi k hk) (hI k hk (Array.getElem?_eq_some_iff.1 h0).1) (fuel + headsN bs) listed a w inv (Region.free_spec h0 hf) hr' (yieldsIf_of_quiet hp' hy) hS
      (wpAnyX_heads hsel hQ hIi hI fuel bs l (k + 1) _ _ (fun j hj => by have := hl (j + 1) (by simp; omega); simpa [Nat.add_assoc, Nat.add_comm 1 j] using this) (inv.set hr') hB' ((hIi k hk _ _).2 hS) hK)
  | false :: bs, o :: l, k, listed, a, hl, inv, hB, hS, h => by
    simp only [headsB] at hB
    exact wpAnyX_heads hsel hQ hIi hI fuel bs l (k + 1) listed a (fun j hj => by have := hl (j + 1) (by simp; omega); simpa [Nat.add_assoc, Nat.add_comm 1 j] using this) inv hB hS h
/-- what is asked of the world till operation d has come up, and till operation d' has -/
def Two (d d' : Nat) (S S' : World → Prop) (listed : Array Bool) (w : World) : Prop := (listed.getD d true = false → S w) ∧ (listed.getD d' true = false → S' w)
theorem two_set {d d' : Nat} {S S' : World → Prop} {k : Nat} (h : k ≠ d) (h' : k ≠ d') (listed : Array Bool) (w : World) : Two d d' S S' (listed.setIfInBounds k true) w ↔ Two d d' S S' listed w := by
  unfold Two
  rw [getD_set_ne true h, getD_set_ne true h']
/-- is what has come up closed? -/
def closedB (md : Region.Mode) (ops : Array Oper) (listed : Array Bool) : Bool :=
  listed.size == ops.size && (List.range ops.size).all fun j => !listed.getD j false || ((ops[j]?).map fun o => o.after.all fun e => !Region.binds md e || listed.getD e.on false).getD true
theorem closed_of {listed : Array Bool} (h : closedB md ops listed = true) : ClosedL md ops listed := by
  simp only [closedB, Bool.and_eq_true, beq_iff_eq, List.all_eq_true, List.mem_range] at h
  refine ⟨h.1, fun j oj hj hl e he hb => ?_⟩
  have h1 := h.2 j (Array.getElem?_eq_some_iff.1 hj).1
  simp only [hl, hj, Bool.not_true, Bool.false_or, Option.map_some, Option.getD_some] at h1
  have h2 := Array.all_eq_true'.1 h1 e he
  simpa [hb] using h2
def okB (ops : Array Oper) (d d' : Nat) (t : Option Bool) (k : Nat) : Bool := !(k == d) && !(k == d') && match t with | none => true | some false => goodB .any ops d ops.size k | some true => goodB .any ops d' ops.size k
def passB (l : List Oper) (d d' : Nat) (t : Option Bool) (bs : List Bool) (listed : Array Bool) (fuel : Nat) : Bool :=
  Region.noSelect l.toArray && decide (bs.length ≤ l.length) && closedB .any l.toArray listed && headsB .any l.toArray (okB l.toArray d d' t) bs 0 listed && decide (headsN bs ≤ fuel)
def clsOf (S S' : World → Prop) : Option Bool → World → Prop
  | none => fun _ => True
  | some false => S
  | some true => S'
/-- THE RULE FOR READS: the marked operations are walked now, in the text's order, each in every world of its class: t: S, S' or all worlds -/
theorem wpAnyX_pass {l : List Oper} {d d' : Nat} {S S' C : World → Prop} (t : Option Bool) (bs : List Bool) {fuel : Nat} {listed : Array Bool} {a : Act} {w : World} (hC : clsOf S S' t = C) (hB : passB l d d' t bs listed fuel = true)
    (hQ : ∀ c a t v w, Q (.panic c) (a.put t v) w → Q (.panic c) a w) (hI : Two d d' S S' listed w)
    (h : wpQuiet P l.toArray C (fun a' => wpAnyX P .any l.toArray Q (Two d d' S S') (fuel - headsN bs) (afterHeads bs 0 listed) a' w) (keepOps bs l) a) : wpAnyX P .any l.toArray Q (Two d d' S S') fuel listed a w := by
  subst hC
  simp only [passB, Bool.and_eq_true, decide_eq_true_eq] at hB
  obtain ⟨⟨⟨⟨hsel, hbl⟩, hcl⟩, hh⟩, hf⟩ := hB
  have hk : ∀ k, okB l.toArray d d' t k = true → k ≠ d ∧ k ≠ d' ∧ ∀ listed w, k < l.toArray.size → ClosedL .any l.toArray listed → listed.getD k true = false → Two d d' S S' listed w → clsOf S S' t w := by
    intro k hk
    simp only [okB, Bool.and_eq_true, Bool.not_eq_true', beq_eq_false_iff_ne] at hk
    obtain ⟨⟨h1, h2⟩, h3⟩ := hk
    refine ⟨h1, h2, fun listed w hlt inv hun hI => ?_⟩
    cases t with
    | none => trivial
    | some b =>
      cases b with
      | false => exact hI.1 (unlisted_d inv _ _ h3 hlt hun)
      | true => exact hI.2 (unlisted_d inv _ _ h3 hlt hun)
  have := wpAnyX_heads (P := P) (Q := Q) (S := clsOf S S' t) (I := Two d d' S S') (md := .any) hsel hQ (fun k h => two_set (hk k h).1 (hk k h).2.1) (fun k h hlt listed w => (hk k h).2.2 listed w hlt) (fuel - headsN bs) bs l 0 listed a (fun j _ => by simp) (closed_of hcl) hh hI h
  rwa [Nat.sub_add_cancel hf] at this
/-- the beginning -/
theorem wp_region_two {id : Nat} {a : Act} {w : World} {l : List Oper} (d d' : Nat) (S S' : World → Prop) (hm : P.follows .mixedOrders = true)
    (h : wpAnyX P .any l.toArray Q (Two d d' S S') l.length (Array.replicate l.length false) a w.drew) : (Code.region id l.toArray true).wp P Q a w := by
  refine wp_region_any hm (wpAny_of_X _ _ _ _ (I := Two d d' S S') ?_)
  simpa using h
/-- one operation is left to come up: it is run -/
theorem wpAnyX_one {o : Oper} (i : Nat) {fuel : Nat} {listed : Array Bool} {a : Act} {w : World} (ho : ops[i]? = some o) (hr : Region.ready md ops listed = [i]) (hf : decide (0 < fuel) = true)
    (h : wpList P ops (fun e a w => match e with | .normal => I (listed.setIfInBounds i true) w ∧ wpAnyX P md ops Q I (fuel - 1) (listed.setIfInBounds i true) a w | e => Q e a w) [o] a w) :
    wpAnyX P md ops Q I fuel listed a w := by
  obtain ⟨n, rfl⟩ : ∃ n, fuel = n + 1 := ⟨fuel - 1, by have := of_decide_eq_true hf; omega⟩
  rw [Nat.add_sub_cancel] at h
  refine ⟨fun h0 => (by rw [hr] at h0; cases h0), fun j hj => ?_⟩
  rw [hr] at hj
  have hji : j = i := by simpa using hj
  subst hji
  unfold wpOp
  simp only [ho]
  unfold wpList at h
  split
  · rename_i hw
    simp only [hw, if_true] at h
    rcases h with h | ⟨h1, h2⟩
    · left
      unfold Oper.wp at *
      generalize (execOp a.eval o).run P w = r at *
      cases r with
      | ok n w' =>
        cases n <;> simp only [Oper.upon] at h ⊢ <;> first | exact h | exact Calls.mono h (fun e w'' he => by cases e <;> exact he)
      | halt x w' => cases x <;> simp only [Oper.upon] at h ⊢ <;> exact h
    · exact .inr ⟨h1, h2⟩
  · rename_i hw
    simp only [hw] at h
    exact h
theorem wpAnyX_done {fuel : Nat} {listed : Array Bool} {a : Act} {w : World} (hr : Region.ready md ops listed = []) (h : Q .normal a w) : wpAnyX P md ops Q I fuel listed a w := by
  cases fuel with
  | zero => exact ⟨hr, h⟩
  | succ fuel => exact ⟨fun _ => h, by rw [hr]; simp⟩
end
/-- a world in which the old blocks but bs are as they were -/
structure PastO (bs : List Nat) (w : World) where
  v : World
  ho : Only bs w v
instance pastOSome (bs : List Nat) (w : World) : Nonempty (PastO bs w) := ⟨⟨w, Only.refl bs w⟩⟩
theorem PastO.cell {bs : List Nat} {w : World} {b o : Nat} {x : Value} (hb : b < w.heap.size) (hn : b ∉ bs) (h : w.cell? ⟨b, o, none⟩ = some x) (p : PastO bs w) : p.v.cell? ⟨b, o, none⟩ = some x :=
  (World.cell?_of_block (a := ⟨b, o, none⟩) (p.ho.block b hb hn)).trans h
end Go.Proofs.YtiamkgkhamnaeaaDoor
