/- Maps of the call's own whose keys are integers, told by lists: a set of the list's elements, how often each stands in it. And a map's element that is a truth value, read at the operation. Plain lemmas, no condition. -/
import Derived.Test.YtkpgjeeofghldaaVB
import Derived.Maps.OwnSet
import Derived.Maps.RangeWalk
namespace Go
open Go.Maps (Keyed)
theorem plainElem_bool_inv {H : Type} {P : Program} {e : TypeId} (he : P.underlying e = some .bool) {v : Value} {z : DataW H × List MemPlace} (h : plainElem P e v = some z) : ∃ x, v = .bool x ∧ z = (.lit (.bool x), []) := by
  unfold plainElem at h
  rw [he] at h
  cases v <;> simp at h
  subst h
  exact ⟨_, rfl, rfl⟩
theorem wpList_lookup_own_bool {H : Type} {P : Program} (w : World) {ops : Array Oper} {rest : List Oper} {o : Oper} {a : Act} {Q : Exit → Act → World → Prop}
    (hg : o.guard = none) (m x : Operand) (t : TypeId) (hop : o.op = Op.lookup t m x false)
    (k e : TypeId) (K : Keyed P k) (ht : P.underlying t = some (.map k e)) (he : P.underlying e = some .bool) (hz : (zeroValue e).run P w = .ok (.bool false) w) (b n : Nat) (D : DataW H)
    (hm : a.eval m = .map (some b)) (hown : w.ownsMap P k (plainElem P e) b n D) (key : Value) (kl : Lit) (hx : a.eval x = key) (hkey : keyOf P k key = some kl)
    (hK : ∀ c : Bool, D.atKey kl (.lit (.bool false)) = .lit (.bool c) → wpList P ops Q rest (a.put o.dst (.bool c)) w) :
    wpList P ops Q (o :: rest) a w := by
  refine wpList_plain hg fun K' hK' => ?_
  obtain ⟨v, ps, hrun, hv⟩ := hown.lookup K ht hz (plainElem_bool he false) hkey
  obtain ⟨c, rfl, hc⟩ := plainElem_bool_inv he hv
  simp only [Prod.mk.injEq] at hc
  unfold Oper.wp
  simp [execOp, hop, hm, hx, hrun, Result.andThen]
  exact hK' _ _ (hK c hc.1)
theorem wpList_lookup_own_boolG {H : Type} {P : Program} (w : World) {ops : Array Oper} {rest : List Oper} {o : Oper} {a : Act} {Q : Exit → Act → World → Prop}
    (hw : Region.wanted o (yielded ops a.tmps) = true) (m x : Operand) (t : TypeId) (hop : o.op = Op.lookup t m x false)
    (k e : TypeId) (K : Keyed P k) (ht : P.underlying t = some (.map k e)) (he : P.underlying e = some .bool) (hz : (zeroValue e).run P w = .ok (.bool false) w) (b n : Nat) (D : DataW H)
    (hm : a.eval m = .map (some b)) (hown : w.ownsMap P k (plainElem P e) b n D) (key : Value) (kl : Lit) (hx : a.eval x = key) (hkey : keyOf P k key = some kl)
    (c : Bool) (hat : D.atKey kl (.lit (.bool false)) = .lit (.bool c)) (hK : wpList P ops Q rest (a.put o.dst (.bool c)) w) :
    wpList P ops Q (o :: rest) a w :=
  wpList_step fun K0 hK0 => by
    rw [if_pos hw]
    obtain ⟨v, ps, hrun, hv⟩ := hown.lookup K ht hz (plainElem_bool he false) hkey
    obtain ⟨c', rfl, hc⟩ := plainElem_bool_inv he hv
    simp only [Prod.mk.injEq] at hc
    have e := hat.symm.trans hc.1
    injection e with e
    injection e with e
    subst e
    unfold Oper.wp
    simp [execOp, hop, hm, hx, hrun, Result.andThen]
    exact hK0 _ _ hK
theorem World.ownsMap.below {H : Type} {P : Program} {k : TypeId} {R : Value → Option (DataW H × List MemPlace)} {w w' : World} {b n : Nat} {D : DataW H} {B : Nat} (h : w.ownsMap P k R b n D) (hb : RowKit.Below B w w') (hB : b < B) : w'.ownsMap P k R b n D := by
  obtain ⟨es, clock, hg, F, hs, hD⟩ := h
  exact ⟨es, clock, (hb.block b hB).trans hg, F, hs, hD⟩
end Go
namespace Go.Proofs.Ytkpgjeeofghldaa
set_option maxRecDepth 20000
set_option linter.unusedSimpArgs false
set_option linter.unusedVariables false
open Go.ChangeShapes Go.WideShapes Go.ChangeAt Go.RowKit Go.Maps
set_option linter.unusedVariables false
abbrev DU := DataW Unit
abbrev kI (x : Int) : Lit := .int .i64 x
abbrev dI (x : Int) : DU := .lit (.int .i64 x)
abbrev dB (x : Bool) : DU := .lit (.bool x)
theorem kI_key (x : Int) : WideAt.IsKeyLit (kI x) := trivial
theorem kI_ne {x y : Int} (h : x ≠ y) : kI x ≠ kI y := fun e => h (by injection e)
/-- D is the set of the elements of l -/
def SetM (D : DU) (l : List Int) : Prop := Maps.IsMap D ∧ ∀ x, D.atKey (kI x) (dB false) = dB (decide (x ∈ l))
theorem SetM.nil : SetM (.map []) [] := ⟨⟨[], rfl⟩, fun x => rfl⟩
theorem SetM.add {D : DU} {l : List Int} (h : SetM D l) (x : Int) : SetM (D.put (kI x) (dB true)) (l ++ [x]) := by
  refine ⟨h.1.put _ _, fun y => ?_⟩
  by_cases e : y = x
  · subst e
    rw [atKey_put_same h.1 (kI_key _)]
    simp
  · rw [atKey_put_other (kI_ne e), h.2 y]
    simp [e]
theorem SetM.del {D : DU} {l : List Int} (h : SetM D l) (x : Int) : SetM (D.del (kI x)) (lessF l x) := by
  refine ⟨h.1.del _, fun y => ?_⟩
  by_cases e : y = x
  · subst e
    rw [atKey_del_same]
    simp [lessF]
  · rw [atKey_del_other (kI_ne e), h.2 y]
    simp [lessF, e]
theorem SetM.congr {D : DU} {l m : List Int} (h : SetM D l) (he : ∀ x, x ∈ l ↔ x ∈ m) : SetM D m := ⟨h.1, fun x => by rw [h.2 x]; simp [he x]⟩
theorem SetM.at_ {D : DU} {l : List Int} (h : SetM D l) {x : Int} {c : Bool} (hc : D.atKey (kI x) (dB false) = dB c) : c = decide (x ∈ l) := by
  rw [h.2 x] at hc
  injection hc with hc
  injection hc with hc
  exact hc.symm
/-- D tells how often each stands in l -/
structure CntM (D : DU) (l : List Int) : Prop where
  tidy : Tidy D
  val : ∀ x, D.atKey (kI x) (dI 0) = dI (l.count x)
  has : ∀ x, Maps.has D (kI x) = decide (x ∈ l)
  size : l.Nodup → Maps.size D = l.length
  sizele : Maps.size D ≤ l.length
theorem CntM.nil : CntM (.map []) [] := ⟨tidy_empty, fun x => rfl, fun x => rfl, fun _ => rfl, Nat.le_refl _⟩
theorem CntM.add {D : DU} {l : List Int} (h : CntM D l) (x : Int) : CntM (D.put (kI x) (dI (l.count x + 1))) (l ++ [x]) := by
  refine ⟨h.tidy.put (kI_key _) _, fun y => ?_, fun y => ?_, fun hn => ?_, ?_⟩
  · by_cases e : y = x
    · subst e
      rw [atKey_put_same h.tidy.isMap (kI_key _)]
      simp [List.count_append]
    · rw [atKey_put_other (kI_ne e), h.val y]
      have : List.count y [x] = 0 := by simp [List.count_cons, Ne.symm e]
      rw [List.count_append, this, Nat.add_zero]
  · by_cases e : y = x
    · subst e
      rw [has_put_same h.tidy.isMap (kI_key _)]
      simp
    · rw [has_put_other (kI_ne e), h.has y]
      simp [e]
  · rw [List.nodup_append] at hn
    have hx : x ∉ l := fun hm => hn.2.2 x hm x (by simp) rfl
    rw [size_put h.tidy, h.has x, h.size hn.1]
    simp [hx]
  · rw [size_put h.tidy]
    have := h.sizele
    simp only [List.length_append, List.length_singleton]
    split <;> omega
theorem CntM.at_ {D : DU} {l : List Int} (h : CntM D l) {x c : Int} (hc : D.atKey (kI x) (dI 0) = dI c) : c = l.count x := by
  rw [h.val x] at hc
  injection hc with hc
  injection hc with _ hc
  exact hc.symm
end Go.Proofs.Ytkpgjeeofghldaa
