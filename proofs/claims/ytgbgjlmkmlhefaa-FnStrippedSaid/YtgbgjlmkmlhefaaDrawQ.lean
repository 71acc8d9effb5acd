/- Contracts of the draws of programs (package spec). Conditions: the cursor's bytes can be read; the numbers are small. -/
import Derived.Test.YtgbgjlmkmlhefaaDrawC
import Derived.Test.YtgbgjlmkmlhefaaDrawB
import Derived.Test.YtgbgjlmkmlhefaaM3b
import Derived.Deep.DeepCutAuto
import Derived.Deep.RegionHeld3
namespace Go.Proofs.Ytgbgjlmkmlhefaa
set_option maxRecDepth 20000
set_option linter.unusedSimpArgs false
set_option linter.unusedVariables false
open Go.ChangeShapes Go.WideShapes Go.ChangeAt Go.RowKit
set_option linter.unusedVariables false
theorem flc_set4 : ∀ {L : List Ins} {k : Nat} (x : Ins), k < L.length → ((((flc L).set (k * 4) (.int .i64 x.o)).set (k * 4 + 1) (.int .i64 x.r)).set (k * 4 + 2) (.int .i64 x.s)).set (k * 4 + 3) (.int .i64 x.n) = flc (L.set k x)
  | i :: L, 0, x, _ => by
    rw [show flc (i :: L) = insC i ++ flc L from flc_append [i] L, List.set_cons_zero, show flc (x :: L) = insC x ++ flc L from flc_append [x] L]
    rfl
  | i :: L, k + 1, x, h => by
    have hi : (insC i).length = 4 := rfl
    rw [show flc (i :: L) = insC i ++ flc L from flc_append [i] L, List.set_cons_succ, show flc (i :: L.set k x) = insC i ++ flc (L.set k x) from flc_append [i] _, ← flc_set4 x (by simpa using h)]
    rw [List.set_append, if_neg (by omega), List.set_append, if_neg (by omega), List.set_append, if_neg (by omega), List.set_append, if_neg (by omega), hi,
      show (k + 1) * 4 - 4 = k * 4 by omega, show (k + 1) * 4 + 1 - 4 = k * 4 + 1 by omega, show (k + 1) * 4 + 2 - 4 = k * 4 + 2 by omega, show (k + 1) * 4 + 3 - 4 = k * 4 + 3 by omega]
theorem owns_onlyQ {w w' : World} {base : Nat} {e : TypeId} {size n : Nat} {v : Value} {xs : List Value} {bs : List Nat} (h : w.ownsRow base e size v n xs) (ho : Only bs w w') (hb : ∀ b ∈ bs, b < base) : w'.ownsRow base e size v n xs := by
  obtain ⟨h1, h2⟩ := h
  refine ⟨h1, ?_⟩
  rcases h2 with h2 | ⟨g, cap, cur, e1, e2, e3, e4⟩
  · exact .inl h2
  · exact .inr ⟨g, cap, cur, e1, e2, (ho.block g (Array.getElem?_eq_some_iff.1 e3).1 (fun hm => by have := hb g hm; omega)).trans e3, e4⟩
/-- each code of a drawn program is a row of its own -/
def CodesOwn (W : World) (lo : Nat) : List Value → List (List Ins) → Prop
  | [], [] => True
  | v :: vs, xs :: xss => W.ownsRow lo 74 4 v xs.length (flc xs) ∧ CodesOwn W lo vs xss
  | _, _ => False
theorem CodesOwn.map {W W' : World} {lo lo' : Nat} (hf : ∀ v n cs, W.ownsRow lo 74 4 v n cs → W'.ownsRow lo' 74 4 v n cs) : ∀ {vs : List Value} {xss : List (List Ins)}, CodesOwn W lo vs xss → CodesOwn W' lo' vs xss
  | [], [], _ => trivial
  | [], _ :: _, h => h.elim
  | _ :: _, [], h => h.elim
  | v :: vs, xs :: xss, h => ⟨hf _ _ _ h.1, CodesOwn.map hf h.2⟩
theorem CodesOwn.snoc {W : World} {lo : Nat} {v : Value} {xs : List Ins} (hv : W.ownsRow lo 74 4 v xs.length (flc xs)) : ∀ {vs : List Value} {xss : List (List Ins)}, CodesOwn W lo vs xss → CodesOwn W lo (vs ++ [v]) (xss ++ [xs])
  | [], [], _ => ⟨hv, trivial⟩
  | [], _ :: _, h => h.elim
  | _ :: _, [], h => h.elim
  | u :: vs, ys :: xss, h => ⟨h.1, CodesOwn.snoc hv h.2⟩
theorem CodesOwn.len {W : World} {lo : Nat} : ∀ {vs : List Value} {xss : List (List Ins)}, CodesOwn W lo vs xss → vs.length = xss.length
  | [], [], _ => rfl
  | [], _ :: _, h => h.elim
  | _ :: _, [], h => h.elim
  | u :: vs, ys :: xss, h => by simp [CodesOwn.len h.2]
theorem CodesOwn.rd {W : World} {lo : Nat} : ∀ {vs : List Value} {xss : List (List Ins)}, CodesOwn W lo vs xss → AllRd Rd W vs xss
  | [], [], _ => trivial
  | [], _ :: _, h => h.elim
  | _ :: _, [], h => h.elim
  | u :: vs, ys :: xss, h => ⟨by obtain ⟨bs, h1, -⟩ := Own.of_owns h.1; exact h1.rd, CodesOwn.rd h.2⟩
/-- a drawn program's codes -/
def ProgOwn (W : World) (lo : Nat) (v : Value) (xss : List (List Ins)) : Prop := ∃ vs, W.ownsRow lo 57 1 v xss.length vs ∧ CodesOwn W lo vs xss
theorem ProgOwn.rd {W : World} {lo : Nat} {v : Value} {xss : List (List Ins)} (h : ProgOwn W lo v xss) : RdSS W v xss := by
  obtain ⟨vs, h1, h2⟩ := h
  obtain ⟨bs, h3, -⟩ := Own.of_owns h1
  exact ⟨vs, h3.rd, h2.rd⟩
theorem ProgOwn.only {W W' : World} {lo g : Nat} {v : Value} {xss : List (List Ins)} (h : ProgOwn W lo v xss) (ho : Only [g] W W') (hg : g < lo) : ProgOwn W' lo v xss := by
  obtain ⟨vs, h1, h2⟩ := h
  exact ⟨vs, owns_onlyQ h1 ho (by simpa using hg), h2.map fun v n cs h => owns_onlyQ h ho (by simpa using hg)⟩
theorem ProgOwn.below {W W' : World} {lo : Nat} {v : Value} {xss : List (List Ins)} (h : ProgOwn W lo v xss) (hb : Below W.heap.size W W') : ProgOwn W' lo v xss := by
  obtain ⟨vs, h1, h2⟩ := h
  exact ⟨vs, ownsRow_below h1 hb, h2.map fun v n cs h => ownsRow_below h hb⟩
theorem ProgOwn.mono {W : World} {lo lo' : Nat} {v : Value} {xss : List (List Ins)} (h : ProgOwn W lo v xss) (hl : lo' ≤ lo) : ProgOwn W lo' v xss := by
  obtain ⟨vs, h1, h2⟩ := h
  exact ⟨vs, owns_mono h1 hl, h2.map fun v n cs h => owns_mono h hl⟩
theorem ProgOwn.setLow {W : World} {lo : Nat} {v : Value} {xss : List (List Ins)} {a : Addr} (h : ProgOwn W lo v xss) (ha : a.block < lo) (u : Value) : ProgOwn (W.setCell a u) lo v xss := by
  obtain ⟨vs, h1, h2⟩ := h
  exact ⟨vs, ownsRow_setCell_below h1 ha u, h2.map fun v n cs h => ownsRow_setCell_below h ha u⟩
def SmallSS (xss : List (List Ins)) : Prop := ∀ xs ∈ xss, xs.length ≤ 16 ∧ ∀ x ∈ xs, SmallI x
def DrawnP (lo0 g : Nat) (w : World) (e : Ending) (w' : World) : Prop :=
  ∃ (v : Value) (c : Int) (xss : List (List Ins)) (lo : Nat), e = .returned (.agg #[.int .i64 c, v]) ∧ (1 ≤ c ∧ c ≤ 3) ∧ xss.length ≤ 3 ∧ SmallSS xss ∧ w.heap.size ≤ lo ∧ ProgOwn w' lo v xss ∧ Cur lo0 w' g ∧ Only [g] w w'
theorem infoProg : (Try.prog.info? 33).map (fun i => (i.zero, i.size, i.bytes)) = some (some (.agg #[.int .i64 0, .slice none 0 0]), 2, 32) := by kernel_rfl
theorem infoCodesD : (Try.prog.info? 57).map (fun i => (i.zero, i.size, i.bytes)) = some (some (.slice none 0 0), 1, 24) := by kernel_rfl
end Go.Proofs.Ytgbgjlmkmlhefaa
