/- Contracts of the laws' helpers over lists of codes and programs: size, copy, equality. Condition: the size that the law bounds. -/
import Derived.Test.YtkpgjeeofghldaaM2
namespace Go.Proofs.Ytkpgjeeofghldaa
set_option maxRecDepth 20000
set_option linter.unusedSimpArgs false
set_option linter.unusedVariables false
open Go.ChangeShapes Go.WideShapes Go.ChangeAt Go.RowKit
/-- the values vs can be read as the codes xss -/
def AllRd (R : World → Value → Nat → Nat → List Value → Prop) (w : World) : List Value → List (List Ins) → Prop
  | [], [] => True
  | c :: vs, xs :: xss => R w c 4 xs.length (flc xs) ∧ AllRd R w vs xss
  | _, _ => False
def RdASS (w : World) (v : Value) (xss : List (List Ins)) : Prop := ∃ vs, RdA w v 1 xss.length vs ∧ AllRd RdA w vs xss
def RdSS (w : World) (v : Value) (xss : List (List Ins)) : Prop := ∃ vs, Rd w v 1 xss.length vs ∧ AllRd Rd w vs xss
def InSS (w : World) : List Value → List (List Ins) → List (List Nat) → Prop
  | [], [], [] => True
  | c :: vs, xs :: xss, b :: bss => Own w c 4 xs.length (flc xs) b ∧ (∀ x ∈ b, ∀ y ∈ bss.flatten, x ≠ y) ∧ InSS w vs xss bss
  | _, _, _ => False
/-- the list of codes lies in blocks of its own -/
def OwnSS (w : World) (v : Value) (xss : List (List Ins)) (bs : List Nat) : Prop :=
  ∃ vs b0 bss, Own w v 1 xss.length vs b0 ∧ InSS w vs xss bss ∧ bs = b0 ++ bss.flatten ∧ (∀ x ∈ b0, ∀ y ∈ bss.flatten, x ≠ y)
def totSS (xss : List (List Ins)) : Nat := xss.length + (xss.map List.length).sum
theorem le_sums : ∀ {xss : List (List Ins)} {xs : List Ins}, xs ∈ xss → xs.length ≤ (xss.map List.length).sum
  | [], _, h => by simp at h
  | ys :: xss, xs, h => by
    rw [List.map_cons, List.sum_cons]
    rcases List.mem_cons.1 h with rfl | h
    · omega
    · have := le_sums h
      omega
theorem totSS_mem {xss : List (List Ins)} {xs : List Ins} (h : xs ∈ xss) : xs.length ≤ totSS xss := by
  have := le_sums h
  unfold totSS
  omega
theorem totSS_take {xss : List (List Ins)} {k : Nat} {xs : List Ins} (h : xss[k]? = some xs) : ((xss.take (k + 1)).map List.length).sum = ((xss.take k).map List.length).sum + xs.length := by
  rw [List.take_add_one, h]
  simp
theorem totSS_sub (xss : List (List Ins)) (k : Nat) : xss.length + ((xss.take k).map List.length).sum ≤ totSS xss := by
  unfold totSS
  have : ((xss.take k).map List.length).sum + ((xss.drop k).map List.length).sum = (xss.map List.length).sum := by
    rw [← List.sum_append, ← List.map_append, List.take_append_drop]
  omega
section
variable {w w' : World} {R : World → Value → Nat → Nat → List Value → Prop}
theorem AllRd.at_ : ∀ {vs : List Value} {xss : List (List Ins)} {k : Nat} {xs : List Ins}, AllRd R w vs xss → xss[k]? = some xs → ∃ c, vs[k]? = some c ∧ R w c 4 xs.length (flc xs)
  | [], [], k, xs, _, h => by simp at h
  | [], _ :: _, _, _, h, _ => h.elim
  | _ :: _, [], _, _, h, _ => h.elim
  | c :: vs, ys :: xss, 0, xs, h, hk => by
    simp only [List.getElem?_cons_zero, Option.some.injEq] at hk
    subst hk
    exact ⟨c, rfl, h.1⟩
  | c :: vs, ys :: xss, k + 1, xs, h, hk => AllRd.at_ (k := k) h.2 (by simpa using hk)
theorem AllRd.len : ∀ {vs : List Value} {xss : List (List Ins)}, AllRd R w vs xss → vs.length = xss.length
  | [], [], _ => rfl
  | [], _ :: _, h => h.elim
  | _ :: _, [], h => h.elim
  | c :: vs, ys :: xss, h => by
    have := AllRd.len h.2
    simp [this]
theorem AllRd.mono {R' : World → Value → Nat → Nat → List Value → Prop} (hR : ∀ c n cs, R w c 4 n cs → R' w' c 4 n cs) : ∀ {vs : List Value} {xss : List (List Ins)}, AllRd R w vs xss → AllRd R' w' vs xss
  | [], [], _ => trivial
  | [], _ :: _, h => h.elim
  | _ :: _, [], h => h.elim
  | c :: vs, ys :: xss, h => ⟨hR _ _ _ h.1, AllRd.mono hR h.2⟩
theorem RdASS.below {v : Value} {xss : List (List Ins)} (h : RdASS w v xss) (hb : Below w.heap.size w w') : RdASS w' v xss := by
  obtain ⟨vs, h1, h2⟩ := h
  exact ⟨vs, h1.below hb, h2.mono fun _ _ _ h => h.below hb⟩
theorem RdSS.below {v : Value} {xss : List (List Ins)} (h : RdSS w v xss) (hb : Below w.heap.size w w') : RdSS w' v xss := by
  obtain ⟨vs, h1, h2⟩ := h
  exact ⟨vs, h1.below hb, h2.mono fun _ _ _ h => h.below hb⟩
theorem InSS.rd : ∀ {vs : List Value} {xss : List (List Ins)} {bss : List (List Nat)}, InSS w vs xss bss → AllRd Rd w vs xss
  | [], [], [], _ => trivial
  | c :: vs, xs :: xss, b :: bss, h => ⟨h.1.rd, InSS.rd h.2.2⟩
  | [], [], _ :: _, h => h.elim
  | [], _ :: _, _, h => h.elim
  | _ :: _, [], _, h => h.elim
  | _ :: _, _ :: _, [], h => h.elim
theorem InSS.lt : ∀ {vs : List Value} {xss : List (List Ins)} {bss : List (List Nat)}, InSS w vs xss bss → ∀ b ∈ bss.flatten, b < w.heap.size
  | [], [], [], _ => by simp
  | c :: vs, xs :: xss, b :: bss, h => by
    intro x hx
    rw [List.flatten_cons] at hx
    rcases List.mem_append.1 hx with hx | hx
    · exact h.1.lt x hx
    · exact InSS.lt h.2.2 x hx
  | [], [], _ :: _, h => h.elim
  | [], _ :: _, _, h => h.elim
  | _ :: _, [], _, h => h.elim
  | _ :: _, _ :: _, [], h => h.elim
theorem InSS.of_blocks (hs : w.heap.size ≤ w'.heap.size) : ∀ {vs : List Value} {xss : List (List Ins)} {bss : List (List Nat)}, InSS w vs xss bss → (∀ b ∈ bss.flatten, w'.heap[b]? = w.heap[b]?) → InSS w' vs xss bss
  | [], [], [], _, _ => trivial
  | c :: vs, xs :: xss, b :: bss, h, hk => ⟨h.1.of_blocks hs fun x hx => hk x (by simp [hx]), h.2.1, InSS.of_blocks hs h.2.2 fun x hx => hk x (by rw [List.flatten_cons]; exact List.mem_append.2 (.inr hx))⟩
  | [], [], _ :: _, h, _ => h.elim
  | [], _ :: _, _, h, _ => h.elim
  | _ :: _, [], _, h, _ => h.elim
  | _ :: _, _ :: _, [], h, _ => h.elim
theorem InSS.snoc {c : Value} {xs : List Ins} {b : List Nat} (hc : Own w c 4 xs.length (flc xs) b) : ∀ {vs : List Value} {xss : List (List Ins)} {bss : List (List Nat)}, InSS w vs xss bss → (∀ x ∈ bss.flatten, ∀ y ∈ b, x ≠ y) →
    InSS w (vs ++ [c]) (xss ++ [xs]) (bss ++ [b])
  | [], [], [], _, _ => ⟨hc, by simp, trivial⟩
  | d :: vs, ys :: xss, a :: bss, h, hk => by
    refine ⟨h.1, ?_, InSS.snoc hc h.2.2 fun x hx => hk x (by rw [List.flatten_cons]; exact List.mem_append.2 (.inr hx))⟩
    intro x hx y hy
    rw [show bss.append [b] = bss ++ [b] from rfl, List.flatten_append] at hy
    rcases List.mem_append.1 hy with hy | hy
    · exact h.2.1 x hx y hy
    · exact hk x (by simp [hx]) y (by simpa using hy)
  | [], [], _ :: _, h, _ => h.elim
  | [], _ :: _, _, h, _ => h.elim
  | _ :: _, [], _, h, _ => h.elim
  | _ :: _, _ :: _, [], h, _ => h.elim
theorem OwnSS.rd {v : Value} {xss : List (List Ins)} {bs : List Nat} (h : OwnSS w v xss bs) : RdSS w v xss := by
  obtain ⟨vs, b0, bss, h1, h2, -⟩ := h
  exact ⟨vs, h1.rd, h2.rd⟩
theorem OwnSS.lt {v : Value} {xss : List (List Ins)} {bs : List Nat} (h : OwnSS w v xss bs) : ∀ b ∈ bs, b < w.heap.size := by
  obtain ⟨vs, b0, bss, h1, h2, rfl, -⟩ := h
  intro b hb
  rcases List.mem_append.1 hb with hb | hb
  · exact h1.lt b hb
  · exact h2.lt b hb
theorem OwnSS.of_blocks {v : Value} {xss : List (List Ins)} {bs : List Nat} (h : OwnSS w v xss bs) (hs : w.heap.size ≤ w'.heap.size) (hk : ∀ b ∈ bs, w'.heap[b]? = w.heap[b]?) : OwnSS w' v xss bs := by
  obtain ⟨vs, b0, bss, h1, h2, rfl, h3⟩ := h
  exact ⟨vs, b0, bss, h1.of_blocks hs fun b hb => hk b (List.mem_append.2 (.inl hb)), h2.of_blocks hs fun b hb => hk b (List.mem_append.2 (.inr hb)), rfl, h3⟩
theorem OwnSS.below {v : Value} {xss : List (List Ins)} {bs : List Nat} (h : OwnSS w v xss bs) (hb : Below w.heap.size w w') : OwnSS w' v xss bs := h.of_blocks hb.size fun b hm => hb.block b (h.lt b hm)
theorem OwnSS.only {v : Value} {xss : List (List Ins)} {bs ks : List Nat} (h : OwnSS w v xss bs) (hb : Only ks w w') (hd : ∀ b ∈ bs, b ∉ ks) : OwnSS w' v xss bs := h.of_blocks hb.size fun b hm => hb.block b (h.lt b hm) (hd b hm)
theorem OwnSS.far {v : Value} {xss : List (List Ins)} {bs : List Nat} {b i : Nat} {u : Value} (h : OwnSS w v xss bs) (hb : ∀ k ∈ bs, k ≠ b) : OwnSS (w.setCell ⟨b, i, none⟩ u) v xss bs :=
  h.only (Only.setCell w u) fun k hk hm => hb k hk (by simpa using hm)
theorem OwnSS.nil (w : World) : OwnSS w (.slice none 0 0) [] [] := ⟨[], [], [], Own.nil _ _, trivial, rfl, by simp⟩
theorem OwnSS.slice {v : Value} {xss : List (List Ins)} {bs : List Nat} (h : OwnSS w v xss bs) : ∃ A c, v = .slice A xss.length c ∧ xss.length ≤ c ∧ c ≤ 9223372036854775807 := by
  obtain ⟨vs, b0, bss, h1, -⟩ := h
  exact h1.slice
end
end Go.Proofs.Ytkpgjeeofghldaa
