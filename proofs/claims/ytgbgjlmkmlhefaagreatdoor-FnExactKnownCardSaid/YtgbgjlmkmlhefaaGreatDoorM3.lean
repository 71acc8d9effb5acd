/- Contracts of the laws' helpers over lists of codes and programs: size, copy, equality. Condition: the size that the law bounds. -/
import Derived.Test.YtgbgjlmkmlhefaaGreatDoorM2
namespace Go.Proofs.YtgbgjlmkmlhefaaGreatDoor
set_option maxRecDepth 20000
set_option linter.unusedSimpArgs false
set_option linter.unusedVariables false
open Go.ChangeShapes Go.WideShapes Go.ChangeAt Go.RowKit
/-- the values vs can be read as the codes xss -/
def AllRd (R : World → Value → Nat → Nat → List Value → Prop) (w : World) : List Value → List (List Ins) → Prop
  | [], [] => True
  | c :: vs, xs :: xss => R w c 4 xs.length (flc xs) ∧ AllRd R w vs xss
  | _, _ => False
def RdASS (w : World) (v : Value) (xss : List (List Ins)) : Prop := ∃ vs, RdA w v 1 xss.length vs ∧ AllRd RdA w vs xss
def RdSS (w : World) (v : Value) (xss : List (List Ins)) : Prop := ∃ vs, Rd w v 1 xss.length vs ∧ AllRd Rd w vs xss
def InSS (w : World) : List Value → List (List Ins) → List (List Nat) → Prop
  | [], [], [] => True
  | c :: vs, xs :: xss, b :: bss => Own w c 4 xs.length (flc xs) b ∧ (∀ x ∈ b, ∀ y ∈ bss.flatten, x ≠ y) ∧ InSS w vs xss bss
  | _, _, _ => False
/-- the list of codes lies in blocks of its own -/
def OwnSS (w : World) (v : Value) (xss : List (List Ins)) (bs : List Nat) : Prop :=
  ∃ vs b0 bss, Own w v 1 xss.length vs b0 ∧ InSS w vs xss bss ∧ bs = b0 ++ bss.flatten ∧ (∀ x ∈ b0, ∀ y ∈ bss.flatten, x ≠ y)
def totSS (xss : List (List Ins)) : Nat := xss.length + (xss.map List.length).sum
theorem le_sums : ∀ {xss : List (List Ins)} {xs : List Ins}, xs ∈ xss → xs.length ≤ (xss.map List.length).sum
  | [], _, h => by simp at h
  | ys :: xss, xs, h => by
    rw [List.map_cons, List.sum_cons]
    rcases List.mem_cons.1 h with rfl | h
    · omega
    · have := le_sums h
      omega
theorem totSS_mem {xss : List (List Ins)} {xs : List Ins} (h : xs ∈ xss) : xs.length ≤ totSS xss := by
  have := le_sums h
  unfold totSS
  omega
theorem totSS_take {xss : List (List Ins)} {k : Nat} {xs : List Ins} (h : xss[k]? = some xs) : ((xss.take (k + 1)).map List.length).sum = ((xss.take k).map List.length).sum + xs.length := by
  rw [List.take_add_one, h]
  simp
theorem totSS_sub (xss : List (List Ins)) (k : Nat) : xss.length + ((xss.take k).map List.length).sum ≤ totSS xss := by
  unfold totSS
  have : ((xss.take k).map List.length).sum + ((xss.drop k).map List.length).sum = (xss.map List.length).sum := by
    rw [← List.sum_append, ← List.map_append, List.take_append_drop]
  omega
section
variable {w w' : World} {R : World → Value → Nat → Nat → List Value → Prop}
theorem AllRd.at_ : ∀ {vs : List Value} {xss : List (List Ins)} {k : Nat} {xs : List Ins}, AllRd R w vs xss → xss[k]? = some xs → ∃ c, vs[k]? = some c ∧ R w c 4 xs.length (flc xs)
  | [], [], k, xs, _, h => by simp at h
  | [], _ :: _, _, _, h, _ => h.elim
  | _ :: _, [], _, _, h, _ => h.elim
  | c :: vs, ys :: xss, 0, xs, h, hk => by
    simp only [List.getElem?_cons_zero, Option.some.injEq] at hk
    subst hk
    exact ⟨c, rfl, h.1⟩
  | c :: vs, ys :: xss, k + 1, xs, h, hk => AllRd.at_ (k := k) h.2 (by simpa using hk)
theorem AllRd.len : ∀ {vs : List Value} {xss : List (List Ins)}, AllRd R w vs xss → vs.length = xss.length
  | [], [], _ => rfl
  | [], _ :: _, h => h.elim
  | _ :: _, [], h => h.elim
  | c :: vs, ys :: xss, h => by
    have := AllRd.len h.2
    simp [this]
theorem AllRd.mono {R' : World → Value → Nat → Nat → List Value → Prop} (hR : ∀ c n cs, R w c 4 n cs → R' w' c 4 n cs) : ∀ {vs : List Value} {xss : List (List Ins)}, AllRd R w vs xss → AllRd R' w' vs xss
  | [], [], _ => trivial
  | [], _ :: _, h => h.elim
  | _ :: _, [], h => h.elim
  | c :: vs, ys :: xss, h => ⟨hR _ _ _ h.1, AllRd.mono hR h.2⟩
theorem RdASS.below {v : Value} {xss : List (List Ins)} (h : RdASS w v xss) (hb : Below w.heap.size w w') : RdASS w' v xss := by
  obtain ⟨vs, h1, h2⟩ := h
  exact ⟨vs, h1.below hb, h2.mono fun _ _ _ h => h.below hb⟩
theorem RdSS.below {v : Value} {xss : List (List Ins)} (h : RdSS w v xss) (hb : Below w.heap.size w w') : RdSS w' v xss := by
  obtain ⟨vs, h1, h2⟩ := h
  exact ⟨vs, h1.below hb, h2.mono fun _ _ _ h => h.below hb⟩
theorem InSS.rd : ∀ {vs : List Value} {xss : List (List Ins)} {bss : List (List Nat)}, InSS w vs xss bss → AllRd Rd w vs xss
  | [], [], [], _ => trivial
  | c :: vs, xs :: xss, b :: bss, h => ⟨h.1.rd, InSS.rd h.2.2⟩
  | [], [], _ :: _, h => h.elim
  | [], _ :: _, _, h => h.elim
  | _ :: _, [], _, h => h.elim
  | _ :: _, _ :: _, [], h => h.elim
theorem InSS.lt : ∀ {vs : List Value} {xss : List (List Ins)} {bss : List (List Nat)}, InSS w vs xss bss → ∀ b ∈ bss.flatten, b < w.heap.size
  | [], [], [], _ => by simp
  | c :: vs, xs :: xss, b :: bss, h => by
    intro x hx
    rw [List.flatten_cons] at hx
    rcases List.mem_append.1 hx with hx | hx
    · exact h.1.lt x hx
    · exact InSS.lt h.2.2 x hx
  | [], [], _ :: _, h => h.elim
  | [], _ :: _, _, h => h.elim
  | _ :: _, [], _, h => h.elim
  | _ :: _, _ :: _, [], h => h.elim
theorem InSS.of_blocks (hs : w.heap.size ≤ w'.heap.size) : ∀ {vs : List Value} {xss : List (List Ins)} {bss : List (List Nat)}, InSS w vs xss bss → (∀ b ∈ bss.flatten, w'.heap[b]? = w.heap[b]?) → InSS w' vs xss bss
  | [], [], [], _, _ => trivial
  | c :: vs, xs :: xss, b :: bss, h, hk => ⟨h.1.of_blocks hs fun x hx => hk x (by simp [hx]), h.2.1, InSS.of_blocks hs h.2.2 fun x hx => hk x (by rw [List.flatten_cons]; exact List.mem_append.2 (.inr hx))⟩
  | [], [], _ :: _, h, _ => h.elim
  | [], _ :: _, _, h, _ => h.elim
  | _ :: _, [], _, h, _ => h.elim
  | _ :: _, _ :: _, [], h, _ => h.elim
theorem InSS.snoc {c : Value} {xs : List Ins} {b : List Nat} (hc : Own w c 4 xs.length (flc xs) b) : ∀ {vs : List Value} {xss : List (List Ins)} {bss : List (List Nat)}, InSS w vs xss bss → (∀ x ∈ bss.flatten, ∀ y ∈ b, x ≠ y) →
    InSS w (vs ++ [c]) (xss ++ [xs]) (bss ++ [b])
  | [], [], [], _, _ => ⟨hc, by simp, trivial⟩
  | d :: vs, ys :: xss, a :: bss, h, hk => by
    refine ⟨h.1, ?_, InSS.snoc hc h.2.2 fun x hx => hk x (by rw [List.flatten_cons]; exact List.mem_append.2 (.inr hx))⟩
    intro x hx y hy
    rw [show bss.append [b] = bss ++ [b] from rfl, List.flatten_append] at hy
    rcases List.mem_append.1 hy with hy | hy
    · exact h.2.1 x hx y hy
    · exact hk x (by simp [hx]) y (by simpa using hy)
  | [], [], _ :: _, h, _ => h.elim
  | [], _ :: _, _, h, _ => h.elim
  | _ :: _, [], _, h, _ => h.elim
  | _ :: _, _ :: _, [], h, _ => h.elim
theorem OwnSS.rd {v : Value} {xss : List (List Ins)} {bs : List Nat} (h : OwnSS w v xss bs) : RdSS w v xss := by
  obtain ⟨vs, b0, bss, h1, h2, -⟩ := h
  exact ⟨vs, h1.rd, h2.rd⟩
theorem OwnSS.lt {v : Value} {xss : List (List Ins)} {bs : List Nat} (h : OwnSS w v xss bs) : ∀ b ∈ bs, b < w.heap.size := by
  obtain ⟨vs, b0, bss, h1, h2, rfl, -⟩ := h
  intro b hb
  rcases List.mem_append.1 hb with hb | hb
  · exact h1.lt b hb
  · exact h2.lt b hb
theorem OwnSS.of_blocks {v : Value} {xss : List (List Ins)} {bs : List Nat} (h : OwnSS w v xss bs) (hs : w.heap.size ≤ w'.heap.size) (hk : ∀ b ∈ bs, w'.heap[b]? = w.heap[b]?) : OwnSS w' v xss bs := by
  obtain ⟨vs, b0, bss, h1, h2, rfl, h3⟩ := h
  exact ⟨vs, b0, bss, h1.of_blocks hs fun b hb => hk b (List.mem_append.2 (.inl hb)), h2.of_blocks hs fun b hb => hk b (List.mem_append.2 (.inr hb)), rfl, h3⟩
theorem OwnSS.below {v : Value} {xss : List (List Ins)} {bs : List Nat} (h : OwnSS w v xss bs) (hb : Below w.heap.size w w') : OwnSS w' v xss bs := h.of_blocks hb.size fun b hm => hb.block b (h.lt b hm)
theorem OwnSS.only {v : Value} {xss : List (List Ins)} {bs ks : List Nat} (h : OwnSS w v xss bs) (hb : Only ks w w') (hd : ∀ b ∈ bs, b ∉ ks) : OwnSS w' v xss bs := h.of_blocks hb.size fun b hm => hb.block b (h.lt b hm) (hd b hm)
theorem OwnSS.far {v : Value} {xss : List (List Ins)} {bs : List Nat} {b i : Nat} {u : Value} (h : OwnSS w v xss bs) (hb : ∀ k ∈ bs, k ≠ b) : OwnSS (w.setCell ⟨b, i, none⟩ u) v xss bs :=
  h.only (Only.setCell w u) fun k hk hm => hb k hk (by simpa using hm)
theorem OwnSS.nil (w : World) : OwnSS w (.slice none 0 0) [] [] := ⟨[], [], [], Own.nil _ _, trivial, rfl, by simp⟩
theorem OwnSS.slice {v : Value} {xss : List (List Ins)} {bs : List Nat} (h : OwnSS w v xss bs) : ∃ A c, v = .slice A xss.length c ∧ xss.length ≤ c ∧ c ≤ 9223372036854775807 := by
  obtain ⟨vs, b0, bss, h1, -⟩ := h
  exact h1.slice
end
set_option maxHeartbeats 1600000 in
theorem eqInstrSS (v u : Value) (xs ys : List (List Ins)) (w : World) (h : RdSS w v xs) (h' : RdSS w u ys) :
    Calls Tryz.prog 43 #[v, u] w fun e w' => e = .returned (.bool (decide (xs = ys))) ∧ Below w.heap.size w w' := by
  obtain ⟨vs, ⟨A, c, rfl, -, hnc, hc, hr⟩, hin⟩ := h
  obtain ⟨vs', ⟨A', c', rfl, -, hnc', hc', hr'⟩, hin'⟩ := h'
  unfold maxLen at hc hc'
  by_cases hlen : xs.length = ys.length
  · have hne : ((xs.length : Int) != (ys.length : Int)) = false := by simp [hlen]
    have hlen' : xs.length ≤ ys.length ∧ ys.length ≤ xs.length := by omega
    clear hlen
    go_enter Tryz.func43, Tryz.ntmps43
    go_wp2_with fail
    go_loopw [5] (fun i wr => ∃ k : Nat, k ≤ xs.length ∧ i = .int .i64 k ∧ Hid (xs.take k = ys.take k) ∧ Below w.heap.size w wr) (fun i _ => xs.length - (intOf i).toNat)
    case atStart => exact ⟨0, Nat.zero_le _, rfl, Lib.hid (by simp), Below.refl _ _⟩
    case round =>
      obtain ⟨k, hk, rfl, HT, hB⟩ := hrel
      by_cases hlt : k < xs.length
      · obtain ⟨b, o, rfl, hb, hcell⟩ := hr (by omega)
        obtain ⟨b', o', rfl, hb', hcell'⟩ := hr' (by omega)
        have hlt2 : k < ys.length := by omega
        have hlt3 : ((k : Int) < ys.length) := by omega
        have hxk : xs[k]? = some xs[k] := List.getElem?_eq_getElem hlt
        have hyk : ys[k]? = some ys[k] := List.getElem?_eq_getElem hlt2
        generalize xs[k] = x at hxk
        generalize ys[k] = y at hyk
        obtain ⟨ck, hck, hrk⟩ := hin.at_ hxk
        obtain ⟨ck', hck', hrk'⟩ := hin'.at_ hyk
        have hx := (hB.cell (p := ⟨b, o + k, none⟩) hb).trans (hcell k _ hck)
        have hy := (hB.cell (p := ⟨b', o' + k, none⟩) hb').trans (hcell' k _ hck')
        have lb : b < wr.heap.size := Nat.lt_of_lt_of_le hb hB.size
        have lb' : b' < wr.heap.size := Nat.lt_of_lt_of_le hb' hB.size
        have px := Past.cell lb hx
        have py := Past.cell lb' hy
        have hq := fun p : Past wr => eqInstrS ck ck' x y p.v ((hrk.below hB).below p.hb) ((hrk'.below hB).below p.hb)
        have HXY := Lib.hid (And.intro hxk hyk)
        have HB := Lib.hid hB
        obtain ⟨Ak, dk, rfl, -, -, -, -⟩ := id hrk
        obtain ⟨Ak', dk', rfl, -, -, -, -⟩ := id hrk'
        clear hcell hcell' hr hr' hin hin' hxk hyk hck hck' hB hrk hrk'
        cases hd : decide (x = y)
        · have hn : decide (xs = ys) = false := by
            rw [decide_eq_false_iff_not]
            rintro rfl
            have := HXY.out.1.symm.trans HXY.out.2
            injection this with this
            simp [this] at hd
          have HN := Lib.hid hn
          rw [hd] at hq
          have HQ := Lib.hid hq
          clear hn hd hq
          go_wp2_with fail
          refine wp_region_past (by kernel_rfl) (by kernel_rfl) ?_
          repeat (go_big_quiet_step (first | (go_at_call 71; exact Calls.past_of (HQ.out _))))
          refine wpQuiet_nil ?_
          intro _ hw'
          obtain ⟨p, rfl⟩ := hw'
          go_wp2_with fail
          go_ret
          exact ⟨ret_bool HN.out.symm, HB.out.trans (p.hb.mono HB.out.size)⟩
        · have HE := Lib.hid (show x = y by simpa using hd)
          rw [hd] at hq
          have HQ := Lib.hid hq
          clear hd hq
          go_wp2_with fail
          refine wp_region_past (by kernel_rfl) (by kernel_rfl) ?_
          repeat (go_big_quiet_step (first | (go_at_call 71; exact Calls.past_of (HQ.out _))))
          refine wpQuiet_nil ?_
          intro _ hw'
          obtain ⟨p, rfl⟩ := hw'
          go_wp2_with fail
          exact ⟨⟨k + 1, by omega, by go_num, Lib.hid (take_snoc_eq HT.out (HXY.out.1.trans (by rw [HXY.out.2, HE.out]))), HB.out.trans (p.hb.mono HB.out.size)⟩, by simp [intOf]; omega⟩
      · clear hr hr' hin hin'
        go_wp2_with fail
        go_ret
        refine ⟨ret_bool ?_, hB⟩
        have h1 := HT.out
        rw [List.take_of_length_le (by omega), List.take_of_length_le (by omega)] at h1
        simp [h1]
  · have hne : ((xs.length : Int) != (ys.length : Int)) = true := by simp; omega
    go_enter Tryz.func43, Tryz.ntmps43
    go_wp2_with fail
    go_ret
    exact ⟨ret_bool (by simp; intro e; exact hlen (by rw [e])), Below.refl _ _⟩
end Go.Proofs.YtgbgjlmkmlhefaaGreatDoor
