/- Contracts of the laws' helpers over lists of codes and programs: size, copy, equality. Condition: the size that the law bounds. -/
import Derived.Test.YtgbgjlmkmlhefaaM2
namespace Go.Proofs.Ytgbgjlmkmlhefaa
set_option maxRecDepth 20000
set_option linter.unusedSimpArgs false
set_option linter.unusedVariables false
open Go.ChangeShapes Go.WideShapes Go.ChangeAt Go.RowKit
/-- the values vs can be read as the codes xss -/
def AllRd (R : World → Value → Nat → Nat → List Value → Prop) (w : World) : List Value → List (List Ins) → Prop
  | [], [] => True
  | c :: vs, xs :: xss => R w c 4 xs.length (flc xs) ∧ AllRd R w vs xss
  | _, _ => False
def RdASS (w : World) (v : Value) (xss : List (List Ins)) : Prop := ∃ vs, RdA w v 1 xss.length vs ∧ AllRd RdA w vs xss
def RdSS (w : World) (v : Value) (xss : List (List Ins)) : Prop := ∃ vs, Rd w v 1 xss.length vs ∧ AllRd Rd w vs xss
def InSS (w : World) : List Value → List (List Ins) → List (List Nat) → Prop
  | [], [], [] => True
  | c :: vs, xs :: xss, b :: bss => Own w c 4 xs.length (flc xs) b ∧ (∀ x ∈ b, ∀ y ∈ bss.flatten, x ≠ y) ∧ InSS w vs xss bss
  | _, _, _ => False
/-- the list of codes lies in blocks of its own -/
def OwnSS (w : World) (v : Value) (xss : List (List Ins)) (bs : List Nat) : Prop :=
  ∃ vs b0 bss, Own w v 1 xss.length vs b0 ∧ InSS w vs xss bss ∧ bs = b0 ++ bss.flatten ∧ (∀ x ∈ b0, ∀ y ∈ bss.flatten, x ≠ y)
def totSS (xss : List (List Ins)) : Nat := xss.length + (xss.map List.length).sum
theorem le_sums : ∀ {xss : List (List Ins)} {xs : List Ins}, xs ∈ xss → xs.length ≤ (xss.map List.length).sum
  | [], _, h => by simp at h
  | ys :: xss, xs, h => by
    rw [List.map_cons, List.sum_cons]
    rcases List.mem_cons.1 h with rfl | h
    · omega
    · have := le_sums h
      omega
theorem totSS_mem {xss : List (List Ins)} {xs : List Ins} (h : xs ∈ xss) : xs.length ≤ totSS xss := by
  have := le_sums h
  unfold totSS
  omega
theorem totSS_take {xss : List (List Ins)} {k : Nat} {xs : List Ins} (h : xss[k]? = some xs) : ((xss.take (k + 1)).map List.length).sum = ((xss.take k).map List.length).sum + xs.length := by
  rw [List.take_add_one, h]
  simp
theorem totSS_sub (xss : List (List Ins)) (k : Nat) : xss.length + ((xss.take k).map List.length).sum ≤ totSS xss := by
  unfold totSS
  have : ((xss.take k).map List.length).sum + ((xss.drop k).map List.length).sum = (xss.map List.length).sum := by
    rw [← List.sum_append, ← List.map_append, List.take_append_drop]
  omega
section
variable {w w' : World} {R : World → Value → Nat → Nat → List Value → Prop}
theorem AllRd.at_ : ∀ {vs : List Value} {xss : List (List Ins)} {k : Nat} {xs : List Ins}, AllRd R w vs xss → xss[k]? = some xs → ∃ c, vs[k]? = some c ∧ R w c 4 xs.length (flc xs)
  | [], [], k, xs, _, h => by simp at h
  | [], _ :: _, _, _, h, _ => h.elim
  | _ :: _, [], _, _, h, _ => h.elim
  | c :: vs, ys :: xss, 0, xs, h, hk => by
    simp only [List.getElem?_cons_zero, Option.some.injEq] at hk
    subst hk
    exact ⟨c, rfl, h.1⟩
  | c :: vs, ys :: xss, k + 1, xs, h, hk => AllRd.at_ (k := k) h.2 (by simpa using hk)
theorem AllRd.len : ∀ {vs : List Value} {xss : List (List Ins)}, AllRd R w vs xss → vs.length = xss.length
  | [], [], _ => rfl
  | [], _ :: _, h => h.elim
  | _ :: _, [], h => h.elim
  | c :: vs, ys :: xss, h => by
    have := AllRd.len h.2
    simp [this]
theorem AllRd.mono {R' : World → Value → Nat → Nat → List Value → Prop} (hR : ∀ c n cs, R w c 4 n cs → R' w' c 4 n cs) : ∀ {vs : List Value} {xss : List (List Ins)}, AllRd R w vs xss → AllRd R' w' vs xss
  | [], [], _ => trivial
  | [], _ :: _, h => h.elim
  | _ :: _, [], h => h.elim
  | c :: vs, ys :: xss, h => ⟨hR _ _ _ h.1, AllRd.mono hR h.2⟩
theorem RdASS.below {v : Value} {xss : List (List Ins)} (h : RdASS w v xss) (hb : Below w.heap.size w w') : RdASS w' v xss := by
  obtain ⟨vs, h1, h2⟩ := h
  exact ⟨vs, h1.below hb, h2.mono fun _ _ _ h => h.below hb⟩
theorem RdSS.below {v : Value} {xss : List (List Ins)} (h : RdSS w v xss) (hb : Below w.heap.size w w') : RdSS w' v xss := by
  obtain ⟨vs, h1, h2⟩ := h
  exact ⟨vs, h1.below hb, h2.mono fun _ _ _ h => h.below hb⟩
theorem InSS.rd : ∀ {vs : List Value} {xss : List (List Ins)} {bss : List (List Nat)}, InSS w vs xss bss → AllRd Rd w vs xss
  | [], [], [], _ => trivial
  | c :: vs, xs :: xss, b :: bss, h => ⟨h.1.rd, InSS.rd h.2.2⟩
  | [], [], _ :: _, h => h.elim
  | [], _ :: _, _, h => h.elim
  | _ :: _, [], _, h => h.elim
  | _ :: _, _ :: _, [], h => h.elim
theorem InSS.lt : ∀ {vs : List Value} {xss : List (List Ins)} {bss : List (List Nat)}, InSS w vs xss bss → ∀ b ∈ bss.flatten, b < w.heap.size
  | [], [], [], _ => by simp
  | c :: vs, xs :: xss, b :: bss, h => by
    intro x hx
    rw [List.flatten_cons] at hx
    rcases List.mem_append.1 hx with hx | hx
    · exact h.1.lt x hx
    · exact InSS.lt h.2.2 x hx
  | [], [], _ :: _, h => h.elim
  | [], _ :: _, _, h => h.elim
  | _ :: _, [], _, h => h.elim
  | _ :: _, _ :: _, [], h => h.elim
theorem InSS.of_blocks (hs : w.heap.size ≤ w'.heap.size) : ∀ {vs : List Value} {xss : List (List Ins)} {bss : List (List Nat)}, InSS w vs xss bss → (∀ b ∈ bss.flatten, w'.heap[b]? = w.heap[b]?) → InSS w' vs xss bss
  | [], [], [], _, _ => trivial
  | c :: vs, xs :: xss, b :: bss, h, hk => ⟨h.1.of_blocks hs fun x hx => hk x (by simp [hx]), h.2.1, InSS.of_blocks hs h.2.2 fun x hx => hk x (by rw [List.flatten_cons]; exact List.mem_append.2 (.inr hx))⟩
  | [], [], _ :: _, h, _ => h.elim
  | [], _ :: _, _, h, _ => h.elim
  | _ :: _, [], _, h, _ => h.elim
  | _ :: _, _ :: _, [], h, _ => h.elim
theorem InSS.snoc {c : Value} {xs : List Ins} {b : List Nat} (hc : Own w c 4 xs.length (flc xs) b) : ∀ {vs : List Value} {xss : List (List Ins)} {bss : List (List Nat)}, InSS w vs xss bss → (∀ x ∈ bss.flatten, ∀ y ∈ b, x ≠ y) →
    InSS w (vs ++ [c]) (xss ++ [xs]) (bss ++ [b])
  | [], [], [], _, _ => ⟨hc, by simp, trivial⟩
  | d :: vs, ys :: xss, a :: bss, h, hk => by
    refine ⟨h.1, ?_, InSS.snoc hc h.2.2 fun x hx => hk x (by rw [List.flatten_cons]; exact List.mem_append.2 (.inr hx))⟩
    intro x hx y hy
    rw [show bss.append [b] = bss ++ [b] from rfl, List.flatten_append] at hy
    rcases List.mem_append.1 hy with hy | hy
    · exact h.2.1 x hx y hy
    · exact hk x (by simp [hx]) y (by simpa using hy)
  | [], [], _ :: _, h, _ => h.elim
  | [], _ :: _, _, h, _ => h.elim
  | _ :: _, [], _, h, _ => h.elim
  | _ :: _, _ :: _, [], h, _ => h.elim
theorem OwnSS.rd {v : Value} {xss : List (List Ins)} {bs : List Nat} (h : OwnSS w v xss bs) : RdSS w v xss := by
  obtain ⟨vs, b0, bss, h1, h2, -⟩ := h
  exact ⟨vs, h1.rd, h2.rd⟩
theorem OwnSS.lt {v : Value} {xss : List (List Ins)} {bs : List Nat} (h : OwnSS w v xss bs) : ∀ b ∈ bs, b < w.heap.size := by
  obtain ⟨vs, b0, bss, h1, h2, rfl, -⟩ := h
  intro b hb
  rcases List.mem_append.1 hb with hb | hb
  · exact h1.lt b hb
  · exact h2.lt b hb
theorem OwnSS.of_blocks {v : Value} {xss : List (List Ins)} {bs : List Nat} (h : OwnSS w v xss bs) (hs : w.heap.size ≤ w'.heap.size) (hk : ∀ b ∈ bs, w'.heap[b]? = w.heap[b]?) : OwnSS w' v xss bs := by
  obtain ⟨vs, b0, bss, h1, h2, rfl, h3⟩ := h
  exact ⟨vs, b0, bss, h1.of_blocks hs fun b hb => hk b (List.mem_append.2 (.inl hb)), h2.of_blocks hs fun b hb => hk b (List.mem_append.2 (.inr hb)), rfl, h3⟩
theorem OwnSS.below {v : Value} {xss : List (List Ins)} {bs : List Nat} (h : OwnSS w v xss bs) (hb : Below w.heap.size w w') : OwnSS w' v xss bs := h.of_blocks hb.size fun b hm => hb.block b (h.lt b hm)
theorem OwnSS.only {v : Value} {xss : List (List Ins)} {bs ks : List Nat} (h : OwnSS w v xss bs) (hb : Only ks w w') (hd : ∀ b ∈ bs, b ∉ ks) : OwnSS w' v xss bs := h.of_blocks hb.size fun b hm => hb.block b (h.lt b hm) (hd b hm)
theorem OwnSS.far {v : Value} {xss : List (List Ins)} {bs : List Nat} {b i : Nat} {u : Value} (h : OwnSS w v xss bs) (hb : ∀ k ∈ bs, k ≠ b) : OwnSS (w.setCell ⟨b, i, none⟩ u) v xss bs :=
  h.only (Only.setCell w u) fun k hk hm => hb k hk (by simpa using hm)
theorem OwnSS.nil (w : World) : OwnSS w (.slice none 0 0) [] [] := ⟨[], [], [], Own.nil _ _, trivial, rfl, by simp⟩
theorem OwnSS.slice {v : Value} {xss : List (List Ins)} {bs : List Nat} (h : OwnSS w v xss bs) : ∃ A c, v = .slice A xss.length c ∧ xss.length ≤ c ∧ c ≤ 9223372036854775807 := by
  obtain ⟨vs, b0, bss, h1, -⟩ := h
  exact h1.slice
end
set_option maxHeartbeats 800000 in
theorem szInstrSS (v : Value) (xss : List (List Ins)) (left : Int) (w : World) (h : RdASS w v xss) (hl0 : -1 ≤ left) (hl : left ≤ 1048576) :
    Calls Try.prog 41 #[v, .int .i64 left] w fun e w' => e = .returned (.int .i64 (szF (totSS xss) left)) ∧ w = w' := by
  obtain ⟨vs, ⟨A, c, rfl, -, hnc, hc, hr⟩, hin⟩ := h
  unfold maxLen at hc
  by_cases hx : left - xss.length < 0
  · have hs : Hid (szF (totSS xss) left = -1) := Lib.hid (by unfold szF; rw [if_pos (by unfold totSS; omega)])
    go_enter Try.func41, Try.ntmps41
    go_wp2
    go_ret
    exact ⟨ret_int hs.out.symm, rfl⟩
  · have hx' : 0 ≤ left - xss.length := by omega
    clear hx
    go_enter Try.func41, Try.ntmps41
    go_wp2
    go_loop [1, 5] (fun l i => ∃ (k : Nat) (m : Int), k ≤ xss.length ∧ i = .int .i64 k ∧ l = .int .i64 m ∧ 0 ≤ m ∧ m ≤ 1048576 ∧ Hid (m = left - xss.length - ((xss.take k).map List.length).sum)) (fun _ i => xss.length - (intOf i).toNat)
    case atStart => exact ⟨0, _, Nat.zero_le _, rfl, rfl, hx', by omega, Lib.hid (by simp)⟩
    case round =>
      obtain ⟨k, m, hk, rfl, rfl, hm0, hm1, HM⟩ := hrel
      by_cases hlt : k < xss.length
      · obtain ⟨ad, rfl, hb, hcell⟩ := hr (by omega)
        have hxk : xss[k]? = some xss[k] := List.getElem?_eq_getElem hlt
        generalize xss[k] = xs at hxk
        obtain ⟨ck, hck, hrk⟩ := hin.at_ hxk
        have hx := hcell k _ hck
        have HX := Lib.hid hxk
        have ht := totSS_take hxk
        have hsub := totSS_sub xss (k + 1)
        have HT := Lib.hid (And.intro ht hsub)
        clear hcell hr hin hxk hck ht hsub
        obtain ⟨Ak, dk, rfl, -, -, -, -⟩ := id hrk
        by_cases hneg : m - xs.length < 0
        · have hs : Hid (szF (totSS xss) left = -1) := Lib.hid (by have := HT.out; have := HM.out; unfold szF; rw [if_pos (by omega)])
          have hs1 : szF xs.length m = -1 := by unfold szF; rw [if_pos hneg]
          have HS1 := Lib.hid hs1
          clear hs1
          go_wp2_with fail
          refine (szInstrS _ xs.length (flc xs) m _ hrk (by omega) hm1).mono ?_
          rintro e w1 ⟨rfl, rfl⟩
          rw [HS1.out]
          go_wp2_with fail
          go_ret
          exact ⟨ret_int hs.out.symm, rfl⟩
        · have hs1 : szF xs.length m = m - xs.length := by unfold szF; rw [if_neg hneg]
          have HS1 := Lib.hid hs1
          have hge : 0 ≤ m - xs.length := by omega
          clear hs1 hneg
          go_wp2_with fail
          refine (szInstrS _ xs.length (flc xs) m _ hrk (by omega) hm1).mono ?_
          rintro e w1 ⟨rfl, rfl⟩
          rw [HS1.out]
          go_wp2_with fail
          exact ⟨⟨k + 1, _, by omega, by go_num, rfl, hge, by omega, Lib.hid (by have := HT.out; have := HM.out; omega)⟩, by simp [intOf]; omega⟩
      · obtain rfl : k = xss.length := by omega
        have hs : Hid (szF (totSS xss) left = m) := Lib.hid (by have := HM.out; rw [List.take_length] at this; unfold szF totSS; rw [if_neg (by omega)]; omega)
        clear hr hin
        go_wp2_with fail
        go_ret
        exact ⟨ret_int hs.out.symm, rfl⟩
theorem infoCodes : (Try.prog.info? 57).map (fun i => (i.zero, i.size, i.bytes)) = some (some (.slice none 0 0), 1, 24) := by kernel_rfl
set_option maxHeartbeats 800000 in
theorem toInstrSS (v : Value) (xss : List (List Ins)) (w : World) (h : RdASS w v xss) (hsz : totSS xss ≤ 1048576) :
    Calls Try.prog 44 #[v] w fun e w' => ∃ v' bs, e = .returned v' ∧ OwnSS w' v' xss bs ∧ (∀ b ∈ bs, w.heap.size ≤ b) ∧ Below w.heap.size w w' := by
  obtain ⟨vs0, ⟨A, c, rfl, -, hnc, hc, hr⟩, hin⟩ := h
  unfold maxLen at hc
  have hn : xss.length ≤ 1048576 := by unfold totSS at hsz; omega
  obtain ⟨i, hi, hz0, hz1, hz2⟩ := info_parts infoCodes
  go_enter Try.func44, Try.ntmps44
  go_wp2_with (at_make; refine wpList_make_full _ rfl _ _ 31 rfl w.heap.size 57 i (.slice none 0 0) 1 Try.underlying31 hi hz0 hz1 _ _ _ _ xss.length rfl rfl rfl rfl (by rw [hz2]; omega) (by unfold maxLen; omega) (Nat.le_refl _) ?_)
  intro w1 hown hg1
  rw [toList_madeCells_one] at hown
  have hb1 : Below w.heap.size w w1 := (Below.refl _ _).grown hg1 (Nat.le_refl _) (by simp)
  have hlt0 : w.heap.size < w1.heap.size := (hown.lt _ rfl).2
  go_wp2_with fail
  go_loopw [4] (fun i wr => ∃ (k : Nat) (vs : List Value) (bss : List (List Nat)), k ≤ xss.length ∧ i = .int .i64 k ∧ Hid (vs.length = k) ∧ wr.ownsRow w.heap.size 57 1 (.slice (some ⟨w.heap.size, 0, none⟩) xss.length xss.length) xss.length (vs ++ List.replicate (xss.length - k) (.slice none 0 0)) ∧
    InSS wr vs (xss.take k) bss ∧ Hid (∀ b ∈ bss.flatten, w.heap.size + 1 ≤ b) ∧ Below w.heap.size w wr ∧ w.heap.size < wr.heap.size) (fun i _ => xss.length - (intOf i).toNat)
  case atStart => exact ⟨0, [], [], Nat.zero_le _, rfl, Lib.hid rfl, by simpa using hown, by simpa using (show InSS w1 [] [] [] from trivial), Lib.hid (by simp), hb1, hlt0⟩
  case round =>
    obtain ⟨k, vs, bss, hk, rfl, HL, hO, hI, HBS, hB, hlt1⟩ := hrel
    clear hown hb1 hg1 hlt0
    by_cases hlt : k < xss.length
    · obtain ⟨ad, rfl, hb, hcell⟩ := hr (by omega)
      have hxk : xss[k]? = some xss[k] := List.getElem?_eq_getElem hlt
      generalize xss[k] = xs at hxk
      obtain ⟨ck, hck, hrk⟩ := hin.at_ hxk
      have hx : wr.cell? (ad.add k) = some ck := (hB.cell (p := ad.add k) (by rw [add_block]; exact hb)).trans (hcell k _ hck)
      have hxl : xs.length ≤ 1048576 := Nat.le_trans (totSS_mem (List.mem_of_getElem? hxk)) hsz
      have HX := Lib.hid hxk
      clear hcell hr hin hxk hck
      obtain ⟨Ak, dk, rfl, -, -, -, -⟩ := id hrk
      go_wp2_with fail
      refine (toInstrS _ xs _ (hrk.below hB) hxl).mono ?_
      rintro e w2 ⟨v2, bs2, rfl, ho2, hbs2, hb2⟩
      obtain ⟨A2, c2, rfl, hcc2, hcm2⟩ := ho2.slice
      have hO2 := ownsRow_below hO hb2
      have hI2 := InSS.of_blocks hb2.size hI (fun b hb => hb2.block b (InSS.lt hI b hb))
      have hlt2 := InSS.lt hI
      have hB2 := hB.trans (hb2.mono hB.size)
      have hcA := (hO2.cellAt k (by omega)).trans (show (vs ++ List.replicate (xss.length - k) (Value.slice none 0 0))[k]? = some (.slice none 0 0) by rw [List.getElem?_append_right (by rw [HL.out]; omega), List.getElem?_replicate, if_pos (by rw [HL.out]; omega)])
      have hfA := hO2.frozenAt k
      have hO3 := (hO2.stored k (.slice A2 xs.length c2)).1
      have hset : (vs ++ List.replicate (xss.length - k) (Value.slice none 0 0)).set k (Value.slice A2 xs.length c2) = (vs ++ [Value.slice A2 xs.length c2]) ++ List.replicate (xss.length - (k + 1)) (.slice none 0 0) := by
        rw [List.set_append, if_neg (by rw [HL.out]; omega), HL.out, Nat.sub_self, show xss.length - k = (xss.length - (k + 1)) + 1 from by omega, List.replicate_succ, List.set_cons_zero, List.append_assoc]
        rfl
      rw [hset] at hO3
      have hI3 := InSS.snoc (ho2.far (b := w.heap.size) (i := k) (u := .slice A2 xs.length c2) fun q hq => by have := hbs2 q hq; omega) (InSS.of_blocks (w' := w2.setCell ⟨w.heap.size, k, none⟩ (.slice A2 xs.length c2)) (by simp [World.setCell]) hI2 (fun b hb => Below.heap_setCell _ _ _ _ (by have := HBS.out b hb; show b ≠ w.heap.size; omega)))
        (fun x hx y hy => by have := hlt2 x hx; have := hbs2 y hy; omega)
      have htk : xss.take k ++ [xs] = xss.take (k + 1) := by rw [List.take_add_one, HX.out]; rfl
      rw [htk] at hI3
      have hsz2 := hb2.size
      have HN := Lib.hid (And.intro hO3 hI3)
      clear hset hO2 hO3 hI2 hI3 htk hlt2
      go_wp2_with fail
      refine ⟨⟨k + 1, _, _, by omega, by go_num, Lib.hid (by simp [HL.out]), HN.out.1, HN.out.2, Lib.hid ?_, hB2.setCell (Nat.le_refl _) _, by simp [World.setCell]; omega⟩, by simp [intOf]; omega⟩
      intro b hb
      rw [List.flatten_append] at hb
      rcases List.mem_append.1 hb with hb | hb
      · exact HBS.out b hb
      · have := hbs2 b (by simpa using hb)
        omega
    · go_wp2_with fail
      go_ret
      obtain rfl : k = xss.length := by omega
      rw [Nat.sub_self, List.replicate_zero, List.append_nil] at hO
      rw [List.take_length] at hI
      obtain ⟨bs, h1, h2⟩ := Own.of_owns hO
      have hbs : ∀ b ∈ bs, b = w.heap.size := by
        obtain ⟨A', c', he, -, -, -, ⟨-, rfl⟩ | ⟨-, b, o, rfl, rfl, -⟩⟩ := h1
        · simp
        · injection he with he
          injection he with he
          injection he with he
          simp [← he]
      refine ⟨_, bs ++ bss.flatten, rfl, ⟨vs, bs, bss, h1, hI, rfl, fun x hx y hy => by have := hbs x hx; have := HBS.out y hy; omega⟩, ?_, hB⟩
      intro b hb
      rcases List.mem_append.1 hb with hb | hb
      · exact h2 b hb
      · have := HBS.out b hb
        omega
set_option maxHeartbeats 1600000 in
theorem eqInstrSS (v u : Value) (xs ys : List (List Ins)) (w : World) (h : RdSS w v xs) (h' : RdSS w u ys) :
    Calls Try.prog 47 #[v, u] w fun e w' => e = .returned (.bool (decide (xs = ys))) ∧ Below w.heap.size w w' := by
  obtain ⟨vs, ⟨A, c, rfl, -, hnc, hc, hr⟩, hin⟩ := h
  obtain ⟨vs', ⟨A', c', rfl, -, hnc', hc', hr'⟩, hin'⟩ := h'
  unfold maxLen at hc hc'
  by_cases hlen : xs.length = ys.length
  · have hne : ((xs.length : Int) != (ys.length : Int)) = false := by simp [hlen]
    have hlen' : xs.length ≤ ys.length ∧ ys.length ≤ xs.length := by omega
    clear hlen
    go_enter Try.func47, Try.ntmps47
    go_wp2_with fail
    go_loopw [5] (fun i wr => ∃ k : Nat, k ≤ xs.length ∧ i = .int .i64 k ∧ Hid (xs.take k = ys.take k) ∧ Below w.heap.size w wr) (fun i _ => xs.length - (intOf i).toNat)
    case atStart => exact ⟨0, Nat.zero_le _, rfl, Lib.hid (by simp), Below.refl _ _⟩
    case round =>
      obtain ⟨k, hk, rfl, HT, hB⟩ := hrel
      by_cases hlt : k < xs.length
      · obtain ⟨b, o, rfl, hb, hcell⟩ := hr (by omega)
        obtain ⟨b', o', rfl, hb', hcell'⟩ := hr' (by omega)
        have hlt2 : k < ys.length := by omega
        have hlt3 : ((k : Int) < ys.length) := by omega
        have hxk : xs[k]? = some xs[k] := List.getElem?_eq_getElem hlt
        have hyk : ys[k]? = some ys[k] := List.getElem?_eq_getElem hlt2
        generalize xs[k] = x at hxk
        generalize ys[k] = y at hyk
        obtain ⟨ck, hck, hrk⟩ := hin.at_ hxk
        obtain ⟨ck', hck', hrk'⟩ := hin'.at_ hyk
        have hx := (hB.cell (p := ⟨b, o + k, none⟩) hb).trans (hcell k _ hck)
        have hy := (hB.cell (p := ⟨b', o' + k, none⟩) hb').trans (hcell' k _ hck')
        have lb : b < wr.heap.size := Nat.lt_of_lt_of_le hb hB.size
        have lb' : b' < wr.heap.size := Nat.lt_of_lt_of_le hb' hB.size
        have px := Past.cell lb hx
        have py := Past.cell lb' hy
        have hq := fun p : Past wr => eqInstrS ck ck' x y p.v ((hrk.below hB).below p.hb) ((hrk'.below hB).below p.hb)
        have HXY := Lib.hid (And.intro hxk hyk)
        have HB := Lib.hid hB
        obtain ⟨Ak, dk, rfl, -, -, -, -⟩ := id hrk
        obtain ⟨Ak', dk', rfl, -, -, -, -⟩ := id hrk'
        clear hcell hcell' hr hr' hin hin' hxk hyk hck hck' hB hrk hrk'
        cases hd : decide (x = y)
        · have hn : decide (xs = ys) = false := by
            rw [decide_eq_false_iff_not]
            rintro rfl
            have := HXY.out.1.symm.trans HXY.out.2
            injection this with this
            simp [this] at hd
          have HN := Lib.hid hn
          rw [hd] at hq
          have HQ := Lib.hid hq
          clear hn hd hq
          go_wp2_with fail
          refine wp_region_past (by kernel_rfl) (by kernel_rfl) ?_
          repeat (go_big_quiet_step (first | (go_at_call 38; exact Calls.past_of (HQ.out _))))
          refine wpQuiet_nil ?_
          intro _ hw'
          obtain ⟨p, rfl⟩ := hw'
          go_wp2_with fail
          go_ret
          exact ⟨ret_bool HN.out.symm, HB.out.trans (p.hb.mono HB.out.size)⟩
        · have HE := Lib.hid (show x = y by simpa using hd)
          rw [hd] at hq
          have HQ := Lib.hid hq
          clear hd hq
          go_wp2_with fail
          refine wp_region_past (by kernel_rfl) (by kernel_rfl) ?_
          repeat (go_big_quiet_step (first | (go_at_call 38; exact Calls.past_of (HQ.out _))))
          refine wpQuiet_nil ?_
          intro _ hw'
          obtain ⟨p, rfl⟩ := hw'
          go_wp2_with fail
          exact ⟨⟨k + 1, by omega, by go_num, Lib.hid (take_snoc_eq HT.out (HXY.out.1.trans (by rw [HXY.out.2, HE.out]))), HB.out.trans (p.hb.mono HB.out.size)⟩, by simp [intOf]; omega⟩
      · clear hr hr' hin hin'
        go_wp2_with fail
        go_ret
        refine ⟨ret_bool ?_, hB⟩
        have h1 := HT.out
        rw [List.take_of_length_le (by omega), List.take_of_length_le (by omega)] at h1
        simp [h1]
  · have hne : ((xs.length : Int) != (ys.length : Int)) = true := by simp; omega
    go_enter Try.func47, Try.ntmps47
    go_wp2_with fail
    go_ret
    exact ⟨ret_bool (by simp; intro e; exact hlen (by rw [e])), Below.refl _ _⟩
end Go.Proofs.Ytgbgjlmkmlhefaa
