/- Slices of structs of three integers: the cells are the fields in a row. And the laws' helpers over them. Lengths that a law bounds. -/
import Derived.Test.YtiamkgkhamnaeaaTwo
namespace Go.Proofs.Ytiamkgkhamnaeaa
set_option maxRecDepth 20000
set_option linter.unusedSimpArgs false
set_option linter.unusedVariables false
open Go.ChangeShapes Go.WideShapes Go.ChangeAt Go.RowKit
set_option linter.unusedVariables false
/-- an operation: three integers -/
structure O3 where
  k : Int
  t : Int
  x : Int
deriving DecidableEq
def O3.l (i : O3) : List Int := [i.k, i.t, i.x]
def o3C (i : O3) : List Value := [.int .i64 i.k, .int .i64 i.t, .int .i64 i.x]
def fl3 (xs : List O3) : List Int := xs.flatMap O3.l
def flc3 (xs : List O3) : List Value := ints (fl3 xs)
theorem fl3_cons (i : O3) (xs : List O3) : fl3 (i :: xs) = [i.k, i.t, i.x] ++ fl3 xs := by simp [fl3, O3.l]
theorem fl3_append (xs ys : List O3) : fl3 (xs ++ ys) = fl3 xs ++ fl3 ys := by simp [fl3]
theorem fl3_len (xs : List O3) : (fl3 xs).length = xs.length * 3 := by
  induction xs with
  | nil => rfl
  | cons i xs ih => rw [fl3_cons, List.length_append, ih]; simp; omega
theorem flc3_len (xs : List O3) : (flc3 xs).length = xs.length * 3 := by rw [flc3, ints_len, fl3_len]
theorem flc3_append (xs ys : List O3) : flc3 (xs ++ ys) = flc3 xs ++ flc3 ys := by simp [flc3, fl3_append, ints]
theorem flc3_snoc {xs : List O3} {k : Nat} {x : O3} (h : xs[k]? = some x) : flc3 (xs.take k) ++ o3C x = flc3 (xs.take (k + 1)) := by
  rw [List.take_add_one, h, flc3_append]
  rfl
theorem flc3_at : ∀ {xs : List O3} {k : Nat} {x : O3}, xs[k]? = some x → ∀ j < 3, (flc3 xs)[k * 3 + j]? = (o3C x)[j]?
  | [], k, x, h, j, hj => by simp at h
  | i :: xs, 0, x, h, j, hj => by
    simp only [List.getElem?_cons_zero, Option.some.injEq] at h
    subst h
    have : flc3 (i :: xs) = o3C i ++ flc3 xs := flc3_append [i] xs
    rw [this, List.getElem?_append_left (by simp [o3C]; omega)]
    simp
  | i :: xs, k + 1, x, h, j, hj => by
    have : flc3 (i :: xs) = o3C i ++ flc3 xs := flc3_append [i] xs
    rw [this, List.getElem?_append_right (by simp [o3C]; omega)]
    have e : (k + 1) * 3 + j - (o3C i).length = k * 3 + j := by simp [o3C]; omega
    rw [e]
    exact flc3_at (by simpa using h) j hj
/-- the three cells of an element -/
def O3At (w : World) (b o : Nat) (x : O3) : Prop :=
  w.cell? ⟨b, o, none⟩ = some (.int .i64 x.k) ∧ w.cell? ⟨b, o + 1, none⟩ = some (.int .i64 x.t) ∧ w.cell? ⟨b, o + 2, none⟩ = some (.int .i64 x.x)
theorem o3_at {w : World} {b o k : Nat} {xs : List O3} (hc : ∀ j u, (flc3 xs)[j]? = some u → w.cell? ⟨b, o + j, none⟩ = some u) (h : k < xs.length) :
    ∃ x, Hid (xs[k]? = some x) ∧ O3At w b (o + k * 3) x := by
  have hx : xs[k]? = some xs[k] := List.getElem?_eq_getElem h
  refine ⟨xs[k], Lib.hid hx, ?_, ?_, ?_⟩
  · exact hc (k * 3 + 0) _ (flc3_at hx 0 (by omega))
  · exact hc (k * 3 + 1) _ (flc3_at hx 1 (by omega))
  · exact hc (k * 3 + 2) _ (flc3_at hx 2 (by omega))
def o3Part (xs : List O3) (k : Nat) : List Value := flc3 (xs.take k) ++ List.replicate ((xs.length - k) * 3) (.int .i64 0)
theorem o3Part_zero (xs : List O3) : (madeCells #[.int .i64 0, .int .i64 0, .int .i64 0] (xs.length * 3)).toList = o3Part xs 0 := by
  apply List.ext_getElem?
  intro j
  by_cases hj : j < xs.length * 3
  · have h4 : j % 3 < 3 := Nat.mod_lt _ (by omega)
    have hz : (#[.int .i64 0, .int .i64 0, .int .i64 0] : Array Value)[j % 3]! = .int .i64 0 := by
      have : j % 3 = 0 ∨ j % 3 = 1 ∨ j % 3 = 2 := by omega
      rcases this with h | h | h <;> rw [h] <;> rfl
    have hs : (#[.int .i64 0, .int .i64 0, .int .i64 0] : Array Value).size = 3 := rfl
    simp only [madeCells, Array.toList_map, List.getElem?_map, Array.toList_range, List.getElem?_range hj, Option.map_some, hs, hz, o3Part, List.take_zero]
    simp [flc3, fl3, ints, hj]
  · simp [madeCells, hj, o3Part, flc3, fl3, ints]
theorem o3Part_all (xs : List O3) : o3Part xs xs.length = flc3 xs := by simp [o3Part]
theorem o3Part_at {xs : List O3} {k : Nat} (h : k < xs.length) (j : Nat) (hj : j < 3) : (o3Part xs k)[k * 3 + j]? = some (.int .i64 0) := by
  have hl : (flc3 (xs.take k)).length = k * 3 := by rw [flc3_len, List.length_take]; omega
  unfold o3Part
  rw [List.getElem?_append_right (by omega), hl, List.getElem?_replicate, if_pos (by omega)]
theorem set3 {L R : List Value} {k : Nat} (a b c a' b' c' : Value) (hl : L.length = k * 3) :
    ((((L ++ a :: b :: c :: R).set (k * 3) a').set (k * 3 + 1) b').set (k * 3 + 2) c') = L ++ a' :: b' :: c' :: R := by
  rw [List.set_append, if_neg (by omega), List.set_append, if_neg (by omega), List.set_append, if_neg (by omega)]
  simp [hl, show k * 3 + 1 - k * 3 = 1 from by omega, show k * 3 + 2 - k * 3 = 2 from by omega]
theorem o3Part_set {xs : List O3} {k : Nat} {x : O3} (h : xs[k]? = some x) :
    ((((o3Part xs k).set (k * 3) (.int .i64 x.k)).set (k * 3 + 1) (.int .i64 x.t)).set (k * 3 + 2) (.int .i64 x.x)) = o3Part xs (k + 1) := by
  obtain ⟨hk, hx⟩ := List.getElem?_eq_some_iff.1 h
  have hl : (flc3 (xs.take k)).length = k * 3 := by rw [flc3_len, List.length_take]; omega
  unfold o3Part
  rw [show (xs.length - k) * 3 = (xs.length - (k + 1)) * 3 + 1 + 1 + 1 from by omega, List.replicate_succ, List.replicate_succ, List.replicate_succ, set3 _ _ _ _ _ _ hl,
    ← flc3_snoc h, List.append_assoc]
  rfl
section
variable {w : World} {base g n cap : Nat} {e : TypeId} {size : Nat} {L : List Value}
theorem owns_set3 (h : w.ownsRow base e size (.slice (some ⟨g, 0, none⟩) n cap) n L) (i j l : Nat) (a b c : Value) :
    (((w.setCell ⟨g, i, none⟩ a).setCell ⟨g, j, none⟩ b).setCell ⟨g, l, none⟩ c).ownsRow base e size (.slice (some ⟨g, 0, none⟩) n cap) n (((L.set i a).set j b).set l c) :=
  (((h.stored i a).1.stored j b).1.stored l c).1
theorem below_set3 {B : Nat} {w w' : World} (h : Below B w w') (hg : B ≤ g) (i j l : Nat) (a b c : Value) :
    Below B w (((w'.setCell ⟨g, i, none⟩ a).setCell ⟨g, j, none⟩ b).setCell ⟨g, l, none⟩ c) :=
  ((h.setCell hg _).setCell hg _).setCell hg _
end
theorem o3_atA {w wr : World} {ad : Addr} {k : Nat} {xs : List O3} (hc : ∀ j u, (flc3 xs)[j]? = some u → w.cell? (ad.add j) = some u) (h : k < xs.length) {B : Nat} (hB : Below B w wr) (hb : ad.block < B) :
    ∃ x, Hid (xs[k]? = some x) ∧ wr.cell? (ad.add (k * 3)) = some (.int .i64 x.k) ∧ wr.cell? ⟨(ad.add (k * 3)).block, (ad.add (k * 3)).off + 1, none⟩ = some (.int .i64 x.t) ∧ wr.cell? ⟨(ad.add (k * 3)).block, (ad.add (k * 3)).off + 2, none⟩ = some (.int .i64 x.x) := by
  have hx : xs[k]? = some xs[k] := List.getElem?_eq_getElem h
  have hh : ∀ j u, (flc3 xs)[j]? = some u → wr.cell? (ad.add j) = some u := fun j u hu => (hB.cell (p := ad.add j) (by rw [add_block]; exact hb)).trans (hc j u hu)
  refine ⟨xs[k], Lib.hid hx, ?_, ?_, ?_⟩
  · exact hh (k * 3 + 0) _ (flc3_at hx 0 (by omega))
  · rw [← add_more ad _ 1 (by omega)]
    exact hh (k * 3 + 1) _ (flc3_at hx 1 (by omega))
  · rw [← add_more ad _ 2 (by omega)]
    exact hh (k * 3 + 2) _ (flc3_at hx 2 (by omega))
theorem markPart_set3 {xs : List Int} {m : Int} {k : Nat} (h : k * 3 + 2 < xs.length) : ((((markPart xs m (k * 3)).set (k * 3) (.int .i64 (m + k * 3))).set (k * 3 + 1) (.int .i64 (m + k * 3 + 1))).set (k * 3 + 2) (.int .i64 (m + k * 3 + 1 + 1))) = markPart xs m ((k + 1) * 3) := by
  have e1 := markPart_set (xs := xs) (m := m) (k := k * 3) (by omega)
  have e2 := markPart_set (xs := xs) (m := m) (k := k * 3 + 1) (by omega)
  have e3 := markPart_set (xs := xs) (m := m) (k := k * 3 + 2) (by omega)
  rw [show (m + ((k * 3 : Nat) : Int)) = m + k * 3 from by omega] at e1
  rw [show (m + ((k * 3 + 1 : Nat) : Int)) = m + k * 3 + 1 from by omega] at e2
  rw [show (m + ((k * 3 + 2 : Nat) : Int)) = m + k * 3 + 1 + 1 from by omega] at e3
  rw [e1, e2, show k * 3 + 1 + 1 = k * 3 + 2 from rfl, e3, show k * 3 + 2 + 1 = (k + 1) * 3 from by omega]
set_option maxHeartbeats 400000 in
theorem toOp (i : O3) (w : World) :
    Calls Try.prog 12 #[.agg #[.int .i64 i.k, .int .i64 i.t, .int .i64 i.x]] w fun e w' => e = .returned (.agg #[.int .i64 i.k, .int .i64 i.t, .int .i64 i.x]) ∧ Below w.heap.size w w' := by
  go_enter Try.func12, Try.ntmps12
  go_wp2_with fail
  exact bodyPost_ret (v := .agg #[.int .i64 i.k, .int .i64 i.t, .int .i64 i.x]) (by simp [results, Try.results12, go_sem]) rfl ⟨rfl, (((Below.refl _ _).alloc (Nat.le_refl _) _).alloc (by simp) _).alloc (by simp; omega) _⟩
theorem infoOp : (Try.prog.info? 35).map (fun i => (i.zero, i.size, i.bytes)) = some (some (.agg #[.int .i64 0, .int .i64 0, .int .i64 0]), 3, 24) := by kernel_rfl
set_option maxHeartbeats 400000 in
theorem szOpS (v : Value) (n : Nat) (cs : List Value) (left : Int) (w : World) (h : RdA w v 3 n cs) (hl0 : -1 ≤ left) (hl : left ≤ 1048576) :
    Calls Try.prog 17 #[v, .int .i64 left] w fun e w' => e = .returned (.int .i64 (szF n left)) ∧ w = w' := by
  obtain ⟨A, c, rfl, -, hnc, hc, -⟩ := h
  unfold maxLen at hc
  by_cases hx : left - n < 0
  · go_enter Try.func17, Try.ntmps17
    go_wp2
    go_ret
    exact ⟨ret_int (by unfold szF; rw [if_pos hx]), rfl⟩
  · go_enter Try.func17, Try.ntmps17
    go_wp2
    go_ret
    exact ⟨ret_int (by unfold szF; rw [if_neg (by omega)]), rfl⟩
set_option maxHeartbeats 800000 in
theorem toOpS (v : Value) (xs : List O3) (w : World) (h : RdA w v 3 xs.length (flc3 xs)) (hsz : xs.length ≤ 1048576) :
    Calls Try.prog 19 #[v] w fun e w' => ∃ v' bs, e = .returned v' ∧ Own w' v' 3 xs.length (flc3 xs) bs ∧ (∀ b ∈ bs, w.heap.size ≤ b) ∧ Below w.heap.size w w' := by
  obtain ⟨A, c, rfl, -, hnc, hc, hr⟩ := h
  unfold maxLen at hc
  obtain ⟨i, hi, hz0, hz1, hz2⟩ := info_parts infoOp
  go_enter Try.func19, Try.ntmps19
  go_wp2_with (at_make; refine wpList_make_full _ rfl _ _ 44 rfl w.heap.size 35 i (.agg #[.int .i64 0, .int .i64 0, .int .i64 0]) 3 Try.underlying44 hi hz0 hz1 _ _ _ _ xs.length rfl rfl rfl rfl (by rw [hz2]; omega) (by unfold maxLen; omega) (Nat.le_refl _) ?_)
  intro w1 hown hg1
  rw [o3Part_zero] at hown
  have hb1 : Below w.heap.size w w1 := (Below.refl _ _).grown hg1 (Nat.le_refl _) (by simp)
  go_wp2_with fail
  go_loopw [4] (fun i wr => ∃ k : Nat, k ≤ xs.length ∧ i = .int .i64 k ∧ wr.ownsRow w.heap.size 35 3 (.slice (some ⟨w.heap.size, 0, none⟩) xs.length xs.length) xs.length (o3Part xs k) ∧ Below w.heap.size w wr) (fun i _ => xs.length - (intOf i).toNat)
  case atStart => exact ⟨0, Nat.zero_le _, rfl, hown, hb1⟩
  case round =>
    obtain ⟨k, hk, rfl, hO, hB⟩ := hrel
    clear hown hb1 hg1
    by_cases hlt : k < xs.length
    · obtain ⟨ad, rfl, hb, hcell⟩ := hr (by omega)
      obtain ⟨x, hxk, hx0, hx1, hx2⟩ := o3_atA hcell hlt hB hb
      clear hcell hr
      go_wp2_with fail
      refine (toOp x _).mono ?_
      rintro e w2 ⟨rfl, hb2⟩
      have hO2 := ownsRow_below hO hb2
      have hB2 := hB.trans (hb2.mono hB.size)
      have hcA := fun j (hj : j < 3) => (hO2.cellAt (k * 3 + j) (by omega)).trans (o3Part_at hlt j hj)
      have hc0 := hcA 0 (by omega)
      have hc1 := hcA 1 (by omega)
      have hc2 := hcA 2 (by omega)
      have hf0 := hO2.frozenAt (k * 3)
      have hf1 := hO2.frozenAt (k * 3 + 1)
      have hf2 := hO2.frozenAt (k * 3 + 2)
      rw [Nat.add_zero] at hc0
      clear hcA
      go_wp2_with fail
      exact ⟨⟨k + 1, by omega, by go_num, (o3Part_set hxk.out) ▸ owns_set3 hO2 (k * 3) (k * 3 + 1) (k * 3 + 2) (.int .i64 x.k) (.int .i64 x.t) (.int .i64 x.x), below_set3 hB2 (Nat.le_refl _) _ _ _ _ _ _⟩, by simp [intOf]; omega⟩
    · go_wp2_with fail
      go_ret
      obtain rfl : k = xs.length := by omega
      rw [o3Part_all] at hO
      obtain ⟨bs, h1, h2⟩ := Own.of_owns hO
      exact ⟨_, bs, rfl, h1, h2, hB⟩
set_option maxHeartbeats 800000 in
theorem eqOp (x y : O3) (w : World) :
    Calls Try.prog 65 #[.agg #[.int .i64 x.k, .int .i64 x.t, .int .i64 x.x], .agg #[.int .i64 y.k, .int .i64 y.t, .int .i64 y.x]] w fun e w' => e = .returned (.bool (decide (x = y))) ∧ Below w.heap.size w w' := by
  obtain ⟨a, b, c⟩ := x
  obtain ⟨a', b', c'⟩ := y
  have hB := ((Below.refl w.heap.size w).alloc (Nat.le_refl _) (.cells #[.int .i64 a, .int .i64 b, .int .i64 c] 35)).alloc (by simp) (.cells #[.int .i64 a', .int .i64 b', .int .i64 c'] 35)
  have hN : ∀ (p q : Int), ¬ p = q → (p != q) = true := fun p q h => by simp [h]
  have HB := Lib.hid hB
  clear hB
  by_cases h1 : a = a'
  · by_cases h2 : b = b'
    · by_cases h3 : c = c'
      · subst h1 h2 h3
        clear hN
        go_enter Try.func65, Try.ntmps65
        go_wp2_with fail
        go_ret
        exact ⟨ret_bool (by simp), HB.out⟩
      · have e := hN _ _ h3
        have HD : Hid (decide (O3.mk a b c = O3.mk a' b' c') = false) := Lib.hid (by simp [h3])
        subst h1 h2
        clear hN h3
        go_enter Try.func65, Try.ntmps65
        go_wp2_with fail
        go_ret
        exact ⟨ret_bool HD.out.symm, HB.out⟩
    · have e := hN _ _ h2
      have HD : Hid (decide (O3.mk a b c = O3.mk a' b' c') = false) := Lib.hid (by simp [h2])
      subst h1
      clear hN h2
      go_enter Try.func65, Try.ntmps65
      go_wp2_with fail
      go_ret
      exact ⟨ret_bool HD.out.symm, HB.out⟩
  · have e := hN _ _ h1
    have HD : Hid (decide (O3.mk a b c = O3.mk a' b' c') = false) := Lib.hid (by simp [h1])
    clear hN h1
    go_enter Try.func65, Try.ntmps65
    go_wp2_with fail
    go_ret
    exact ⟨ret_bool HD.out.symm, HB.out⟩
set_option maxHeartbeats 1600000 in
theorem eqOpS (v u : Value) (xs ys : List O3) (w : World) (h : Rd w v 3 xs.length (flc3 xs)) (h' : Rd w u 3 ys.length (flc3 ys)) :
    Calls Try.prog 22 #[v, u] w fun e w' => e = .returned (.bool (decide (xs = ys))) ∧ Below w.heap.size w w' := by
  obtain ⟨A, c, rfl, -, hnc, hc, hr⟩ := h
  obtain ⟨A', c', rfl, -, hnc', hc', hr'⟩ := h'
  unfold maxLen at hc hc'
  by_cases hlen : xs.length = ys.length
  · have hne : ((xs.length : Int) != (ys.length : Int)) = false := by simp [hlen]
    have hlen' : xs.length ≤ ys.length ∧ ys.length ≤ xs.length := by omega
    clear hlen
    go_enter Try.func22, Try.ntmps22
    go_wp2_with fail
    go_loopw [5] (fun i wr => ∃ k : Nat, k ≤ xs.length ∧ i = .int .i64 k ∧ Hid (xs.take k = ys.take k) ∧ Below w.heap.size w wr) (fun i _ => xs.length - (intOf i).toNat)
    case atStart => exact ⟨0, Nat.zero_le _, rfl, Lib.hid (by simp), Below.refl _ _⟩
    case round =>
      obtain ⟨k, hk, rfl, HT, hB⟩ := hrel
      by_cases hlt : k < xs.length
      · obtain ⟨b, o, rfl, hb, hcell⟩ := hr (by omega)
        obtain ⟨b', o', rfl, hb', hcell'⟩ := hr' (by omega)
        obtain ⟨x, hxk, hx0, hx1, hx2⟩ := o3_at (fun j u hu => (hB.cell (p := ⟨b, o + j, none⟩) hb).trans (hcell j u hu)) hlt
        obtain ⟨y, hyk, hy0, hy1, hy2⟩ := o3_at (k := k) (fun j u hu => (hB.cell (p := ⟨b', o' + j, none⟩) hb').trans (hcell' j u hu)) (by omega)
        have hlt2 : k < ys.length := by omega
        have hlt3 : ((k : Int) < ys.length) := by omega
        have lb : b < wr.heap.size := Nat.lt_of_lt_of_le hb hB.size
        have lb' : b' < wr.heap.size := Nat.lt_of_lt_of_le hb' hB.size
        clear hcell hcell' hr hr'
        go_wp2_with fail
        have HS : Hid (∀ W : World, Below wr.heap.size wr W → Below wr.heap.size wr W ∧ W.cell? ⟨b, o + k * 3, none⟩ = some (.int .i64 x.k) ∧ W.cell? ⟨b, o + k * 3 + 1, none⟩ = some (.int .i64 x.t) ∧ W.cell? ⟨b, o + k * 3 + 2, none⟩ = some (.int .i64 x.x) ∧
          W.cell? ⟨b', o' + k * 3, none⟩ = some (.int .i64 y.k) ∧ W.cell? ⟨b', o' + k * 3 + 1, none⟩ = some (.int .i64 y.t) ∧ W.cell? ⟨b', o' + k * 3 + 2, none⟩ = some (.int .i64 y.x)) :=
          Lib.hid fun W hW => ⟨hW, (hW.cell (p := ⟨b, o + k * 3, none⟩) lb).trans hx0, (hW.cell (p := ⟨b, o + k * 3 + 1, none⟩) lb).trans hx1, (hW.cell (p := ⟨b, o + k * 3 + 2, none⟩) lb).trans hx2,
            (hW.cell (p := ⟨b', o' + k * 3, none⟩) lb').trans hy0, (hW.cell (p := ⟨b', o' + k * 3 + 1, none⟩) lb').trans hy1, (hW.cell (p := ⟨b', o' + k * 3 + 2, none⟩) lb').trans hy2⟩
        have HB := Lib.hid hB
        clear hB
        go_region_held3 (fun W => Below wr.heap.size wr W ∧ W.cell? ⟨b, o + k * 3, none⟩ = some (.int .i64 x.k) ∧ W.cell? ⟨b, o + k * 3 + 1, none⟩ = some (.int .i64 x.t) ∧ W.cell? ⟨b, o + k * 3 + 2, none⟩ = some (.int .i64 x.x) ∧
          W.cell? ⟨b', o' + k * 3, none⟩ = some (.int .i64 y.k) ∧ W.cell? ⟨b', o' + k * 3 + 1, none⟩ = some (.int .i64 y.t) ∧ W.cell? ⟨b', o' + k * 3 + 2, none⟩ = some (.int .i64 y.x)) (first | (exact HS.out _ (Below.refl _ _).drew) | (exact HS.out _ (by assumption)))
          (first
            | (go_at_call 65; have hS := ‹Below wr.heap.size wr _ ∧ _›.1; refine (eqOp x y _).mono ?_; rintro e w9 ⟨rfl, hb9⟩; have hS2 := hS.trans (hb9.mono hS.size); clear hS))
        have hS := ‹Below wr.heap.size wr _ ∧ _›.1
        clear HS
        have hBn := HB.out.trans (hS.mono HB.out.size)
        clear HB hx0 hx1 hx2 hy0 hy1 hy2 hb9
        have HBn := Lib.hid hBn
        clear hBn hS
        cases hd : decide (x = y)
        · have hn : decide (xs = ys) = false := by
            rw [decide_eq_false_iff_not]
            rintro rfl
            have := hxk.out.symm.trans hyk.out
            injection this with this
            simp [this] at hd
          have HN := Lib.hid hn
          clear hn hd
          go_wp2_with fail
          go_ret
          exact ⟨ret_bool HN.out.symm, HBn.out⟩
        · have e : x = y := by simpa using hd
          have HE := Lib.hid e
          clear e hd
          go_wp2_with fail
          exact ⟨⟨k + 1, by omega, by go_num, Lib.hid (take_snoc_eq HT.out (hxk.out.trans (by rw [hyk.out, HE.out]))), HBn.out⟩, by simp [intOf]; omega⟩
      · go_wp2_with fail
        go_ret
        refine ⟨ret_bool ?_, hB⟩
        have h1 := HT.out
        rw [List.take_of_length_le (by omega), List.take_of_length_le (by omega)] at h1
        simp [h1]
  · have hne : ((xs.length : Int) != (ys.length : Int)) = true := by simp; omega
    go_enter Try.func22, Try.ntmps22
    go_wp2_with fail
    go_ret
    exact ⟨ret_bool (by simp; intro e; exact hlen (by rw [e])), Below.refl _ _⟩
set_option maxHeartbeats 800000 in
theorem markOpS (v : Value) (zs : List Int) (n : Nat) (bs : List Nat) (m : Int) (w : World) (h : Own w v 3 n (ints zs) bs) (hsz : n ≤ 16777216) (hm0 : 0 ≤ m) (hm : m ≤ 1099511627776) :
    Calls Try.prog 23 #[v, .int .i64 m] w fun e w' => e = .returned (.int .i64 (m + n * 3)) ∧ Own w' v 3 n (ints (marked (n * 3) m)) bs ∧ Only bs w w' := by
  obtain ⟨A, c, rfl, hl, hnc, hc, hr⟩ := h
  unfold maxLen at hc
  rw [ints_len] at hl
  rcases hr with ⟨rfl, rfl⟩ | ⟨hpos, b, o, rfl, rfl, hb, hat⟩
  · go_enter Try.func23, Try.ntmps23
    go_wp2
    go_loop [1, 5] (fun mm i => i = .int .i64 0 ∧ mm = .int .i64 m) (fun _ _ => 0)
    case atStart => exact ⟨rfl, rfl⟩
    case round =>
      obtain ⟨rfl, rfl⟩ := hrel
      go_wp2
      go_ret
      exact ⟨ret_int (by simp), ⟨A, c, rfl, by simp [ints, marked], hnc, hc, .inl ⟨rfl, rfl⟩⟩, Only.refl _ _⟩
  · go_enter Try.func23, Try.ntmps23
    go_wp2
    go_loopw [1, 5] (fun mm i wr => ∃ k : Nat, k ≤ n ∧ i = .int .i64 k ∧ mm = .int .i64 (m + k * 3) ∧ At wr b o (markPart zs m (k * 3)) ∧ Only [b] w wr) (fun _ i _ => n - (intOf i).toNat)
    case atStart => exact ⟨0, Nat.zero_le _, rfl, by simp, by simpa [markPart, marked, ints] using hat, Only.refl _ _⟩
    case round =>
      obtain ⟨k, hk, rfl, rfl, hA, hO⟩ := hrel
      clear hat
      by_cases hlt : k < n
      · obtain ⟨hc0, hf0⟩ := hA (k * 3) _ (markPart_at (by omega))
        obtain ⟨hc1, hf1⟩ := hA (k * 3 + 1) _ (markPart_next (by omega) 1 (by omega))
        obtain ⟨hc2, hf2⟩ := hA (k * 3 + 2) _ (markPart_next (by omega) 2 (by omega))
        simp only [← Nat.add_assoc] at hc1 hf1 hc2 hf2
        go_wp2_with fail
        refine ⟨⟨k + 1, by omega, by go_num, by go_num, ?_, ?_⟩, by simp [intOf]; omega⟩
        · rw [← markPart_set3 (xs := zs) (m := m) (k := k) (by omega)]
          exact ((hA.set_ (k * 3) _).set_ (k * 3 + 1) _).set_ (k * 3 + 2) _
        · exact ((hO.trans (Only.setCell _ _)).trans (Only.setCell _ _)).trans (Only.setCell _ _)
      · obtain rfl : k = n := by omega
        go_wp2_with fail
        go_ret
        refine ⟨rfl, ⟨_, c, rfl, by simp [ints, marked], hnc, hc, .inr ⟨hpos, b, o, rfl, rfl, Nat.lt_of_lt_of_le hb hO.size, ?_⟩⟩, hO⟩
        have hd : zs.drop (k * 3) = [] := List.drop_of_length_le (by omega)
        simpa [markPart, ints, hd] using hA
end Go.Proofs.Ytiamkgkhamnaeaa
