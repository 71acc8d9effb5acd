/- Slices of structs of two integers: the cells are the fields in a row. Plain lemmas, no condition. -/
import Derived.Test.YtgbgjlmkmlhefaaFlat
import Derived.Test.YtgbgjlmkmlhefaaInts
import Derived.Deep.RegionHeld3
namespace Go.Proofs.Ytgbgjlmkmlhefaa
set_option maxRecDepth 20000
set_option linter.unusedSimpArgs false
set_option linter.unusedVariables false
open Go.ChangeShapes Go.WideShapes Go.ChangeAt Go.RowKit
set_option linter.unusedVariables false
/-- two integers -/
structure P2 where
  a : Int
  b : Int
deriving DecidableEq
def P2.l (i : P2) : List Int := [i.a, i.b]
def p2C (i : P2) : List Value := [.int .i64 i.a, .int .i64 i.b]
def fl2 (xs : List P2) : List Int := xs.flatMap P2.l
def flc2 (xs : List P2) : List Value := ints (fl2 xs)
theorem fl2_nil : fl2 [] = [] := rfl
theorem fl2_cons (i : P2) (xs : List P2) : fl2 (i :: xs) = [i.a, i.b] ++ fl2 xs := by simp [fl2, P2.l]
theorem fl2_append (xs ys : List P2) : fl2 (xs ++ ys) = fl2 xs ++ fl2 ys := by simp [fl2]
theorem fl2_len (xs : List P2) : (fl2 xs).length = xs.length * 2 := by
  induction xs with
  | nil => rfl
  | cons i xs ih => rw [fl2_cons, List.length_append, ih]; simp; omega
theorem flc2_len (xs : List P2) : (flc2 xs).length = xs.length * 2 := by rw [flc2, ints_len, fl2_len]
theorem flc2_append (xs ys : List P2) : flc2 (xs ++ ys) = flc2 xs ++ flc2 ys := by simp [flc2, fl2_append, ints]
theorem flc2_one (i : P2) : flc2 [i] = p2C i := rfl
theorem flc2_snoc {xs : List P2} {k : Nat} {x : P2} (h : xs[k]? = some x) : flc2 (xs.take k) ++ p2C x = flc2 (xs.take (k + 1)) := by
  rw [List.take_add_one, h, flc2_append]
  rfl
theorem flc2_at : ∀ {xs : List P2} {k : Nat} {x : P2}, xs[k]? = some x → ∀ j < 2, (flc2 xs)[k * 2 + j]? = (p2C x)[j]?
  | [], k, x, h, j, hj => by simp at h
  | i :: xs, 0, x, h, j, hj => by
    simp only [List.getElem?_cons_zero, Option.some.injEq] at h
    subst h
    have : flc2 (i :: xs) = p2C i ++ flc2 xs := flc2_append [i] xs
    rw [this, List.getElem?_append_left (by simp [p2C]; omega)]
    simp
  | i :: xs, k + 1, x, h, j, hj => by
    have : flc2 (i :: xs) = p2C i ++ flc2 xs := flc2_append [i] xs
    rw [this, List.getElem?_append_right (by simp [p2C]; omega)]
    have e : (k + 1) * 2 + j - (p2C i).length = k * 2 + j := by simp [p2C]; omega
    rw [e]
    exact flc2_at (by simpa using h) j hj
/-- the two cells of an element -/
def P2At (w : World) (b o : Nat) (x : P2) : Prop :=
  w.cell? ⟨b, o, none⟩ = some (.int .i64 x.a) ∧ w.cell? ⟨b, o + 1, none⟩ = some (.int .i64 x.b)
theorem p2_at {w : World} {b o k : Nat} {xs : List P2} (hc : ∀ j u, (flc2 xs)[j]? = some u → w.cell? ⟨b, o + j, none⟩ = some u) (h : k < xs.length) :
    ∃ x, Hid (xs[k]? = some x) ∧ P2At w b (o + k * 2) x := by
  have hx : xs[k]? = some xs[k] := List.getElem?_eq_getElem h
  refine ⟨xs[k], Lib.hid hx, ?_, ?_⟩
  · exact hc (k * 2 + 0) _ (flc2_at hx 0 (by omega))
  · exact hc (k * 2 + 1) _ (flc2_at hx 1 (by omega))
def p2Part (xs : List P2) (k : Nat) : List Value := flc2 (xs.take k) ++ List.replicate ((xs.length - k) * 2) (.int .i64 0)
theorem p2Part_zero (xs : List P2) : (madeCells #[.int .i64 0, .int .i64 0] (xs.length * 2)).toList = p2Part xs 0 := by
  apply List.ext_getElem?
  intro j
  by_cases hj : j < xs.length * 2
  · have h4 : j % 2 < 2 := Nat.mod_lt _ (by omega)
    have hz : (#[.int .i64 0, .int .i64 0] : Array Value)[j % 2]! = .int .i64 0 := by
      have : j % 2 = 0 ∨ j % 2 = 1 := by omega
      rcases this with h | h <;> rw [h] <;> rfl
    have hs : (#[.int .i64 0, .int .i64 0] : Array Value).size = 2 := rfl
    simp only [madeCells, Array.toList_map, List.getElem?_map, Array.toList_range, List.getElem?_range hj, Option.map_some, hs, hz, p2Part, List.take_zero]
    simp [flc2, fl2, ints, hj]
  · simp [madeCells, hj, p2Part, flc2, fl2, ints]
theorem p2Part_all (xs : List P2) : p2Part xs xs.length = flc2 xs := by simp [p2Part]
theorem p2Part_at {xs : List P2} {k : Nat} (h : k < xs.length) (j : Nat) (hj : j < 2) : (p2Part xs k)[k * 2 + j]? = some (.int .i64 0) := by
  have hl : (flc2 (xs.take k)).length = k * 2 := by rw [flc2_len, List.length_take]; omega
  unfold p2Part
  rw [List.getElem?_append_right (by omega), hl, List.getElem?_replicate, if_pos (by omega)]
theorem set2 {L R : List Value} {k : Nat} (a b a' b' : Value) (hl : L.length = k * 2) :
    (((L ++ a :: b :: R).set (k * 2) a').set (k * 2 + 1) b') = L ++ a' :: b' :: R := by
  subst_vars
  rw [List.set_append, if_neg (by omega), List.set_append, if_neg (by omega)]
  simp [hl, show k * 2 + 1 - k * 2 = 1 from by omega]
theorem p2Part_set {xs : List P2} {k : Nat} {x : P2} (h : xs[k]? = some x) :
    (((p2Part xs k).set (k * 2) (.int .i64 x.a)).set (k * 2 + 1) (.int .i64 x.b)) = p2Part xs (k + 1) := by
  obtain ⟨hk, hx⟩ := List.getElem?_eq_some_iff.1 h
  have hl : (flc2 (xs.take k)).length = k * 2 := by rw [flc2_len, List.length_take]; omega
  unfold p2Part
  rw [show (xs.length - k) * 2 = (xs.length - (k + 1)) * 2 + 1 + 1 from by omega, List.replicate_succ, List.replicate_succ, set2 _ _ _ _ hl,
    ← flc2_snoc h, List.append_assoc]
  rfl
section
variable {w : World} {base g n cap : Nat} {e : TypeId} {size : Nat} {L : List Value}
theorem owns_set2 (h : w.ownsRow base e size (.slice (some ⟨g, 0, none⟩) n cap) n L) (i j : Nat) (a b : Value) :
    ((w.setCell ⟨g, i, none⟩ a).setCell ⟨g, j, none⟩ b).ownsRow base e size (.slice (some ⟨g, 0, none⟩) n cap) n ((L.set i a).set j b) :=
  ((h.stored i a).1.stored j b).1
theorem below_set2 {B : Nat} {w w' : World} (h : Below B w w') (hg : B ≤ g) (i j : Nat) (a b : Value) :
    Below B w ((w'.setCell ⟨g, i, none⟩ a).setCell ⟨g, j, none⟩ b) :=
  (h.setCell hg _).setCell hg _
end
/-- the same cells of a slice that came in -/
theorem p2_atA {w wr : World} {ad : Addr} {k : Nat} {xs : List P2} (hc : ∀ j u, (flc2 xs)[j]? = some u → w.cell? (ad.add j) = some u) (h : k < xs.length) {B : Nat} (hB : Below B w wr) (hb : ad.block < B) :
    ∃ x, Hid (xs[k]? = some x) ∧ wr.cell? (ad.add (k * 2)) = some (.int .i64 x.a) ∧ wr.cell? ⟨(ad.add (k * 2)).block, (ad.add (k * 2)).off + 1, none⟩ = some (.int .i64 x.b) := by
  have hx : xs[k]? = some xs[k] := List.getElem?_eq_getElem h
  have hh : ∀ j u, (flc2 xs)[j]? = some u → wr.cell? (ad.add j) = some u := fun j u hu => (hB.cell (p := ad.add j) (by rw [add_block]; exact hb)).trans (hc j u hu)
  refine ⟨xs[k], Lib.hid hx, ?_, ?_⟩
  · exact hh (k * 2 + 0) _ (flc2_at hx 0 (by omega))
  · rw [← add_more ad _ 1 (by omega)]
    exact hh (k * 2 + 1) _ (flc2_at hx 1 (by omega))
theorem markPart_set2 {xs : List Int} {m : Int} {k : Nat} (h : k * 2 + 1 < xs.length) : (((markPart xs m (k * 2)).set (k * 2) (.int .i64 (m + k * 2))).set (k * 2 + 1) (.int .i64 (m + k * 2 + 1))) = markPart xs m ((k + 1) * 2) := by
  have e1 := markPart_set (xs := xs) (m := m) (k := k * 2) (by omega)
  have e2 := markPart_set (xs := xs) (m := m) (k := k * 2 + 1) (by omega)
  rw [show (m + ((k * 2 : Nat) : Int)) = m + k * 2 from by omega] at e1
  rw [show (m + ((k * 2 + 1 : Nat) : Int)) = m + k * 2 + 1 from by omega] at e2
  rw [e1, e2, show k * 2 + 1 + 1 = (k + 1) * 2 from by omega]
set_option maxHeartbeats 400000 in
theorem toSpot (i : P2) (w : World) :
    Calls Try.prog 12 #[.agg #[.int .i64 i.a, .int .i64 i.b]] w fun e w' => e = .returned (.agg #[.int .i64 i.a, .int .i64 i.b]) ∧ Below w.heap.size w w' := by
  go_enter Try.func12, Try.ntmps12
  go_wp2_with fail
  exact bodyPost_ret (v := .agg #[.int .i64 i.a, .int .i64 i.b]) (by simp [results, Try.results12, go_sem]) rfl ⟨rfl, (((Below.refl _ _).alloc (Nat.le_refl _) _).alloc (by simp) _).alloc (by simp; omega) _⟩
theorem infoSpot : (Try.prog.info? 29).map (fun i => (i.zero, i.size, i.bytes)) = some (some (.agg #[.int .i64 0, .int .i64 0]), 2, 16) := by kernel_rfl
set_option maxHeartbeats 400000 in
theorem szSpotS (v : Value) (n : Nat) (cs : List Value) (left : Int) (w : World) (h : RdA w v 2 n cs) (hl0 : -1 ≤ left) (hl : left ≤ 1048576) :
    Calls Try.prog 16 #[v, .int .i64 left] w fun e w' => e = .returned (.int .i64 (szF n left)) ∧ w = w' := by
  obtain ⟨A, c, rfl, -, hnc, hc, -⟩ := h
  unfold maxLen at hc
  by_cases hx : left - n < 0
  · go_enter Try.func16, Try.ntmps16
    go_wp2
    go_ret
    exact ⟨ret_int (by unfold szF; rw [if_pos hx]), rfl⟩
  · go_enter Try.func16, Try.ntmps16
    go_wp2
    go_ret
    exact ⟨ret_int (by unfold szF; rw [if_neg (by omega)]), rfl⟩
set_option maxHeartbeats 800000 in
theorem toSpotS (v : Value) (xs : List P2) (w : World) (h : RdA w v 2 xs.length (flc2 xs)) (hsz : xs.length ≤ 1048576) :
    Calls Try.prog 18 #[v] w fun e w' => ∃ v' bs, e = .returned v' ∧ Own w' v' 2 xs.length (flc2 xs) bs ∧ (∀ b ∈ bs, w.heap.size ≤ b) ∧ Below w.heap.size w w' := by
  obtain ⟨A, c, rfl, -, hnc, hc, hr⟩ := h
  unfold maxLen at hc
  obtain ⟨i, hi, hz0, hz1, hz2⟩ := info_parts infoSpot
  go_enter Try.func18, Try.ntmps18
  go_wp2_with (at_make; refine wpList_make_full _ rfl _ _ 41 rfl w.heap.size 29 i (.agg #[.int .i64 0, .int .i64 0]) 2 Try.underlying41 hi hz0 hz1 _ _ _ _ xs.length rfl rfl rfl rfl (by rw [hz2]; omega) (by unfold maxLen; omega) (Nat.le_refl _) ?_)
  intro w1 hown hg1
  rw [p2Part_zero] at hown
  have hb1 : Below w.heap.size w w1 := (Below.refl _ _).grown hg1 (Nat.le_refl _) (by simp)
  go_wp2_with fail
  go_loopw [4] (fun i wr => ∃ k : Nat, k ≤ xs.length ∧ i = .int .i64 k ∧ wr.ownsRow w.heap.size 29 2 (.slice (some ⟨w.heap.size, 0, none⟩) xs.length xs.length) xs.length (p2Part xs k) ∧ Below w.heap.size w wr) (fun i _ => xs.length - (intOf i).toNat)
  case atStart => exact ⟨0, Nat.zero_le _, rfl, hown, hb1⟩
  case round =>
    obtain ⟨k, hk, rfl, hO, hB⟩ := hrel
    clear hown hb1 hg1
    by_cases hlt : k < xs.length
    · obtain ⟨ad, rfl, hb, hcell⟩ := hr (by omega)
      obtain ⟨x, hxk, hx0, hx1⟩ := p2_atA hcell hlt hB hb
      clear hcell hr
      go_wp2_with fail
      refine (toSpot x _).mono ?_
      rintro e w2 ⟨rfl, hb2⟩
      have hO2 := ownsRow_below hO hb2
      have hB2 := hB.trans (hb2.mono hB.size)
      have hcA := fun j (hj : j < 2) => (hO2.cellAt (k * 2 + j) (by omega)).trans (p2Part_at hlt j hj)
      have hc0 := hcA 0 (by omega)
      have hc1 := hcA 1 (by omega)
      have hf0 := hO2.frozenAt (k * 2)
      have hf1 := hO2.frozenAt (k * 2 + 1)
      rw [Nat.add_zero] at hc0
      clear hcA
      go_wp2_with fail
      exact ⟨⟨k + 1, by omega, by go_num, (p2Part_set hxk.out) ▸ owns_set2 hO2 (k * 2) (k * 2 + 1) (.int .i64 x.a) (.int .i64 x.b), below_set2 hB2 (Nat.le_refl _) _ _ _ _⟩, by simp [intOf]; omega⟩
    · go_wp2_with fail
      go_ret
      obtain rfl : k = xs.length := by omega
      rw [p2Part_all] at hO
      obtain ⟨bs, h1, h2⟩ := Own.of_owns hO
      exact ⟨_, bs, rfl, h1, h2, hB⟩
set_option maxHeartbeats 800000 in
theorem eqSpot (x y : P2) (w : World) :
    Calls Try.prog 56 #[.agg #[.int .i64 x.a, .int .i64 x.b], .agg #[.int .i64 y.a, .int .i64 y.b]] w fun e w' => e = .returned (.bool (decide (x = y))) ∧ Below w.heap.size w w' := by
  obtain ⟨a, b⟩ := x
  obtain ⟨a', b'⟩ := y
  have hB := ((Below.refl w.heap.size w).alloc (Nat.le_refl _) (.cells #[.int .i64 a, .int .i64 b] 29)).alloc (by simp) (.cells #[.int .i64 a', .int .i64 b'] 29)
  have hN : ∀ (p q : Int), ¬ p = q → (p != q) = true := fun p q h => by simp [h]
  have HB := Lib.hid hB
  clear hB
  by_cases h1 : a = a'
  · by_cases h2 : b = b'
    · subst h1 h2
      clear hN
      go_enter Try.func56, Try.ntmps56
      go_wp2_with fail
      go_ret
      exact ⟨ret_bool (by simp), HB.out⟩
    · have e := hN _ _ h2
      have HD : Hid (decide (P2.mk a b = P2.mk a' b') = false) := Lib.hid (by simp [h2])
      subst h1
      clear hN h2
      go_enter Try.func56, Try.ntmps56
      go_wp2_with fail
      go_ret
      exact ⟨ret_bool HD.out.symm, HB.out⟩
  · have e := hN _ _ h1
    have HD : Hid (decide (P2.mk a b = P2.mk a' b') = false) := Lib.hid (by simp [h1])
    clear hN h1
    go_enter Try.func56, Try.ntmps56
    go_wp2_with fail
    go_ret
    exact ⟨ret_bool HD.out.symm, HB.out⟩
set_option maxHeartbeats 1600000 in
theorem eqSpotS (v u : Value) (xs ys : List P2) (w : World) (h : Rd w v 2 xs.length (flc2 xs)) (h' : Rd w u 2 ys.length (flc2 ys)) :
    Calls Try.prog 20 #[v, u] w fun e w' => e = .returned (.bool (decide (xs = ys))) ∧ Below w.heap.size w w' := by
  obtain ⟨A, c, rfl, -, hnc, hc, hr⟩ := h
  obtain ⟨A', c', rfl, -, hnc', hc', hr'⟩ := h'
  unfold maxLen at hc hc'
  by_cases hlen : xs.length = ys.length
  · have hne : ((xs.length : Int) != (ys.length : Int)) = false := by simp [hlen]
    have hlen' : xs.length ≤ ys.length ∧ ys.length ≤ xs.length := by omega
    clear hlen
    go_enter Try.func20, Try.ntmps20
    go_wp2_with fail
    go_loopw [5] (fun i wr => ∃ k : Nat, k ≤ xs.length ∧ i = .int .i64 k ∧ Hid (xs.take k = ys.take k) ∧ Below w.heap.size w wr) (fun i _ => xs.length - (intOf i).toNat)
    case atStart => exact ⟨0, Nat.zero_le _, rfl, Lib.hid (by simp), Below.refl _ _⟩
    case round =>
      obtain ⟨k, hk, rfl, HT, hB⟩ := hrel
      by_cases hlt : k < xs.length
      · obtain ⟨b, o, rfl, hb, hcell⟩ := hr (by omega)
        obtain ⟨b', o', rfl, hb', hcell'⟩ := hr' (by omega)
        obtain ⟨x, hxk, hx0, hx1⟩ := p2_at (fun j u hu => (hB.cell (p := ⟨b, o + j, none⟩) hb).trans (hcell j u hu)) hlt
        obtain ⟨y, hyk, hy0, hy1⟩ := p2_at (k := k) (fun j u hu => (hB.cell (p := ⟨b', o' + j, none⟩) hb').trans (hcell' j u hu)) (by omega)
        have hlt2 : k < ys.length := by omega
        have hlt3 : ((k : Int) < ys.length) := by omega
        have lb : b < wr.heap.size := Nat.lt_of_lt_of_le hb hB.size
        have lb' : b' < wr.heap.size := Nat.lt_of_lt_of_le hb' hB.size
        clear hcell hcell' hr hr'
        go_wp2_with fail
        have HS : Hid (∀ W : World, Below wr.heap.size wr W → Below wr.heap.size wr W ∧ W.cell? ⟨b, o + k * 2, none⟩ = some (.int .i64 x.a) ∧ W.cell? ⟨b, o + k * 2 + 1, none⟩ = some (.int .i64 x.b) ∧
          W.cell? ⟨b', o' + k * 2, none⟩ = some (.int .i64 y.a) ∧ W.cell? ⟨b', o' + k * 2 + 1, none⟩ = some (.int .i64 y.b)) :=
          Lib.hid fun W hW => ⟨hW, (hW.cell (p := ⟨b, o + k * 2, none⟩) lb).trans hx0, (hW.cell (p := ⟨b, o + k * 2 + 1, none⟩) lb).trans hx1,
            (hW.cell (p := ⟨b', o' + k * 2, none⟩) lb').trans hy0, (hW.cell (p := ⟨b', o' + k * 2 + 1, none⟩) lb').trans hy1⟩
        have HB := Lib.hid hB
        clear hB
        go_region_held3 (fun W => Below wr.heap.size wr W ∧ W.cell? ⟨b, o + k * 2, none⟩ = some (.int .i64 x.a) ∧ W.cell? ⟨b, o + k * 2 + 1, none⟩ = some (.int .i64 x.b) ∧
          W.cell? ⟨b', o' + k * 2, none⟩ = some (.int .i64 y.a) ∧ W.cell? ⟨b', o' + k * 2 + 1, none⟩ = some (.int .i64 y.b)) (first | (exact HS.out _ (Below.refl _ _).drew) | (exact HS.out _ (by assumption)))
          (first
            | (go_at_call 56; have hS := ‹Below wr.heap.size wr _ ∧ _›.1; refine (eqSpot x y _).mono ?_; rintro e w9 ⟨rfl, hb9⟩; have hS2 := hS.trans (hb9.mono hS.size); clear hS))
        have hS := ‹Below wr.heap.size wr _ ∧ _›.1
        clear HS
        have hBn := HB.out.trans (hS.mono HB.out.size)
        clear HB hx0 hx1 hy0 hy1 hb9
        have HBn := Lib.hid hBn
        clear hBn hS
        cases hd : decide (x = y)
        · have hn : decide (xs = ys) = false := by
            rw [decide_eq_false_iff_not]
            rintro rfl
            have := hxk.out.symm.trans hyk.out
            injection this with this
            simp [this] at hd
          have HN := Lib.hid hn
          clear hn hd
          go_wp2_with fail
          go_ret
          exact ⟨ret_bool HN.out.symm, HBn.out⟩
        · have e : x = y := by simpa using hd
          have HE := Lib.hid e
          clear e hd
          go_wp2_with fail
          exact ⟨⟨k + 1, by omega, by go_num, Lib.hid (take_snoc_eq HT.out (hxk.out.trans (by rw [hyk.out, HE.out]))), HBn.out⟩, by simp [intOf]; omega⟩
      · go_wp2_with fail
        go_ret
        refine ⟨ret_bool ?_, hB⟩
        have h1 := HT.out
        rw [List.take_of_length_le (by omega), List.take_of_length_le (by omega)] at h1
        simp [h1]
  · have hne : ((xs.length : Int) != (ys.length : Int)) = true := by simp; omega
    go_enter Try.func20, Try.ntmps20
    go_wp2_with fail
    go_ret
    exact ⟨ret_bool (by simp; intro e; exact hlen (by rw [e])), Below.refl _ _⟩
set_option maxHeartbeats 800000 in
theorem markSpotS (v : Value) (zs : List Int) (n : Nat) (bs : List Nat) (m : Int) (w : World) (h : Own w v 2 n (ints zs) bs) (hsz : n ≤ 16777216) (hm0 : 0 ≤ m) (hm : m ≤ 1099511627776) :
    Calls Try.prog 22 #[v, .int .i64 m] w fun e w' => e = .returned (.int .i64 (m + n * 2)) ∧ Own w' v 2 n (ints (marked (n * 2) m)) bs ∧ Only bs w w' := by
  obtain ⟨A, c, rfl, hl, hnc, hc, hr⟩ := h
  unfold maxLen at hc
  rw [ints_len] at hl
  rcases hr with ⟨rfl, rfl⟩ | ⟨hpos, b, o, rfl, rfl, hb, hat⟩
  · go_enter Try.func22, Try.ntmps22
    go_wp2
    go_loop [1, 5] (fun mm i => i = .int .i64 0 ∧ mm = .int .i64 m) (fun _ _ => 0)
    case atStart => exact ⟨rfl, rfl⟩
    case round =>
      obtain ⟨rfl, rfl⟩ := hrel
      go_wp2
      go_ret
      exact ⟨ret_int (by simp), ⟨A, c, rfl, by simp [ints, marked], hnc, hc, .inl ⟨rfl, rfl⟩⟩, Only.refl _ _⟩
  · go_enter Try.func22, Try.ntmps22
    go_wp2
    go_loopw [1, 5] (fun mm i wr => ∃ k : Nat, k ≤ n ∧ i = .int .i64 k ∧ mm = .int .i64 (m + k * 2) ∧ At wr b o (markPart zs m (k * 2)) ∧ Only [b] w wr) (fun _ i _ => n - (intOf i).toNat)
    case atStart => exact ⟨0, Nat.zero_le _, rfl, by simp, by simpa [markPart, marked, ints] using hat, Only.refl _ _⟩
    case round =>
      obtain ⟨k, hk, rfl, rfl, hA, hO⟩ := hrel
      clear hat
      by_cases hlt : k < n
      · obtain ⟨hc0, hf0⟩ := hA (k * 2) _ (markPart_at (by omega))
        obtain ⟨hc1, hf1⟩ := hA (k * 2 + 1) _ (markPart_next (by omega) 1 (by omega))
        simp only [← Nat.add_assoc] at hc1 hf1
        go_wp2_with fail
        refine ⟨⟨k + 1, by omega, by go_num, by go_num, ?_, ?_⟩, by simp [intOf]; omega⟩
        · rw [← markPart_set2 (xs := zs) (m := m) (k := k) (by omega)]
          exact (hA.set_ (k * 2) _).set_ (k * 2 + 1) _
        · exact (hO.trans (Only.setCell _ _)).trans (Only.setCell _ _)
      · obtain rfl : k = n := by omega
        go_wp2_with fail
        go_ret
        refine ⟨rfl, ⟨_, c, rfl, by simp [ints, marked], hnc, hc, .inr ⟨hpos, b, o, rfl, rfl, Nat.lt_of_lt_of_le hb hO.size, ?_⟩⟩, hO⟩
        have hd : zs.drop (k * 2) = [] := List.drop_of_length_le (by omega)
        simpa [markPart, ints, hd] using hA
set_option maxHeartbeats 800000 in
theorem heldSpotS (v : Value) (n : Nat) (m : Int) (w : World) (h : Rd w v 2 n (ints (marked (n * 2) m))) (hsz : n ≤ 16777216) (hm0 : 0 ≤ m) (hm : m ≤ 1099511627776) :
    Calls Try.prog 26 #[v, .int .i64 m] w fun e w' => e = .returned (.int .i64 (m + n * 2)) ∧ w = w' := by
  obtain ⟨A, c, rfl, hl, hnc, hc, hr⟩ := h
  unfold maxLen at hc
  go_enter Try.func26, Try.ntmps26
  go_wp2
  go_loop [1, 5] (fun mm i => ∃ k : Nat, k ≤ n ∧ i = .int .i64 k ∧ mm = .int .i64 (m + k * 2)) (fun _ i => n - (intOf i).toNat)
  case atStart => exact ⟨0, Nat.zero_le _, rfl, by simp⟩
  case round =>
    obtain ⟨k, hk, rfl, rfl⟩ := hrel
    by_cases hlt : k < n
    · obtain ⟨b, o, rfl, hb, hcell⟩ := hr (by omega)
      have hx0 := hcell (k * 2) _ (marked_at (by omega))
      have hx1 := hcell (k * 2 + 1) _ (marked_at (by omega))
      rw [show (m + ((k * 2 : Nat) : Int)) = m + k * 2 from by omega] at hx0
      rw [show (m + ((k * 2 + 1 : Nat) : Int)) = m + k * 2 + 1 from by omega] at hx1
      simp only [← Nat.add_assoc] at hx1
      have hb1 : ((m + (k : Int) * 2) != (m + (k : Int) * 2)) = false := by simp
      have hb2 : ((m + (k : Int) * 2 + 1) != (m + (k : Int) * 2 + 1)) = false := by simp
      clear hcell hr
      go_wp2_with fail
      exact ⟨⟨k + 1, by omega, by go_num, by go_num⟩, by simp [intOf]; omega⟩
    · obtain rfl : k = n := by omega
      go_wp2_with fail
      go_ret
      exact ⟨rfl, rfl⟩
theorem heldSpotSB (v : Value) (n : Nat) (m : Int) (w : World) (h : Rd w v 2 n (ints (marked (n * 2) m))) (hsz : n ≤ 16777216) (hm0 : 0 ≤ m) (hm : m ≤ 1099511627776) :
    Calls Try.prog 26 #[v, .int .i64 m] w fun e w' => e = .returned (.int .i64 (m + n * 2)) ∧ Below w.heap.size w w' := toB (heldSpotS v n m w h hsz hm0 hm)
end Go.Proofs.Ytgbgjlmkmlhefaa
