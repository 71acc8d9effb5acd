/- Contract of spec.AddressesOf: the distinct addresses of a code, ascending. Condition: the code can be read. -/
import Derived.Test.YtfnijeacmgjgdaaI5
import Derived.Test.YtfnijeacmgjgdaaM3b
namespace Go.Proofs.Ytfnijeacmgjgdaa
set_option maxRecDepth 20000
set_option linter.unusedSimpArgs false
set_option linter.unusedVariables false
open Go.ChangeShapes Go.WideShapes Go.ChangeAt Go.RowKit
set_option linter.unusedVariables false
theorem owns_mono {w : World} {base base' : Nat} {e : TypeId} {size : Nat} {v : Value} {n : Nat} {xs : List Value} (h : w.ownsRow base e size v n xs) (hb : base' ≤ base) : w.ownsRow base' e size v n xs := by
  obtain ⟨hl, h0 | ⟨g, cap, cur, h1, h2, h3⟩⟩ := h
  · exact ⟨hl, .inl h0⟩
  · exact ⟨hl, .inr ⟨g, cap, cur, h1, by omega, h3⟩⟩
theorem owns_newInts (w : World) (t : TypeId) : (w.alloc (.cells #[] t)).ownsRow w.heap.size t 1 (.slice (some ⟨w.heap.size, 0, none⟩) 0 0) 0 [] :=
  ⟨rfl, .inr ⟨w.heap.size, 0, #[], rfl, Nat.le_refl _, heap_alloc_new w _, Nat.le_refl _, by simp [maxLen], rfl, rfl⟩⟩
theorem owns_slice {w : World} {base : Nat} {e : TypeId} {size : Nat} {v : Value} {n : Nat} {xs : List Value} (h : w.ownsRow base e size v n xs) : ∃ A c, v = .slice A n c ∧ n ≤ c ∧ c ≤ 9223372036854775807 := by
  obtain ⟨bs, h1, -⟩ := Own.of_owns h
  exact h1.slice
theorem owns_snoc {w : World} {base : Nat} {t : TypeId} {v : Value} {N : List Int} {x : Int} (h : w.ownsRow base t 1 v (N.length + 1) (ints N ++ [.int .i64 x])) : w.ownsRow base t 1 v (N ++ [x]).length (ints (N ++ [x])) := by
  simpa [ints] using h
/-- the list with x in its place -/
def putA (x : Int) : List Int → List Int
  | [] => [x]
  | y :: ys => if x < y then x :: y :: ys else if x = y then y :: ys else y :: putA x ys
def addrAt (xs : List Ins) : List Int := xs.foldl (fun a i => if inA i.o then putA i.n a else a) []
def addrF (xs : List Ins) : List Int := if xs.length ≤ 16 then addrAt xs else []
theorem putA_len (x : Int) : ∀ l : List Int, (putA x l).length ≤ l.length + 1
  | [] => by simp [putA]
  | y :: ys => by
    unfold putA
    have := putA_len x ys
    split
    · simp
    · split <;> simp <;> omega
theorem addrAt_snoc {xs : List Ins} {k : Nat} {x : Ins} (h : xs[k]? = some x) : addrAt (xs.take (k + 1)) = if inA x.o then putA x.n (addrAt (xs.take k)) else addrAt (xs.take k) := by
  unfold addrAt
  rw [List.take_add_one, h]
  simp [List.foldl_append]
/-- the inner loop's invariant: what next holds, m addresses of L taken over -/
def PutAt (x : Int) (L : List Int) (m : Nat) (put : Bool) (N : List Int) : Prop :=
  if put then N ++ L.drop m = putA x L else N = L.take m ∧ L.take m ++ putA x (L.drop m) = putA x L
theorem PutAt.zero (x : Int) (L : List Int) : PutAt x L 0 false [] := by simp [PutAt]
theorem drop_of {α : Type} {L : List α} {m : Nat} {y : α} (h : L[m]? = some y) : L.drop m = y :: L.drop (m + 1) := by
  obtain ⟨h1, h2⟩ := List.getElem?_eq_some_iff.1 h
  rw [List.drop_eq_getElem_cons h1, h2]
theorem take_of {α : Type} {L : List α} {m : Nat} {y : α} (h : L[m]? = some y) : L.take (m + 1) = L.take m ++ [y] := by
  rw [List.take_add_one, h]
  rfl
theorem PutAt.next {x y : Int} {L N : List Int} {m : Nat} (h : PutAt x L m true N) (hy : L[m]? = some y) : PutAt x L (m + 1) true (N ++ [y]) := by
  simp only [PutAt, if_true] at h ⊢
  rw [drop_of hy] at h
  simpa using h
theorem PutAt.lt {x y : Int} {L N : List Int} {m : Nat} (h : PutAt x L m false N) (hy : L[m]? = some y) (hx : x < y) : PutAt x L (m + 1) true (N ++ [x] ++ [y]) := by
  have h2 : N = L.take m ∧ L.take m ++ putA x (L.drop m) = putA x L := by simpa [PutAt] using h
  clear h
  obtain ⟨rfl, h⟩ := h2
  rw [drop_of hy] at h
  simp only [putA, hx, if_true] at h
  simp only [PutAt, if_true]
  rw [← h]
  simp
theorem PutAt.eq {x y : Int} {L N : List Int} {m : Nat} (h : PutAt x L m false N) (hy : L[m]? = some y) (hx : x = y) : PutAt x L (m + 1) true (N ++ [y]) := by
  have h2 : N = L.take m ∧ L.take m ++ putA x (L.drop m) = putA x L := by simpa [PutAt] using h
  clear h
  obtain ⟨rfl, h⟩ := h2
  rw [drop_of hy] at h
  subst hx
  simp [putA] at h
  simp only [PutAt, if_true]
  rw [← h]
  simp
theorem PutAt.gt {x y : Int} {L N : List Int} {m : Nat} (h : PutAt x L m false N) (hy : L[m]? = some y) (hx : y < x) : PutAt x L (m + 1) false (N ++ [y]) := by
  have h2 : N = L.take m ∧ L.take m ++ putA x (L.drop m) = putA x L := by simpa [PutAt] using h
  clear h
  obtain ⟨rfl, h⟩ := h2
  rw [drop_of hy] at h
  simp only [putA, if_neg (show ¬ x < y by omega), if_neg (show ¬ x = y by omega)] at h
  simp only [PutAt, Bool.false_eq_true, if_false]
  rw [take_of hy]
  exact ⟨rfl, by rw [← h]; simp⟩
theorem PutAt.last {x : Int} {L N : List Int} (h : PutAt x L L.length true N) : N = putA x L := by simpa [PutAt] using h
theorem PutAt.end_ {x : Int} {L N : List Int} (h : PutAt x L L.length false N) : N ++ [x] = putA x L := by
  have h2 : N = L.take L.length ∧ L.take L.length ++ putA x (L.drop L.length) = putA x L := by simpa only [PutAt, Bool.false_eq_true, if_false] using h
  clear h
  obtain ⟨rfl, h⟩ := h2
  simpa [putA] using h
set_option maxHeartbeats 400000 in
theorem l01Has (v : Value) (xs : List Int) (x : Int) (w : World) (h : Rd w v 1 xs.length (ints xs)) :
    Calls Try.prog 44 #[v, .int .i64 x] w fun e w' => e = .returned (.bool (xs.any (· == x))) ∧ w = w' := by
  obtain ⟨A, c, rfl, -, hnc, hc, hr⟩ := h
  unfold maxLen at hc
  go_enter Try.func44, Try.ntmps44
  go_wp2
  go_loop [5] (fun i => ∃ k : Nat, k ≤ xs.length ∧ i = .int .i64 k ∧ Hid (xs.any (· == x) = (xs.drop k).any (· == x))) (fun i => xs.length - (intOf i).toNat)
  case atStart => exact ⟨0, Nat.zero_le _, rfl, Lib.hid rfl⟩
  case round =>
    obtain ⟨k, hk, rfl, HA⟩ := hrel
    by_cases hlt : k < xs.length
    · obtain ⟨b, o, rfl, hb, hcell⟩ := hr (by omega)
      obtain ⟨y, hyk, hy⟩ := int_at hcell hlt
      have hdr := drop_of hyk.out
      clear hcell hr
      by_cases he : y = x
      · subst he
        have HH : Hid (xs.any (· == y) = true) := Lib.hid (by rw [HA.out, hdr]; simp)
        have hq : (y == y) = true := by simp
        clear hdr
        go_wp2_with fail
        go_ret
        exact ⟨ret_bool HH.out.symm, rfl⟩
      · have HH : Hid (xs.any (· == x) = (xs.drop (k + 1)).any (· == x)) := Lib.hid (by rw [HA.out, hdr]; simp [he])
        have hq : (y == x) = false := by simp [he]
        clear hdr
        go_wp2_with fail
        exact ⟨⟨k + 1, by omega, by go_num, HH⟩, by simp [intOf]; omega⟩
    · obtain rfl : k = xs.length := by omega
      have HH : Hid (xs.any (· == x) = false) := Lib.hid (by rw [HA.out]; simp)
      go_wp2_with fail
      go_ret
      exact ⟨ret_bool HH.out.symm, rfl⟩
set_option maxHeartbeats 3200000 in
theorem spec_AddressesOf (v : Value) (xs : List Ins) (w : World) (h : Rd w v 4 xs.length (flc xs)) :
    Calls Try.prog 19 #[v] w (RetInts (addrF xs) w) := by
  obtain ⟨A, c, rfl, -, hnc, hc, hr⟩ := h
  unfold maxLen at hc
  obtain ⟨i, hi, hiz0, hiz1, hiz2⟩ := info_parts infoInt
  have hO0 := owns_newInts w 3
  have hB0 := (Below.refl w.heap.size w).alloc (Nat.le_refl _) (.cells #[] 3)
  by_cases hlen : xs.length ≤ 16
  · have HF : Hid (addrF xs = addrAt xs) := Lib.hid (by simp [addrF, hlen])
    go_enter Try.func19, Try.ntmps19
    go_wp2_with fail
    go_loopw [3, 4] (fun v j wr => ∃ (k : Nat) (L : List Int), k ≤ xs.length ∧ j = .int .i64 k ∧ L.length ≤ k ∧ Hid (L = addrAt (xs.take k)) ∧ wr.ownsRow w.heap.size 3 1 v L.length (ints L) ∧ Below w.heap.size w wr) (fun _ j _ => xs.length - (intOf j).toNat)
    case atStart => exact ⟨0, [], Nat.zero_le _, rfl, Nat.le_refl _, Lib.hid rfl, hO0, hB0⟩
    case round =>
      obtain ⟨k, L, hk, rfl, hL, HL, hO, hB⟩ := hrel
      clear hO0 hB0
      by_cases hlt : k < xs.length
      · obtain ⟨b, o, rfl, hb, hcell⟩ := hr (by omega)
        obtain ⟨x, hxk, hx0, -, -, hx3⟩ := ins_at (fun j u hu => (hB.cell (p := ⟨b, o + j, none⟩) hb).trans (hcell j u hu)) hlt
        have lb : b < wr.heap.size := Nat.lt_of_lt_of_le hb hB.size
        have HS := Lib.hid (addrAt_snoc hxk.out)
        rename World => wo
        obtain ⟨AL, cL, rfl, hcL, hcm⟩ := owns_slice hO
        have hC := l01Has _ [2, 3, 5, 7] x.o _ (Rd.newInts wo [2, 3, 5, 7] 3 rfl (by simp))
        have hany : (([2, 3, 5, 7] : List Int).any (· == x.o)) = inA x.o := rfl
        rw [hany] at hC
        have HC := Lib.hid hC
        clear hC hany hcell hr
        cases hA : inA x.o
        · have HA := Lib.hid hA
          rw [hA] at HC
          clear hA
          go_wp2_with fail
          refine HC.out.mono ?_
          rintro e w1 ⟨rfl, rfl⟩
          go_wp2_with fail
          exact ⟨⟨k + 1, L, by omega, by go_num, by omega, Lib.hid (by rw [HS.out, HA.out, HL.out]; rfl), hO.alloc _, hB.alloc hB.size _⟩, by simp [intOf]; omega⟩
        · have HA := Lib.hid hA
          rw [hA] at HC
          clear hA
          go_wp2_with fail
          refine HC.out.mono ?_
          rintro e w1 ⟨rfl, rfl⟩
          obtain ⟨wv, hwv⟩ : ∃ wv, wo.alloc (.cells (ints [2, 3, 5, 7]).toArray 3) = wv := ⟨_, rfl⟩
          have hBw : Below wo.heap.size wo wv := by rw [← hwv]; exact (Below.refl _ _).alloc (Nat.le_refl _) _
          have hx3' := (hBw.cell (p := ⟨b, o + k * 4 + 3, none⟩) lb).trans hx3
          have hOw : wv.ownsRow w.heap.size 3 1 (.slice AL L.length cL) L.length (ints L) := by rw [← hwv]; exact hO.alloc _
          have hsz : wo.heap.size < wv.heap.size := by rw [← hwv]; simp
          rw [hwv]
          clear hwv
          have hN0 := owns_newInts wv 3
          have hBn := (Below.refl wv.heap.size wv).alloc (Nat.le_refl _) (.cells #[] 3)
          obtain ⟨bsL, hOL, -⟩ := Own.of_owns hOw
          obtain ⟨AL', cL', hLe, -, -, -, hLr⟩ := hOL.rd
          injection hLe with e1 e2 e3
          subst e1
          subst e3
          clear hOL e2
          have hlow : b < wv.heap.size := by omega
          go_wp2_with fail
          go_loopw [5, 6, 7] (fun v p j ws => ∃ (m : Nat) (put : Bool) (N : List Int), m ≤ L.length ∧ j = .int .i64 m ∧ p = .bool put ∧ N.length ≤ m + put.toNat ∧ Hid (PutAt x.n L m put N) ∧ ws.ownsRow wv.heap.size 3 1 v N.length (ints N) ∧ Below wv.heap.size wv ws) (fun _ _ j _ => L.length - (intOf j).toNat)
          case atStart => exact ⟨0, false, [], Nat.zero_le _, rfl, rfl, by simp, Lib.hid (PutAt.zero _ _), hN0, hBn⟩
          case round =>
            obtain ⟨m, put, N, hm, rfl, rfl, hN, HP, hO2, hB2⟩ := hrel
            clear hN0 hBn
            by_cases hml : m < L.length
            · obtain ⟨b', o', rfl, hb', hcell'⟩ := hLr (by omega)
              obtain ⟨y, hym, hy⟩ := int_at hcell' hml
              have hy' := (hB2.cell (p := ⟨b', o' + m, none⟩) hb').trans hy
              have hx' := (hB2.cell (p := ⟨b, o + k * 4 + 3, none⟩) hlow).trans hx3'
              clear hcell' hLr
              have hord : put = true ∨ put = false ∧ (x.n < y ∨ x.n = y ∨ y < x.n) := by cases put <;> simp <;> omega
              rcases hord with rfl | ⟨rfl, hlt' | heq' | hgt'⟩
              · simp only [Bool.toNat_true] at hN
                have HP' := Lib.hid (HP.out.next hym.out)
                go_wp2_with fail
                go_quiet (fail)
                have hO2 : (wr.drewN nq).ownsRow wv.heap.size 3 1 u5 N.length (ints N) := hO2
                have hB2 := below_more hB2 nq
                have hy' := (hB2.cell (p := ⟨b', o' + m, none⟩) hb').trans hy
                have hx' := (hB2.cell (p := ⟨b, o + k * 4 + 3, none⟩) hlow).trans hx3'
                generalize wr.drewN nq = wr at hO2 hB2 hy' hx' ⊢

                go_wp2_with (at_builtin; refine wpList_append_own _ rfl _ _ 43 rfl (wv.heap.size) 3 i (.int .i64 0) 1 8 Try.underlying43 hi hiz0 hiz1 hiz2 rfl (by decide) _ _ _ rfl (hO2.alloc _) ⟨wr.heap.size, 0, none⟩ 1 1 [.int .i64 y] rfl rfl ?aq1 ?aq2 ?aq3 ?aq4 ?aq5 ?_)
                case aq1 => exact new_cells _ _ _
                case aq2 => simp [Value.oneCell']
                case aq3 => unfold maxLen; omega
                case aq4 => omega
                case aq5 => have := hB2.size; simp; omega
                intro v1 w1 hown1 hg1 _
                have hB3 := (hB2.alloc hB2.size _).grown hg1 (by have := hB2.size; simp; omega) (fun k hk => by have := (hO2.lt k hk).1; omega)
                go_wp2_with fail
                exact ⟨⟨m + 1, true, N ++ [y], by omega, by go_num, rfl, by simp; omega, HP', owns_snoc hown1, hB3⟩, by simp [intOf]; omega⟩
              · simp only [Bool.toNat_false] at hN
                have hd1 : decide (x.n ≤ y) = true := by simp; omega
                have hd2 : decide (x.n < y) = true := by simp; omega
                have HP' := Lib.hid (HP.out.lt hym.out hlt')
                go_wp2_with fail
                go_quiet (fail)
                have hO2 : (wr.drewN nq).ownsRow wv.heap.size 3 1 u5 N.length (ints N) := hO2
                have hB2 := below_more hB2 nq
                have hy' := (hB2.cell (p := ⟨b', o' + m, none⟩) hb').trans hy
                have hx' := (hB2.cell (p := ⟨b, o + k * 4 + 3, none⟩) hlow).trans hx3'
                generalize wr.drewN nq = wr at hO2 hB2 hy' hx' ⊢
                go_wp2_with fail
                go_quiet (fail)
                have hO2 : (wr.drewN nq).ownsRow wv.heap.size 3 1 u5 N.length (ints N) := hO2
                have hB2 := below_more hB2 nq
                have hy' := (hB2.cell (p := ⟨b', o' + m, none⟩) hb').trans hy
                have hx' := (hB2.cell (p := ⟨b, o + k * 4 + 3, none⟩) hlow).trans hx3'
                generalize wr.drewN nq = wr at hO2 hB2 hy' hx' ⊢

                go_wp2_with (at_builtin; refine wpList_append_own _ rfl _ _ 43 rfl (wv.heap.size) 3 i (.int .i64 0) 1 8 Try.underlying43 hi hiz0 hiz1 hiz2 rfl (by decide) _ _ _ rfl (hO2.alloc _) ⟨wr.heap.size, 0, none⟩ 1 1 [.int .i64 x.n] rfl rfl ?bq1 ?bq2 ?bq3 ?bq4 ?bq5 ?_)
                case bq1 => exact new_cells _ _ _
                case bq2 => simp [Value.oneCell']
                case bq3 => unfold maxLen; omega
                case bq4 => omega
                case bq5 => have := hB2.size; simp; omega
                intro v1 w1 hown1 hg1 _
                have hB3 := (hB2.alloc hB2.size _).grown hg1 (by have := hB2.size; simp; omega) (fun k hk => by have := (hO2.lt k hk).1; omega)
                have hy2 := (hB3.cell (p := ⟨b', o' + m, none⟩) hb').trans hy
                have hO3 := owns_snoc hown1
                have hl3 : (N ++ [x.n]).length ≤ m + 1 := by simp; omega
                have hl4 : (N ++ [x.n]).length = N.length + 1 := by simp
                obtain ⟨A5, c5, rfl, -, -⟩ := owns_slice hO3
                clear hown1 hg1
                generalize N ++ [x.n] = N1 at *
                clear hl4
                go_wp2_with (at_builtin; refine wpList_append_own _ rfl _ _ 43 rfl (wv.heap.size) 3 i (.int .i64 0) 1 8 Try.underlying43 hi hiz0 hiz1 hiz2 rfl (by decide) _ _ _ rfl (hO3.alloc _) ⟨w1.heap.size, 0, none⟩ 1 1 [.int .i64 y] rfl rfl ?cq1 ?cq2 ?cq3 ?cq4 ?cq5 ?_)
                case cq1 => exact new_cells _ _ _
                case cq2 => simp [Value.oneCell']
                case cq3 => unfold maxLen; omega
                case cq4 => omega
                case cq5 => have := hB3.size; simp; omega
                intro v2 w2 hown2 hg2 _
                have hB4 := (hB3.alloc hB3.size _).grown hg2 (by have := hB3.size; simp; omega) (fun k hk => by have := (hO3.lt k hk).1; omega)
                go_wp2_with fail
                exact ⟨⟨m + 1, true, N1 ++ [y], by omega, by go_num, rfl, by simp; omega, HP', owns_snoc hown2, hB4⟩, by simp [intOf]; omega⟩
              · simp only [Bool.toNat_false] at hN
                have hd1 : decide (x.n ≤ y) = true := by simp; omega
                have hd2 : decide (x.n < y) = false := by simp; omega
                have HP' := Lib.hid (HP.out.eq hym.out heq')
                clear heq'
                go_wp2_with fail
                go_quiet (fail)
                have hO2 : (wr.drewN nq).ownsRow wv.heap.size 3 1 u5 N.length (ints N) := hO2
                have hB2 := below_more hB2 nq
                have hy' := (hB2.cell (p := ⟨b', o' + m, none⟩) hb').trans hy
                have hx' := (hB2.cell (p := ⟨b, o + k * 4 + 3, none⟩) hlow).trans hx3'
                generalize wr.drewN nq = wr at hO2 hB2 hy' hx' ⊢
                go_wp2_with fail
                go_quiet (fail)
                have hO2 : (wr.drewN nq).ownsRow wv.heap.size 3 1 u5 N.length (ints N) := hO2
                have hB2 := below_more hB2 nq
                have hy' := (hB2.cell (p := ⟨b', o' + m, none⟩) hb').trans hy
                have hx' := (hB2.cell (p := ⟨b, o + k * 4 + 3, none⟩) hlow).trans hx3'
                generalize wr.drewN nq = wr at hO2 hB2 hy' hx' ⊢
                go_wp2_with (at_builtin; refine wpList_append_own _ rfl _ _ 43 rfl (wv.heap.size) 3 i (.int .i64 0) 1 8 Try.underlying43 hi hiz0 hiz1 hiz2 rfl (by decide) _ _ _ rfl (hO2.alloc _) ⟨wr.heap.size, 0, none⟩ 1 1 [.int .i64 y] rfl rfl ?dq1 ?dq2 ?dq3 ?dq4 ?dq5 ?_)
                case dq1 => exact new_cells _ _ _
                case dq2 => simp [Value.oneCell']
                case dq3 => unfold maxLen; omega
                case dq4 => omega
                case dq5 => have := hB2.size; simp; omega
                intro v1 w1 hown1 hg1 _
                have hB3 := (hB2.alloc hB2.size _).grown hg1 (by have := hB2.size; simp; omega) (fun k hk => by have := (hO2.lt k hk).1; omega)
                go_wp2_with fail
                exact ⟨⟨m + 1, true, N ++ [y], by omega, by go_num, rfl, by simp; omega, HP', owns_snoc hown1, hB3⟩, by simp [intOf]; omega⟩
              · simp only [Bool.toNat_false] at hN
                have hd1 : decide (x.n ≤ y) = false := by simp; omega
                have HP' := Lib.hid (HP.out.gt hym.out hgt')
                go_wp2_with fail
                go_quiet (fail)
                have hO2 : (wr.drewN nq).ownsRow wv.heap.size 3 1 u5 N.length (ints N) := hO2
                have hB2 := below_more hB2 nq
                have hy' := (hB2.cell (p := ⟨b', o' + m, none⟩) hb').trans hy
                have hx' := (hB2.cell (p := ⟨b, o + k * 4 + 3, none⟩) hlow).trans hx3'
                generalize wr.drewN nq = wr at hO2 hB2 hy' hx' ⊢
                go_wp2_with (at_builtin; refine wpList_append_own _ rfl _ _ 43 rfl (wv.heap.size) 3 i (.int .i64 0) 1 8 Try.underlying43 hi hiz0 hiz1 hiz2 rfl (by decide) _ _ _ rfl (hO2.alloc _) ⟨wr.heap.size, 0, none⟩ 1 1 [.int .i64 y] rfl rfl ?eq1 ?eq2 ?eq3 ?eq4 ?eq5 ?_)
                case eq1 => exact new_cells _ _ _
                case eq2 => simp [Value.oneCell']
                case eq3 => unfold maxLen; omega
                case eq4 => omega
                case eq5 => have := hB2.size; simp; omega
                intro v1 w1 hown1 hg1 _
                have hB3 := (hB2.alloc hB2.size _).grown hg1 (by have := hB2.size; simp; omega) (fun k hk => by have := (hO2.lt k hk).1; omega)
                go_wp2_with fail
                exact ⟨⟨m + 1, false, N ++ [y], by omega, by go_num, rfl, by simp; omega, HP', owns_snoc hown1, hB3⟩, by simp [intOf]; omega⟩
            · obtain rfl : m = L.length := by omega
              have hx' := (hB2.cell (p := ⟨b, o + k * 4 + 3, none⟩) hlow).trans hx3'
              have hBz := hB.trans ((hBw.trans (hB2.mono (by omega))).mono hB.size)
              cases put
              · have HP' := Lib.hid HP.out.end_
                simp only [Bool.toNat_false] at hN
                go_wp2_with (at_builtin; refine wpList_append_own _ rfl _ _ 43 rfl (wv.heap.size) 3 i (.int .i64 0) 1 8 Try.underlying43 hi hiz0 hiz1 hiz2 rfl (by decide) _ _ _ rfl (hO2.alloc _) ⟨wr.heap.size, 0, none⟩ 1 1 [.int .i64 x.n] rfl rfl ?fq1 ?fq2 ?fq3 ?fq4 ?fq5 ?_)
                case fq1 => exact new_cells _ _ _
                case fq2 => simp [Value.oneCell']
                case fq3 => unfold maxLen; omega
                case fq4 => omega
                case fq5 => have := hB2.size; simp; omega
                intro v1 w1 hown1 hg1 _
                have hB3 := (hB2.alloc hB2.size _).grown hg1 (by have := hB2.size; simp; omega) (fun k hk => by have := (hO2.lt k hk).1; omega)
                go_wp2_with fail
                have hBy := hB.trans ((hBw.trans (hB3.mono (by omega))).mono hB.size)
                exact ⟨⟨k + 1, N ++ [x.n], by omega, by go_num, by simp; omega, Lib.hid (by rw [HP'.out, HS.out, if_pos HA.out, HL.out]), owns_mono (owns_snoc hown1) (by have := hB.size; omega), hBy⟩, by simp [intOf]; omega⟩
              · have HP' := Lib.hid HP.out.last
                simp only [Bool.toNat_true] at hN
                go_wp2_with fail
                exact ⟨⟨k + 1, N, by omega, by go_num, by omega, Lib.hid (by rw [HP'.out, HS.out, if_pos HA.out, HL.out]), owns_mono hO2 (by have := hB.size; omega), hBz⟩, by simp [intOf]; omega⟩
      · obtain rfl : k = xs.length := by omega
        have HN := HL.out
        rw [List.take_length] at HN
        obtain ⟨bs, h1, h2⟩ := Own.of_owns hO
        have HN := Lib.hid HN
        clear hr
        go_wp2_with fail
        go_ret
        exact ⟨_, bs, rfl, by rw [HF.out, ← HN.out]; exact h1, h2, hB⟩
  · have HF : Hid (addrF xs = []) := Lib.hid (by simp [addrF, hlen])
    clear hr hO0
    go_enter Try.func19, Try.ntmps19
    go_wp2_with fail
    go_ret
    exact ⟨_, [], rfl, by rw [HF.out]; exact Own.nil _ _, by simp, hB0⟩
end Go.Proofs.Ytfnijeacmgjgdaa
