/- Contracts of the smaller functions under impl.BenchOk: a sorted row, an object that was created, the holds. Conditions: the bench's rows can be read; lengths that a law bounds. -/
import Derived.Test.YtkpgjeeofghldaaN1
import Derived.Test.YtkpgjeeofghldaaVM
import Derived.Test.YtkpgjeeofghldaaI1
import Derived.DeepKeys4
namespace Go.Proofs.Ytkpgjeeofghldaa
set_option maxRecDepth 20000
set_option linter.unusedSimpArgs false
set_option linter.unusedVariables false
open Go.ChangeShapes Go.WideShapes Go.ChangeAt Go.RowKit Go.Maps
set_option linter.unusedVariables false
theorem isNaN_int (x : Int) (w : World) : Calls Try.prog 29 #[.int .i64 x] w fun e w' => e = .returned (.bool false) ∧ w = w' := by
  have h : (x != x) = false := by simp
  go_enter Try.func29, Try.ntmps29
  go_wp2
  go_ret
  exact ⟨rfl, rfl⟩
theorem less_int (x y : Int) (w : World) : Calls Try.prog 26 #[.int .i64 x, .int .i64 y] w fun e w' => e = .returned (.bool (decide (x < y))) ∧ w = w' := by
  go_enter Try.func26, Try.ntmps26
  go_wp2_with (go_at_call 29; refine (isNaN_int _ _).mono ?_; rintro e w' ⟨rfl, rfl⟩)
  go_ret
  exact ⟨rfl, rfl⟩
theorem pairwise_le_of {l : List Int} (h : ∀ j x y, l[j]? = some x → l[j + 1]? = some y → x ≤ y) : l.Pairwise (· ≤ ·) := by
  induction l with
  | nil => exact List.Pairwise.nil
  | cons a l ih =>
    have h1 := ih fun i x y hx hy => h (i + 1) x y (by simpa using hx) (by simpa using hy)
    refine List.pairwise_cons.2 ⟨fun b hb => ?_, h1⟩
    cases l with
    | nil => simp at hb
    | cons c l =>
      have hac := h 0 a c (by simp) (by simp)
      rcases List.mem_cons.1 hb with rfl | hb
      · exact hac
      · exact Int.le_trans hac ((List.pairwise_cons.1 h1).1 b hb)
set_option maxHeartbeats 1600000 in
theorem isSorted_int (v : Value) (xs : List Int) (w : World) (h : Rd w v 1 xs.length (ints xs)) :
    Calls Try.prog 21 #[v] w fun e w' => e = .returned (.bool (decide (xs.Pairwise (· ≤ ·)))) ∧ ∃ n, w' = w.drewN n := by
  obtain ⟨A, c, rfl, -, hnc, hc, hr⟩ := h
  unfold maxLen at hc
  by_cases h0 : xs.length = 0
  · have hx : xs = [] := List.eq_nil_of_length_eq_zero h0
    subst hx
    go_enter Try.func21, Try.ntmps21
    go_wp2
    go_loop [3] (fun i => i = .int .i64 (-1)) (fun _ => 0)
    case atStart => rfl
    case round =>
      obtain rfl := hrel
      go_wp2
      go_ret
      exact ⟨ret_bool (by simp), 0, rfl⟩
  · have hpos : 0 < xs.length := by omega
    obtain ⟨b, o, rfl, hb, hcell⟩ := hr hpos
    go_enter Try.func21, Try.ntmps21
    go_wp2
    go_loopw [3] (fun i wr => ∃ k nq : Nat, k < xs.length ∧ i = .int .i64 k ∧ Hid (∀ j x y, k ≤ j → xs[j]? = some x → xs[j + 1]? = some y → x ≤ y) ∧ wr = w.drewN nq) (fun i _ => (intOf i).toNat)
    case atStart => exact ⟨xs.length - 1, 0, by omega, by go_num, Lib.hid (fun j x y h1 h2 h3 => by have := (List.getElem?_eq_some_iff.1 h3).1; omega), rfl⟩
    case round =>
      obtain ⟨k, nq, hk, rfl, HA, rfl⟩ := hrel
      by_cases hlt : 0 < k
      · obtain ⟨j, rfl⟩ : ∃ j, k = j + 1 := ⟨k - 1, by omega⟩
        obtain ⟨x, hxk, hx⟩ := int_at (k := j) hcell (by omega)
        obtain ⟨y, hyk, hy⟩ := int_at (k := j + 1) hcell hk
        have hx' : w.cell? ⟨b, o + j, none⟩ = some (.int .i64 x) := hx
        clear hr hcell
        obtain ⟨d, hd⟩ : ∃ d, decide (y < x) = d := ⟨_, rfl⟩
        obtain ⟨WW, hWW⟩ : ∃ WW, WW = w.drewN nq := ⟨_, rfl⟩
        have s1 : WW.cell? ⟨b, o + j, none⟩ = some (.int .i64 x) := by rw [hWW]; exact hx
        have s2 : WW.cell? ⟨b, o + (j + 1), none⟩ = some (.int .i64 y) := by rw [hWW]; exact hy
        have HQ : Hid (∀ W : World, Calls Try.prog 26 #[.int .i64 y, .int .i64 x] W fun e w' => e = .returned (.bool d) ∧ ∃ n, w' = W.drewN n) := Lib.hid (fun W => (less_int y x W).mono fun e w' h => ⟨by rw [h.1, hd], 0, h.2.symm⟩)
        have HD := Lib.hid hd
        have HWW := Lib.hid hWW
        rw [← hWW]
        clear hx hy hx' hWW hd
        cases d
        · have HN : Hid (∀ i x y, j ≤ i → xs[i]? = some x → xs[i + 1]? = some y → x ≤ y) := Lib.hid (fun i x' y' hi hx' hy' => by
            by_cases hij : i = j
            · subst hij
              have e1 := hxk.out.symm.trans hx'
              have e2 := hyk.out.symm.trans hy'
              have e3 := of_decide_eq_false HD.out
              injection e1 with e1
              injection e2 with e2
              omega
            · exact HA.out i x' y' (by omega) hx' hy')
          go_wp2_with fail
          go_quiet ((go_at_call 26; exact Calls.quiet_of (HQ.out _)))
          go_wp2_with fail
          exact ⟨⟨j, _, by omega, by go_num, HN, by rw [HWW.out]; exact World.drewN_drewN _ _ _⟩, by simp [intOf]⟩
        · have HN : Hid (decide (xs.Pairwise (· ≤ ·)) = false) := Lib.hid (decide_eq_false (fun hp => by
            obtain ⟨h1, e1⟩ := List.getElem?_eq_some_iff.1 hxk.out
            obtain ⟨h2, e2⟩ := List.getElem?_eq_some_iff.1 hyk.out
            have := (List.pairwise_iff_getElem.1 hp) j (j + 1) h1 h2 (by omega)
            rw [e1, e2] at this
            have e3 := of_decide_eq_true HD.out
            first | omega | exact absurd e3 (by omega)))
          go_wp2_with fail
          go_quiet ((go_at_call 26; exact Calls.quiet_of (HQ.out _)))
          go_wp2_with fail
          go_ret
          exact ⟨ret_bool HN.out.symm, _, by rw [HWW.out]; exact World.drewN_drewN _ _ _⟩
      · obtain rfl : k = 0 := by omega
        have HN : Hid (decide (xs.Pairwise (· ≤ ·)) = true) := Lib.hid (decide_eq_true (pairwise_le_of (fun j x y h1 h2 => HA.out j x y (Nat.zero_le _) h1 h2)))
        go_wp2_with fail
        go_ret
        exact ⟨ret_bool HN.out.symm, _, rfl⟩
def crB (n x : Int) : Bool := decide (1 ≤ x) && decide (x < n)
set_option maxHeartbeats 800000 in
theorem impl_created (A1 A2 A3 A4 : Option Addr) (l1 l2 l3 l4 c1 c2 c3 c4 : Nat) (n x : Int) (w : World) :
    Calls Try.prog 25 #[.agg #[.slice A1 l1 c1, .slice A2 l2 c2, .slice A3 l3 c3, .slice A4 l4 c4, .int .i64 n], .int .i64 x] w fun e w' => e = .returned (.bool (crB n x)) ∧ Below w.heap.size w w' := by
  have hB := (Below.refl w.heap.size w).alloc (Nat.le_refl _) (.cells #[.slice A1 l1 c1, .slice A2 l2 c2, .slice A3 l3 c3, .slice A4 l4 c4, .int .i64 n] 30)
  by_cases h1 : 1 ≤ x
  · have HC : Hid (crB n x = decide (x < n)) := Lib.hid (by simp [crB, h1])
    go_enter Try.func25, Try.ntmps25
    go_wp2_with fail
    go_ret
    exact ⟨ret_bool HC.out.symm, hB⟩
  · have HC : Hid (crB n x = false) := Lib.hid (by simp [crB, h1])
    go_enter Try.func25, Try.ntmps25
    go_wp2_with fail
    go_ret
    exact ⟨ret_bool HC.out.symm, hB⟩
theorem laidOut : laidOutB Try.prog = true := by kernel_rfl
theorem hold_row : (44 : TypeId) < Try.prog.types.size := of_decide_eq_true (by kernel_rfl)
theorem hold_wide : (match Try.prog.underlying 44 with | some (.array _ _) | some (.struct _) => true | _ => false) = true := by rw [Try.underlying44]
theorem holdK : Keyed Try.prog 44 := Keyed.of_law (deep_law_laid laidOut (m := 2) (by omega) hold_row (by kernel_rfl) hold_wide)
theorem intK : Keyed Try.prog 3 := int_keyed Try.underlying3
def kH (e : P2) : Lit := .string (keyBytes [.int .i64 e.a, .int .i64 e.b])
theorem hold_cells : Try.prog.cellsOf 44 = 2 := by kernel_rfl
theorem int_cells : Try.prog.cellsOf 3 = 1 := by kernel_rfl
theorem hold_types : ∃ n, Try.prog.types.size = n + 1 := Nat.exists_eq_succ_of_ne_zero (Nat.ne_of_gt (Nat.lt_of_le_of_lt (Nat.zero_le _) hold_row))
theorem keyOf_hold (e : P2) (ha : (Lit.int .i64 e.a).wf = true) (hb : (Lit.int .i64 e.b).wf = true) : keyOf Try.prog 44 (.agg #[.int .i64 e.a, .int .i64 e.b]) = some (kH e) := by
  obtain ⟨n, hn⟩ := hold_types
  have h1 : Try.prog.keyType 44 = true := by kernel_rfl
  have h2 : (Value.agg #[.int .i64 e.a, .int .i64 e.b]).formed Try.prog 44 = true := by simp [Value.formed, Try.underlying44, hold_cells]
  have h3 : Try.prog.keyLits (Try.prog.types.size + 1) 44 (Value.agg #[.int .i64 e.a, .int .i64 e.b]).cells.toList = some [.int .i64 e.a, .int .i64 e.b] := by
    rw [hn]
    simp [Program.keyLits, Try.underlying44, Try.underlying3, hold_cells, int_cells, Value.cells, ha, hb]
  unfold keyOf
  rw [Try.underlying44]
  simp only [h1, h2, h3, Bool.and_self, if_true, Option.map_some]
  rfl
end Go.Proofs.Ytkpgjeeofghldaa
