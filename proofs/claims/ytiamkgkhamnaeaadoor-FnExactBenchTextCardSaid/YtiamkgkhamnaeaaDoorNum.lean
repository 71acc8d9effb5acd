/- The model's text of a number (l01Num) and of a line of numbers (l01Line): the decimal numeral of Go's strconv. No condition. -/
import Derived.Test.YtiamkgkhamnaeaaDoorS1
import Derived.Lib.ItoaNum
import Derived.Lib.Join
import Derived.WalkSpells
namespace Go.Proofs.YtiamkgkhamnaeaaDoor
set_option maxRecDepth 20000
set_option linter.unusedSimpArgs false
set_option linter.unusedVariables false
open Go.ChangeShapes Go.WideShapes Go.ChangeAt Go.RowKit
set_option linter.unusedVariables false
theorem itoa_zero : Lib.itoa 0 = [48] := by
  rw [Lib.itoa, if_neg (by omega), Lib.decDigits, dif_pos (by decide)]
  rfl
theorem ret_str {a b : List UInt8} (h : a = b) : Ending.returned (.string ⟨a.toArray⟩) = .returned (.string ⟨b.toArray⟩) := by rw [h]
def digs (n : Nat) : List UInt8 := if n = 0 then [] else Lib.decDigits n
theorem digs_step (n : Nat) (h : n ≠ 0) : digs n = digs (n / 10) ++ [UInt8.ofNat (48 + n % 10)] := by
  unfold digs
  rw [if_neg h, Lib.decDigits]
  by_cases h1 : n < 10
  · rw [dif_pos h1, if_pos (by omega), Nat.mod_eq_of_lt h1]
    rfl
  · rw [dif_neg h1, if_neg (by omega)]
theorem digs_le : ∀ (k n : Nat), n < 10 ^ k → (digs n).length ≤ k
  | 0, n, h => by
    have : n = 0 := by simpa using h
    subst this
    simp [digs]
  | k + 1, n, h => by
    by_cases h0 : n = 0
    · subst h0
      simp [digs]
    · rw [digs_step n h0, List.length_append]
      have := digs_le k (n / 10) (by rw [Nat.pow_succ] at h; omega)
      simp
      omega
theorem bytes_app (a b : List UInt8) : (⟨a.toArray⟩ : ByteArray) ++ ⟨b.toArray⟩ = ⟨(a ++ b).toArray⟩ := ByteArray.ext (by simp)
theorem itoa_digs {x : Int} (h : x ≠ 0) : Lib.itoa x = if x < 0 then 45 :: digs x.natAbs else digs x.natAbs := by
  unfold Lib.itoa digs
  split
  · rw [if_neg (by omega)]
  · rw [if_neg (by omega), show x.toNat = x.natAbs by omega]
theorem conv_one (w : World) (z : Int) (d : Nat) (hz : z = (48 + d : Nat)) (hd : d < 10) : (convert 52 9 (.slice (some ⟨w.heap.size, 0, none⟩) 1 1)).run Tryd.prog (w.alloc (.cells #[.int .u8 z] 5)) =
    .ok (.string ⟨[UInt8.ofNat (48 + d)].toArray⟩) (w.alloc (.cells #[.int .u8 z] 5)) := by
  rw [run_convert_bytes_arg (P := Tryd.prog) _ 52 5 Tryd.underlying52 Tryd.underlying5 w.heap.size 0 1 1 [z] rfl (fun i hi => by obtain rfl : i = 0 := (by omega); simp [World.cell?_alloc_new]) 9 Tryd.underlying9]
  subst hz
  rfl
set_option maxRecDepth 20000 in
set_option maxHeartbeats 1000000 in
theorem l01Num (x : Int) (w : World) (hx : -9223372036854775808 ≤ x ∧ x ≤ 9223372036854775807) :
    Calls Tryd.prog 12 #[.int .i64 x] w fun e w' => e = .returned (str (Lib.itoa x)) ∧ Below w.heap.size w w' := by
  by_cases h0 : x = 0
  · subst h0
    go_enter Tryd.func12, Tryd.ntmps12
    go_wp2_with fail
    go_ret
    exact ⟨ret_str itoa_zero.symm, Below.refl _ _⟩
  · have hb0 : (x == 0) = false := by simp [h0]
    have H0 := Lib.hid h0
    clear h0
    go_enter Tryd.func12, Tryd.ntmps12
    go_wp2_with fail
    go_loopw [0, 3] (fun a o wr => ∃ (y : Int) (L : List UInt8), a = .int .i64 y ∧ o = str L ∧ -9223372036854775808 ≤ y ∧ y ≤ 9223372036854775807 ∧ Hid (digs x.natAbs = digs y.natAbs ++ L) ∧ Below w.heap.size w wr) (fun a _ _ => (intOf a).natAbs)
    case atStart => exact ⟨x, [], rfl, rfl, hx.1, hx.2, Lib.hid (by simp), Below.refl _ _⟩
    case round =>
      obtain ⟨y, L, rfl, rfl, hy1, hy2, HD, hB⟩ := hrel
      have hL : L.length ≤ 19 := by
        have h1 := congrArg List.length HD.out
        have h2 := digs_le 19 x.natAbs (by omega)
        rw [List.length_append] at h1
        omega
      have hL1 : ¬ 9223372036854775807 < 1 + L.length := by omega
      by_cases hy : y = 0
      · have hyb : (y != 0) = false := by simp [hy]
        have HX : Hid (L = digs x.natAbs) := Lib.hid (by have := HD.out; rw [hy] at this; simpa [digs] using this.symm)
        clear hy
        by_cases hneg : x < 0
        · go_wp2_with fail
          go_ret
          refine ⟨?_, hB⟩
          rw [itoa_digs H0.out, if_pos hneg, ← HX.out]
          exact congrArg (fun s => Ending.returned (.string s)) (bytes_app [45] L)
        · go_wp2_with fail
          go_ret
          refine ⟨?_, hB⟩
          rw [itoa_digs H0.out, if_neg (by omega), ← HX.out]
          rfl
      · have hyb : (y != 0) = true := by simp [hy]
        have fin : ∀ (d : Nat) (z : Int), d = y.natAbs % 10 → z.natAbs = y.natAbs / 10 → -9223372036854775808 ≤ z → z ≤ 9223372036854775807 → ∀ o : Obj, (∃ (y' : Int) (L' : List UInt8), Value.int .i64 z = .int .i64 y' ∧ Value.string ((⟨#[48 + UInt8.ofNat d]⟩ : ByteArray) ++ ⟨L.toArray⟩) = str L' ∧ -9223372036854775808 ≤ y' ∧ y' ≤ 9223372036854775807 ∧ Hid (digs x.natAbs = digs y'.natAbs ++ L') ∧ Below w.heap.size w (wr.alloc o)) := by
          intro d z hd hz h1 h2 o
          refine ⟨z, UInt8.ofNat (48 + d) :: L, rfl, ?_, h1, h2, Lib.hid ?_, hB.alloc hB.size o⟩
          · have e : (48 : UInt8) + UInt8.ofNat d = UInt8.ofNat (48 + d) := by rw [UInt8.ofNat_add]; rfl
            rw [e]
            exact congrArg Value.string (bytes_app [UInt8.ofNat (48 + d)] L)
          · rw [HD.out, digs_step y.natAbs (by omega), hz, hd, List.append_assoc]
            rfl
        have FIN := Lib.hid fin
        have HY := Lib.hid hy
        clear hy fin
        by_cases hs : 0 ≤ y
        · obtain ⟨n, rfl⟩ := Int.eq_ofNat_of_zero_le hs
          have hd : ¬ ((n : Int) % 10 < 0) := by omega
          have hr : 0 ≤ (n : Int) % 10 ∧ (n : Int) % 10 < 10 := by omega
          have hcv := conv_one wr (48 + (n : Int) % 10) (n % 10) (by omega) (by omega)
          go_wp2_with fail
          exact ⟨FIN.out (n % 10) (n / 10) (by omega) (by omega) (by omega) (by omega) _, by have := HY.out; simp [intOf]; omega⟩
        · obtain ⟨n, rfl⟩ : ∃ n : Nat, y = -(n : Int) := ⟨y.natAbs, by omega⟩
          by_cases hm : 0 < (n : Int) % 10
          · have hcv := conv_one wr (48 + (n : Int) % 10) (n % 10) (by omega) (by omega)
            go_wp2_with fail
            exact ⟨FIN.out (n % 10) (-((n : Int) / 10)) (by omega) (by omega) (by omega) (by omega) _, by have := HY.out; simp [intOf]; omega⟩
          · have hcv := conv_one wr (48 + -((n : Int) % 10)) (n % 10) (by omega) (by omega)
            go_wp2_with fail
            exact ⟨FIN.out (n % 10) (-((n : Int) / 10)) (by omega) (by omega) (by omega) (by omega) _, by have := HY.out; simp [intOf]; omega⟩
abbrev line (xs : List Int) : List UInt8 := Lib.join (xs.map Lib.itoa) [32]
theorem digs_len {x : Int} (h : -9223372036854775808 ≤ x ∧ x ≤ 9223372036854775807) : (Lib.itoa x).length ≤ 20 := by
  by_cases h0 : x = 0
  · subst h0
    rw [itoa_zero]
    decide
  · rw [itoa_digs h0]
    have := digs_le 19 x.natAbs (by omega)
    split <;> simp <;> omega
theorem joinTail_snoc (s : List UInt8) (l : List (List UInt8)) (x : List UInt8) : Lib.joinTail s (l ++ [x]) = Lib.joinTail s l ++ (s ++ x) := by simp [Lib.joinTail]
theorem join_snoc (s : List UInt8) (l : List (List UInt8)) (x : List UInt8) (h : l ≠ []) : Lib.join (l ++ [x]) s = Lib.join l s ++ s ++ x := by
  obtain ⟨a, r, rfl⟩ := List.exists_cons_of_ne_nil h
  rw [List.cons_append, Lib.join_cons, Lib.join_cons, joinTail_snoc]
  simp [List.append_assoc]
theorem line_one (x : Int) : line [x] = Lib.itoa x := by simp [line, Lib.join_one]
theorem line_snoc (xs : List Int) (x : Int) (h : xs ≠ []) : line (xs ++ [x]) = line xs ++ [32] ++ Lib.itoa x := by
  unfold line
  rw [List.map_append, List.map_singleton, join_snoc _ _ _ (by simpa using h)]
theorem line_len : ∀ (k : Nat) (xs : List Int), xs.length = k → (∀ x ∈ xs, -9223372036854775808 ≤ x ∧ x ≤ 9223372036854775807) → (line xs).length ≤ 21 * k
  | 0, xs, h, _ => by
    obtain rfl := List.eq_nil_of_length_eq_zero h
    simp [line, Lib.join_nil]
  | k + 1, xs, h, hr => by
    obtain ⟨ys, y, rfl⟩ : ∃ ys y, xs = ys ++ [y] := ⟨xs.dropLast, xs.getLast (by intro e; simp [e] at h), (List.dropLast_concat_getLast _).symm⟩
    have hy := digs_len (hr y (by simp))
    by_cases h0 : ys = []
    · subst h0
      rw [List.nil_append, line_one]
      omega
    · rw [line_snoc ys y h0]
      have := line_len k ys (by simp at h; omega) (fun x hx => hr x (by simp [hx]))
      simp
      omega
theorem line_take_succ {xs : List Int} {k : Nat} {x : Int} (hx : xs[k]? = some x) : line (xs.take (k + 1)) = if k = 0 then Lib.itoa x else line (xs.take k) ++ [32] ++ Lib.itoa x := by
  rw [List.take_add_one, hx]
  split
  · rename_i h0
    subst h0
    simp [line_one]
  · rename_i h0
    have : k < xs.length := (List.getElem?_eq_some_iff.1 hx).1
    exact line_snoc _ _ (fun e => by have := congrArg List.length e; rw [List.length_take, List.length_nil] at this; omega)
end Go.Proofs.YtiamkgkhamnaeaaDoor
