/- Contracts of chapter 3's model functions (package spec): a valid buffer, copies, PutSlot, Waits. Condition: the slices can be read. -/
import Derived.Test.YtiflooopfpcelabTwo
import Derived.Test.YtiflooopfpcelabS1
namespace Go.Proofs.Ytiflooopfpcelab
set_option maxRecDepth 20000
set_option linter.unusedSimpArgs false
set_option linter.unusedVariables false
open Go.ChangeShapes Go.WideShapes Go.ChangeAt Go.RowKit
set_option linter.unusedVariables false
def slotOk (x : P2) : Bool := inB x.a 0 15 && valB x.b
def bufOk (xs : List P2) : Bool := decide (xs.length ≤ 3) && xs.all slotOk
theorem allP_snoc {α : Type} {p : α → Bool} {xs : List α} {k : Nat} {x : α} (h : (xs.take k).all p = true) (hx : xs[k]? = some x) (hp : p x = true) : (xs.take (k + 1)).all p = true := by
  rw [List.take_add_one, List.all_append, h, hx]
  simp [hp]
theorem allP_not {α : Type} {p : α → Bool} {xs : List α} {k : Nat} {x : α} (hx : xs[k]? = some x) (hp : p x = false) : xs.all p = false := by
  rw [List.all_eq_false]
  exact ⟨x, List.mem_of_getElem? hx, by simp [hp]⟩
theorem bufOk_len {xs : List P2} (h : bufOk xs = true) : xs.length ≤ 3 := by
  simp only [bufOk, Bool.and_eq_true, decide_eq_true_eq] at h
  exact h.1
/-- returns a slice of slots that is a row of its own -/
def RetRow2 (t : TypeId) (L : List P2) (w : World) (e : Ending) (w' : World) : Prop :=
  ∃ v', e = .returned v' ∧ w'.ownsRow w.heap.size t 2 v' L.length (flc2 L) ∧ Below w.heap.size w w'
def RetSlots (L : List P2) (w : World) (e : Ending) (w' : World) : Prop :=
  ∃ v' bs, e = .returned v' ∧ Own w' v' 2 L.length (flc2 L) bs ∧ (∀ b ∈ bs, w.heap.size ≤ b) ∧ Below w.heap.size w w'
def RetSlotsB (L : List P2) (ok : Bool) (w : World) (e : Ending) (w' : World) : Prop :=
  ∃ v' bs, e = .returned (.tuple #[v', .bool ok]) ∧ Own w' v' 2 L.length (flc2 L) bs ∧ (∀ b ∈ bs, w.heap.size ≤ b) ∧ Below w.heap.size w w'
theorem owns_snoc2 {w : World} {base : Nat} {t : TypeId} {v : Value} {N : List P2} {x : P2} (h : w.ownsRow base t 2 v (N.length + 1) (flc2 N ++ [.int .i64 x.a, .int .i64 x.b])) : w.ownsRow base t 2 v (N ++ [x]).length (flc2 (N ++ [x])) := by
  rw [flc2_append, flc2_one]
  simpa [p2C] using h
theorem owns_take2 {w : World} {base : Nat} {t : TypeId} {v : Value} {xs : List P2} {k : Nat} {x : P2} (hx : xs[k]? = some x) (h : w.ownsRow base t 2 v (k + 1) (flc2 (xs.take k) ++ [.int .i64 x.a, .int .i64 x.b])) : w.ownsRow base t 2 v (k + 1) (flc2 (xs.take (k + 1))) := by
  rw [← flc2_snoc hx]
  exact h
set_option maxHeartbeats 800000 in
theorem spec_BufOk (v : Value) (xs : List P2) (w : World) (h : Rd w v 2 xs.length (flc2 xs)) :
    Calls Try.prog 42 #[v] w fun e w' => e = .returned (.bool (bufOk xs)) ∧ w = w' := by
  obtain ⟨A, c, rfl, -, hnc, hc, hr⟩ := h
  unfold maxLen at hc
  by_cases hlen : xs.length ≤ 3
  · go_enter Try.func42, Try.ntmps42
    go_wp2
    go_loop [3] (fun i => ∃ k : Nat, k ≤ xs.length ∧ i = .int .i64 k ∧ Hid ((xs.take k).all slotOk = true)) (fun i => xs.length - (intOf i).toNat)
    case atStart => exact ⟨0, Nat.zero_le _, rfl, Lib.hid (by simp)⟩
    case round =>
      obtain ⟨k, hk, rfl, HA⟩ := hrel
      by_cases hlt : k < xs.length
      · obtain ⟨b, o, rfl, hb, hcell⟩ := hr (by omega)
        obtain ⟨x, hxk, hx0, hx1⟩ := p2_at hcell hlt
        clear hcell hr
        cases h1 : inB x.a 0 15
        · have HN : Hid (bufOk xs = false) := Lib.hid (by simp [bufOk, allP_not (p := slotOk) hxk.out (by simp [slotOk, h1])])
          go_wp2_with (go_at_call 61; refine (l01In _ _ _ _).mono ?_; rintro e w' ⟨rfl, rfl⟩)
          go_ret
          exact ⟨ret_bool HN.out.symm, rfl⟩
        · cases h2 : valB x.b
          · have HN : Hid (bufOk xs = false) := Lib.hid (by simp [bufOk, allP_not (p := slotOk) hxk.out (by simp [slotOk, h2])])
            go_wp2_with (first | (go_at_call 61; refine (l01In _ _ _ _).mono ?_; rintro e w' ⟨rfl, rfl⟩) | (go_at_call 62; refine (l01Value _ _).mono ?_; rintro e w' ⟨rfl, rfl⟩))
            go_ret
            exact ⟨ret_bool HN.out.symm, rfl⟩
          · have HS := Lib.hid (allP_snoc (p := slotOk) HA.out hxk.out (by simp [slotOk, h1, h2]))
            go_wp2_with (first | (go_at_call 61; refine (l01In _ _ _ _).mono ?_; rintro e w' ⟨rfl, rfl⟩) | (go_at_call 62; refine (l01Value _ _).mono ?_; rintro e w' ⟨rfl, rfl⟩))
            exact ⟨⟨k + 1, by omega, by go_num, HS⟩, by simp [intOf]; omega⟩
      · go_wp2_with fail
        go_ret
        obtain rfl : k = xs.length := by omega
        have := HA.out
        rw [List.take_length] at this
        exact ⟨ret_bool (by simp [bufOk, hlen, this]), rfl⟩
  · go_enter Try.func42, Try.ntmps42
    go_wp2
    go_ret
    exact ⟨ret_bool (by simp [bufOk, hlen]), rfl⟩
set_option maxHeartbeats 800000 in
theorem l03Copy (v : Value) (xs : List P2) (w : World) (h : Rd w v 2 xs.length (flc2 xs)) (hsz : xs.length ≤ 16777216) :
    Calls Try.prog 96 #[v] w (RetRow2 109 xs w) := by
  obtain ⟨A, c, rfl, -, hnc, hc, hr⟩ := h
  unfold maxLen at hc
  obtain ⟨i, hi, hiz0, hiz1, hiz2⟩ := info_parts infoSlot
  go_enter Try.func96, Try.ntmps96
  go_wp2_with fail
  go_loopw [3, 4] (fun v i wr => ∃ k : Nat, k ≤ xs.length ∧ i = .int .i64 k ∧ wr.ownsRow w.heap.size 109 2 v k (flc2 (xs.take k)) ∧ Below w.heap.size w wr) (fun _ i _ => xs.length - (intOf i).toNat)
  case atStart => exact ⟨0, Nat.zero_le _, rfl, World.ownsRow_lit w #[] 0 (Nat.le_refl _) (by simp [maxLen]) rfl, (Below.refl _ _).alloc (Nat.le_refl _) _⟩
  case round =>
    obtain ⟨k, hk, rfl, hO, hB⟩ := hrel
    by_cases hlt : k < xs.length
    · obtain ⟨b, o, rfl, hb, hcell⟩ := hr (by omega)
      obtain ⟨x, hxk, hx0, hx1⟩ := p2_at (fun j u hu => (hB.cell (p := ⟨b, o + j, none⟩) hb).trans (hcell j u hu)) hlt
      clear hcell hr
      have hbw : b < wr.heap.size := Nat.lt_of_lt_of_le hb hB.size
      obtain ⟨xa, xb⟩ := x
      go_wp2_with (at_builtin; refine wpList_append_own _ rfl _ _ 56 rfl (w.heap.size) 109 i (.agg #[.int .i64 0, .int .i64 0]) 2 16 Try.underlying56 hi hiz0 hiz1 hiz2 rfl (by decide) _ _ _ rfl (hO.alloc _) ⟨wr.heap.size, 0, none⟩ 1 1 [.int .i64 xa, .int .i64 xb] rfl rfl (new_cells _ _ _) (by simp [Value.oneCell']) (by unfold maxLen; omega) (by omega) (by have := hB.size; simp; omega) ?_)
      intro v1 w1 ho1 hg1 _
      have hB1 := (hB.alloc hB.size _).grown hg1 (by have := hB.size; simp; omega) (fun k hk => by have := (hO.lt k hk).1; omega)
      have ho2 := owns_take2 (x := ⟨xa, xb⟩) hxk.out ho1
      clear ho1 hg1
      go_wp2_with fail
      exact ⟨⟨k + 1, by omega, by go_num, ho2, hB1⟩, by simp [intOf]; omega⟩
    · go_wp2_with fail
      go_ret
      obtain rfl : k = xs.length := by omega
      rw [List.take_length] at hO
      exact ⟨_, rfl, hO, hB⟩
def putOk (xs : List P2) (a v : Int) : Bool := bufOk (xs ++ [⟨a, v⟩])
def putF (xs : List P2) (a v : Int) : List P2 := if putOk xs a v then xs ++ [⟨a, v⟩] else xs
theorem putOk_head {xs : List P2} {a v : Int} (h : bufOk xs = false) : putOk xs a v = false := by
  cases hp : putOk xs a v
  · rfl
  · simp only [putOk, bufOk, Bool.and_eq_true, decide_eq_true_eq, List.length_append, List.all_append] at hp
    rw [← h]
    have h1 : xs.length ≤ 3 := by have := hp.1; simp at this; omega
    simp [bufOk, h1, hp.2.1]
theorem putF_len (xs : List P2) (a v : Int) : (putF xs a v).length ≤ xs.length + 1 := by
  unfold putF
  split <;> simp
set_option maxHeartbeats 1600000 in
theorem spec_PutSlot (v : Value) (xs : List P2) (a x : Int) (w : World) (h : Rd w v 2 xs.length (flc2 xs)) (hsz : xs.length ≤ 16777215) :
    Calls Try.prog 46 #[v, .int .i64 a, .int .i64 x] w (RetSlotsB (putF xs a x) (putOk xs a x) w) := by
  obtain ⟨A, c, rfl, -⟩ := id h
  obtain ⟨i, hi, hiz0, hiz1, hiz2⟩ := info_parts infoSlot
  have HR := Lib.hid h
  clear h
  go_enter Try.func46, Try.ntmps46
  go_wp2_with fail
  refine (l03Copy _ xs _ HR.out (by omega)).mono ?_
  rintro e w1 ⟨v1, rfl, hO, hB⟩
  go_wp2_with (at_builtin; refine wpList_append_own _ rfl _ _ 56 rfl (w.heap.size) 109 i (.agg #[.int .i64 0, .int .i64 0]) 2 16 Try.underlying56 hi hiz0 hiz1 hiz2 rfl (by decide) _ _ _ rfl (hO.alloc _) ⟨w1.heap.size, 0, none⟩ 1 1 [.int .i64 a, .int .i64 x] rfl rfl (new_cells _ _ _) (by simp [Value.oneCell']) (by unfold maxLen; omega) (by omega) (by have := hB.size; simp; omega) ?_)
  intro v2 w2 ho2 hg2 _
  have hB2 := (hB.alloc hB.size _).grown hg2 (by have := hB.size; simp; omega) (fun k hk => by have := (hO.lt k hk).1; omega)
  have ho3 := owns_snoc2 (x := ⟨a, x⟩) ho2
  clear ho2 hg2 hO hB
  obtain ⟨bs, hO2, hlo2⟩ := Own.of_owns ho3
  clear ho3
  go_wp2_with fail
  refine (spec_BufOk _ xs _ (HR.out.below hB2)).mono ?_
  rintro e w3 ⟨rfl, rfl⟩
  cases hb : bufOk xs
  · have hp := putOk_head (a := a) (v := x) hb
    have hf : putF xs a x = xs := by simp [putF, hp]
    have HP := Lib.hid hp
    have HF := Lib.hid hf
    clear hp hf
    go_wp2_with fail
    refine (l03Copy _ xs _ (HR.out.below hB2) (by omega)).mono ?_
    rintro e w4 ⟨v4, rfl, hO4, hB4⟩
    obtain ⟨bs4, hw4, hl4⟩ := Own.of_owns hO4
    go_wp2_with fail
    exact bodyPost_ret (v := .tuple #[v4, .bool false]) (by simp [results, Try.results46, go_sem]) rfl ⟨_, bs4, by rw [HP.out], by rw [HF.out]; exact hw4, fun b hb => Nat.le_trans hB2.size (hl4 b hb), hB2.trans (hB4.mono hB2.size)⟩
  · go_wp2_with fail
    refine (spec_BufOk _ (xs ++ [⟨a, x⟩]) _ hO2.rd).mono ?_
    rintro e w3 ⟨rfl, rfl⟩
    cases hp : bufOk (xs ++ [⟨a, x⟩])
    · have hf : putF xs a x = xs := by simp [putF, putOk, hp]
      have hp' : putOk xs a x = false := hp
      have HP := Lib.hid hp'
      have HF := Lib.hid hf
      clear hp' hf
      go_wp2_with fail
      refine (l03Copy _ xs _ (HR.out.below hB2) (by omega)).mono ?_
      rintro e w4 ⟨v4, rfl, hO4, hB4⟩
      obtain ⟨bs4, hw4, hl4⟩ := Own.of_owns hO4
      go_wp2_with fail
      exact bodyPost_ret (v := .tuple #[v4, .bool false]) (by simp [results, Try.results46, go_sem]) rfl ⟨_, bs4, by rw [HP.out], by rw [HF.out]; exact hw4, fun b hb => Nat.le_trans hB2.size (hl4 b hb), hB2.trans (hB4.mono hB2.size)⟩
    · have hf : putF xs a x = xs ++ [⟨a, x⟩] := by simp [putF, putOk, hp]
      have hp' : putOk xs a x = true := hp
      have HP := Lib.hid hp'
      have HF := Lib.hid hf
      clear hp' hf
      go_wp2_with fail
      exact bodyPost_ret (v := .tuple #[v2, .bool true]) (by simp [results, Try.results46, go_sem]) rfl ⟨_, bs, by rw [HP.out], by rw [HF.out]; exact hO2, hlo2, hB2⟩
def waitsF (xs : List P2) (a : Int) : Int := if bufOk xs then ((xs.filter fun x => x.a == a).length : Int) else -1
theorem filter_snoc {xs : List P2} {k : Nat} {x : P2} {a : Int} (h : xs[k]? = some x) : ((xs.take (k + 1)).filter fun x => x.a == a).length = ((xs.take k).filter fun x => x.a == a).length + (if x.a == a then 1 else 0) := by
  rw [List.take_add_one, h, List.filter_append, List.length_append]
  congr 1
  cases hx : x.a == a <;> simp [hx]
set_option maxHeartbeats 800000 in
theorem spec_Waits (v : Value) (xs : List P2) (a : Int) (w : World) (h : Rd w v 2 xs.length (flc2 xs)) :
    Calls Try.prog 52 #[v, .int .i64 a] w fun e w' => e = .returned (.int .i64 (waitsF xs a)) ∧ w = w' := by
  obtain ⟨A, c, rfl, -, hnc, hc, hr⟩ := id h
  unfold maxLen at hc
  cases hb : bufOk xs
  · go_enter Try.func52, Try.ntmps52
    go_wp2_with fail
    refine (spec_BufOk _ xs _ h).mono ?_
    rintro e w1 ⟨rfl, rfl⟩
    rw [hb]
    go_wp2_with fail
    go_ret
    exact ⟨ret_int (by simp [waitsF, hb]), rfl⟩
  · have hlen := bufOk_len hb
    go_enter Try.func52, Try.ntmps52
    go_wp2_with fail
    refine (spec_BufOk _ xs _ h).mono ?_
    rintro e w1 ⟨rfl, rfl⟩
    rw [hb]
    have HF : Hid (waitsF xs a = ((xs.filter fun x => x.a == a).length : Int)) := Lib.hid (by simp [waitsF, hb])
    clear hb h
    go_wp2_with fail
    go_loop [5, 6] (fun n i => ∃ k m : Nat, k ≤ xs.length ∧ i = .int .i64 k ∧ n = .int .i64 m ∧ m ≤ k ∧ Hid (((xs.take k).filter fun x => x.a == a).length = m)) (fun _ i => xs.length - (intOf i).toNat)
    case atStart => exact ⟨0, 0, Nat.zero_le _, rfl, rfl, Nat.le_refl _, Lib.hid (by simp)⟩
    case round =>
      obtain ⟨k, m, hk, rfl, rfl, hm, HA⟩ := hrel
      by_cases hlt : k < xs.length
      · obtain ⟨b, o, rfl, hb, hcell⟩ := hr (by omega)
        obtain ⟨x, hxk, hx0, hx1⟩ := p2_at hcell hlt
        clear hcell hr
        have HS := Lib.hid (filter_snoc (a := a) hxk.out)
        cases hq : x.a == a
        · have HT : Hid (((xs.take (k + 1)).filter fun x => x.a == a).length = m) := Lib.hid (by rw [HS.out, HA.out, hq]; simp)
          go_wp2_with fail
          exact ⟨⟨k + 1, m, by omega, by go_num, rfl, by omega, HT⟩, by simp [intOf]; omega⟩
        · have HT : Hid (((xs.take (k + 1)).filter fun x => x.a == a).length = m + 1) := Lib.hid (by rw [HS.out, HA.out, hq]; simp)
          go_wp2_with fail
          exact ⟨⟨k + 1, m + 1, by omega, by go_num, by go_num, by omega, HT⟩, by simp [intOf]; omega⟩
      · go_wp2_with fail
        go_ret
        obtain rfl : k = xs.length := by omega
        have := HA.out
        rw [List.take_length] at this
        exact ⟨ret_int (by rw [HF.out, this]), rfl⟩
end Go.Proofs.Ytiflooopfpcelab
