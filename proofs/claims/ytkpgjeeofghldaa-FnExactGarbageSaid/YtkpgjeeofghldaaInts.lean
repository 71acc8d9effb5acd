/- Contracts of the laws' own helpers over []int: size, copy, equality, marks and their look-up. Conditions: lengths below 2^63, as every slice has. -/
import Derived.Test.YtkpgjeeofghldaaRows
import Derived.Test.YtkpgjeeofghldaaBase
namespace Go.Proofs.Ytkpgjeeofghldaa
set_option maxRecDepth 20000
set_option linter.unusedSimpArgs false
set_option linter.unusedVariables false
open Go.ChangeShapes Go.WideShapes Go.ChangeAt Go.RowKit
set_option linter.unusedVariables false

theorem infoInt : (Try.prog.info? 3).map (fun i => (i.zero, i.size, i.bytes)) = some (some (.int .i64 0), 1, 8) := by kernel_rfl

def szF (n : Nat) (left : Int) : Int := if left - n < 0 then -1 else left - n
set_option maxHeartbeats 400000 in
theorem szIntS (v : Value) (n : Nat) (cs : List Value) (left : Int) (w : World) (h : RdA w v 1 n cs) (hl0 : -1 ≤ left) (hl : left ≤ 1048576) :
    Calls Try.prog 9 #[v, .int .i64 left] w fun e w' => e = .returned (.int .i64 (szF n left)) ∧ w = w' := by
  obtain ⟨A, c, rfl, -, hnc, hc, -⟩ := h
  unfold maxLen at hc
  by_cases hx : left - n < 0
  · go_enter Try.func9, Try.ntmps9
    go_wp2
    go_ret
    exact ⟨ret_int (by unfold szF; rw [if_pos hx]), rfl⟩
  · go_enter Try.func9, Try.ntmps9
    go_wp2
    go_ret
    exact ⟨ret_int (by unfold szF; rw [if_neg (by omega)]), rfl⟩

theorem take_eq_snoc {xs ys : List Int} {k : Nat} (h : xs.take k = ys.take k) (he : xs[k]? = ys[k]?) : xs.take (k + 1) = ys.take (k + 1) := by
  rw [List.take_add_one, List.take_add_one, h, he]
set_option maxHeartbeats 400000 in
theorem eqIntS (v u : Value) (xs ys : List Int) (w : World) (h : Rd w v 1 xs.length (ints xs)) (h' : Rd w u 1 ys.length (ints ys)) :
    Calls Try.prog 15 #[v, u] w fun e w' => e = .returned (.bool (decide (xs = ys))) ∧ ∃ n, w' = w.drewN n := by
  obtain ⟨A, c, rfl, -, hnc, hc, hr⟩ := h
  obtain ⟨A', c', rfl, -, hnc', hc', hr'⟩ := h'
  unfold maxLen at hc hc'
  by_cases hlen : xs.length = ys.length
  · have hne : ((xs.length : Int) != (ys.length : Int)) = false := by simp [hlen]
    have hlen' : xs.length ≤ ys.length ∧ ys.length ≤ xs.length := by omega
    have HL := Lib.hid hlen
    clear hlen
    go_enter Try.func15, Try.ntmps15
    go_wp2
    go_loopw [5] (fun i wr => ∃ k nq : Nat, k ≤ xs.length ∧ i = .int .i64 k ∧ Hid (xs.take k = ys.take k) ∧ wr = w.drewN nq) (fun i _ => xs.length - (intOf i).toNat)
    case atStart => exact ⟨0, 0, Nat.zero_le _, rfl, Lib.hid (by simp), rfl⟩
    case round =>
      obtain ⟨k, nq, hk, rfl, HT, rfl⟩ := hrel
      by_cases hlt : k < xs.length
      · obtain ⟨b, o, rfl, hb, hcell⟩ := hr (by omega)
        obtain ⟨b', o', rfl, hb', hcell'⟩ := hr' (by omega)
        obtain ⟨x, hxk, hx⟩ := int_at hcell hlt
        obtain ⟨y, hyk, hy⟩ := int_at (k := k) hcell' (by omega)
        clear hcell hcell' hr hr'
        go_wp2_with fail
        go_quiet (fail)
        go_wp2
        · rename_i hne'
          go_ret
          refine ⟨ret_bool ?_, _, World.drewN_drewN _ _ _⟩
          rw [eq_comm, decide_eq_false_iff_not]
          rintro rfl
          rw [hxk.out] at hyk
          injection hyk.out with e
          simp [e] at hne'
        · rename_i he
          have e : x = y := by simpa using he
          exact ⟨⟨k + 1, _, by omega, by go_num, Lib.hid (take_eq_snoc HT.out (hxk.out.trans (by rw [hyk.out, e]))), rfl⟩, by simp [intOf]; omega⟩
      · go_wp2_with fail
        go_ret
        refine ⟨ret_bool ?_, _, rfl⟩
        have h1 := HT.out
        rw [List.take_of_length_le (by omega), List.take_of_length_le (by omega)] at h1
        simp [h1]
  · have hne : ((xs.length : Int) != (ys.length : Int)) = true := by simp; omega
    go_enter Try.func15, Try.ntmps15
    go_wp2
    go_ret
    exact ⟨ret_bool (by simp; intro e; exact hlen (by rw [e])), 0, rfl⟩
def part (xs : List Int) (k : Nat) : List Value := ints (xs.take k) ++ List.replicate (xs.length - k) (.int .i64 0)
theorem part_zero (xs : List Int) : List.replicate xs.length (Value.int .i64 0) = part xs 0 := by simp [part, ints]
theorem part_all (xs : List Int) : part xs xs.length = ints xs := by simp [part]
theorem part_at {xs : List Int} {k : Nat} (h : k < xs.length) : (part xs k)[k]? = some (.int .i64 0) := by
  have hl : (ints (xs.take k)).length = k := by simp [ints]; omega
  unfold part
  rw [List.getElem?_append_right (by omega), hl, Nat.sub_self, List.getElem?_replicate, if_pos (by omega)]
theorem part_set {xs : List Int} {k : Nat} {x : Int} (h : xs[k]? = some x) : (part xs k).set k (.int .i64 x) = part xs (k + 1) := by
  obtain ⟨hk, hx⟩ := List.getElem?_eq_some_iff.1 h
  have hl : (ints (xs.take k)).length = k := by simp [ints]; omega
  unfold part
  rw [List.set_append, if_neg (by omega), hl, Nat.sub_self, show xs.length - k = (xs.length - (k + 1)) + 1 from by omega, List.replicate_succ, List.set_cons_zero,
    List.take_add_one, h]
  simp [ints]
set_option maxHeartbeats 400000 in
theorem toIntS (v : Value) (xs : List Int) (w : World) (h : RdA w v 1 xs.length (ints xs)) (hsz : xs.length ≤ 1048576) :
    Calls Try.prog 12 #[v] w fun e w' => ∃ v' bs, e = .returned v' ∧ Own w' v' 1 xs.length (ints xs) bs ∧ (∀ b ∈ bs, w.heap.size ≤ b) ∧ Below w.heap.size w w' := by
  obtain ⟨A, c, rfl, -, hnc, hc, hr⟩ := h
  unfold maxLen at hc
  obtain ⟨i, hi, hz0, hz1, hz2⟩ := info_parts infoInt
  go_enter Try.func12, Try.ntmps12
  go_wp2_with (at_make; refine wpList_make_full _ rfl _ _ 22 rfl w.heap.size 3 i (.int .i64 0) 1 Try.underlying22 hi hz0 hz1 _ _ _ _ xs.length rfl rfl rfl rfl (by rw [hz2]; omega) (by unfold maxLen; omega) (Nat.le_refl _) ?_)
  intro w1 hown hg1
  rw [toList_madeCells_one, part_zero] at hown
  have hb1 : Below w.heap.size w w1 := (Below.refl _ _).grown hg1 (Nat.le_refl _) (by simp)
  go_wp2_with fail
  go_loopw [4] (fun i wr => ∃ k : Nat, k ≤ xs.length ∧ i = .int .i64 k ∧ wr.ownsRow w.heap.size 3 1 (.slice (some ⟨w.heap.size, 0, none⟩) xs.length xs.length) xs.length (part xs k) ∧ Below w.heap.size w wr) (fun i _ => xs.length - (intOf i).toNat)
  case atStart => exact ⟨0, Nat.zero_le _, rfl, hown, hb1⟩
  case round =>
    obtain ⟨k, hk, rfl, hO, hB⟩ := hrel
    clear hown hb1 hg1
    by_cases hlt : k < xs.length
    · obtain ⟨ad, rfl, hb, hcell⟩ := hr (by omega)
      obtain ⟨x, hxk, hx⟩ := int_atA hcell hlt hB hb
      have hcA := (hO.cellAt k (by omega)).trans (part_at hlt)
      have hfA := hO.frozenAt k
      clear hcell hr
      go_wp2_with fail
      exact ⟨⟨k + 1, by omega, by go_num, (part_set hxk.out) ▸ (hO.stored k (.int .i64 x)).1, hB.setCell (Nat.le_refl _) _⟩, by simp [intOf]; omega⟩
    · go_wp2_with fail
      go_ret
      obtain rfl : k = xs.length := by omega
      rw [part_all] at hO
      obtain ⟨bs, h1, h2⟩ := Own.of_owns hO
      exact ⟨_, bs, rfl, h1, h2, hB⟩

def marked (n : Nat) (m : Int) : List Int := (List.range n).map fun j : Nat => m + j
theorem marked_len (n : Nat) (m : Int) : (marked n m).length = n := by simp [marked]
def markPart (xs : List Int) (m : Int) (k : Nat) : List Value := ints (marked k m) ++ ints (xs.drop k)
theorem markPart_at {xs : List Int} {m : Int} {k : Nat} (h : k < xs.length) : (markPart xs m k)[k]? = some (.int .i64 (xs.getD k 0)) := by
  have hl : (ints (marked k m)).length = k := by simp [ints, marked]
  unfold markPart
  rw [List.getElem?_append_right (by omega), hl, Nat.sub_self]
  simp [ints, h]
theorem markPart_next {xs : List Int} {m : Int} {k : Nat} (h : k < xs.length) (j : Nat) (hj : k + j < xs.length) : (markPart xs m k)[k + j]? = some (.int .i64 (xs.getD (k + j) 0)) := by
  have hl : (ints (marked k m)).length = k := by simp [ints, marked]
  unfold markPart
  rw [List.getElem?_append_right (by omega), hl]
  simp [ints, hj]
theorem markPart_set {xs : List Int} {m : Int} {k : Nat} (h : k < xs.length) : (markPart xs m k).set k (.int .i64 (m + k)) = markPart xs m (k + 1) := by
  have hl : (ints (marked k m)).length = k := by simp [ints, marked]
  unfold markPart
  have hd : ints (xs.drop k) = .int .i64 xs[k] :: ints (xs.drop (k + 1)) := by simp only [ints, List.drop_eq_getElem_cons h, List.map_cons]
  have hm : ints (marked (k + 1) m) = ints (marked k m) ++ [.int .i64 (m + k)] := by simp only [ints, marked, List.range_succ, List.map_append, List.map_cons, List.map_nil]
  rw [List.set_append, if_neg (by omega), hl, Nat.sub_self, hd, List.set_cons_zero, hm, List.append_assoc, List.singleton_append]
theorem markPart_set4 {xs : List Int} {m : Int} {k : Nat} (h : k * 4 + 3 < xs.length) : ((((markPart xs m (k * 4)).set (k * 4) (.int .i64 (m + k * 4))).set (k * 4 + 1) (.int .i64 (m + k * 4 + 1))).set (k * 4 + 2) (.int .i64 (m + k * 4 + 1 + 1))).set (k * 4 + 3) (.int .i64 (m + k * 4 + 1 + 1 + 1)) = markPart xs m ((k + 1) * 4) := by
  rw [show m + (k : Int) * 4 + 1 + 1 + 1 = m + ((k * 4 + 3 : Nat) : Int) from by omega, show m + (k : Int) * 4 + 1 + 1 = m + ((k * 4 + 2 : Nat) : Int) from by omega,
    show m + (k : Int) * 4 + 1 = m + ((k * 4 + 1 : Nat) : Int) from by omega, show m + (k : Int) * 4 = m + ((k * 4 : Nat) : Int) from by omega,
    markPart_set (by omega), markPart_set (by omega), markPart_set (by omega), markPart_set (by omega), show (k + 1) * 4 = k * 4 + 3 + 1 from by omega]
theorem marked_at {n k : Nat} {m : Int} (h : k < n) : (ints (marked n m))[k]? = some (.int .i64 (m + k)) := by
  simp [ints, marked, h]
end Go.Proofs.Ytkpgjeeofghldaa
