/- Rows of truth values on memory, and the contracts of the laws' helpers over []bool: size, copy, equality, marks and their look-up. Conditions: lengths below 2^63, as every slice has. -/
import Derived.Test.YtpenneklpolhgaaDoorM1
namespace Go.Proofs.YtpenneklpolhgaaDoor
set_option maxRecDepth 20000
set_option linter.unusedSimpArgs false
set_option linter.unusedVariables false
open Go.ChangeShapes Go.WideShapes Go.ChangeAt Go.RowKit
set_option linter.unusedVariables false
def bools (xs : List Bool) : List Value := xs.map Value.bool
theorem bools_len (xs : List Bool) : (bools xs).length = xs.length := by simp [bools]
theorem bools_at {xs : List Bool} {k : Nat} {x : Bool} (h : xs[k]? = some x) : (bools xs)[k]? = some (.bool x) := by simp [bools, h]
theorem bool_at {w : World} {b o k : Nat} {xs : List Bool} (hc : ∀ j u, (bools xs)[j]? = some u → w.cell? ⟨b, o + j, none⟩ = some u) (h : k < xs.length) :
    ∃ x, Hid (xs[k]? = some x) ∧ w.cell? ⟨b, o + k, none⟩ = some (.bool x) :=
  ⟨xs[k], Lib.hid (List.getElem?_eq_getElem h), hc k _ (bools_at (List.getElem?_eq_getElem h))⟩
theorem bool_atA {w wr : World} {ad : Addr} {k : Nat} {xs : List Bool} (hc : ∀ j u, (bools xs)[j]? = some u → w.cell? (ad.add j) = some u) (h : k < xs.length) {B : Nat} (hB : Below B w wr) (hb : ad.block < B) :
    ∃ x, Hid (xs[k]? = some x) ∧ wr.cell? (ad.add k) = some (.bool x) :=
  ⟨xs[k], Lib.hid (List.getElem?_eq_getElem h), (hB.cell (p := ad.add k) (by rw [add_block]; exact hb)).trans (hc k _ (bools_at (List.getElem?_eq_getElem h)))⟩
theorem infoBool : (Tryd.prog.info? 4).map (fun i => (i.zero, i.size, i.bytes)) = some (some (.bool false), 1, 1) := by kernel_rfl
def bpart (xs : List Bool) (k : Nat) : List Value := bools (xs.take k) ++ List.replicate (xs.length - k) (.bool false)
theorem bpart_zero (xs : List Bool) : List.replicate xs.length (Value.bool false) = bpart xs 0 := by simp [bpart, bools]
theorem bpart_all (xs : List Bool) : bpart xs xs.length = bools xs := by simp [bpart]
theorem bpart_at {xs : List Bool} {k : Nat} (h : k < xs.length) : (bpart xs k)[k]? = some (.bool false) := by
  have hl : (bools (xs.take k)).length = k := by simp [bools]; omega
  unfold bpart
  rw [List.getElem?_append_right (by omega), hl, Nat.sub_self, List.getElem?_replicate, if_pos (by omega)]
theorem bpart_set {xs : List Bool} {k : Nat} {x : Bool} (h : xs[k]? = some x) : (bpart xs k).set k (.bool x) = bpart xs (k + 1) := by
  obtain ⟨hk, hx⟩ := List.getElem?_eq_some_iff.1 h
  have hl : (bools (xs.take k)).length = k := by simp [bools]; omega
  unfold bpart
  rw [List.set_append, if_neg (by omega), hl, Nat.sub_self, show xs.length - k = (xs.length - (k + 1)) + 1 from by omega, List.replicate_succ, List.set_cons_zero,
    List.take_add_one, h]
  simp [bools]
set_option maxHeartbeats 400000 in
theorem szBoolS (v : Value) (n : Nat) (cs : List Value) (left : Int) (w : World) (h : RdA w v 1 n cs) (hl0 : -1 ≤ left) (hl : left ≤ 1048576) :
    Calls Tryd.prog 32 #[v, .int .i64 left] w fun e w' => e = .returned (.int .i64 (szF n left)) ∧ w = w' := by
  obtain ⟨A, c, rfl, -, hnc, hc, -⟩ := h
  unfold maxLen at hc
  by_cases hx : left - n < 0
  · go_enter Tryd.func32, Tryd.ntmps32
    go_wp2
    go_ret
    exact ⟨ret_int (by unfold szF; rw [if_pos hx]), rfl⟩
  · go_enter Tryd.func32, Tryd.ntmps32
    go_wp2
    go_ret
    exact ⟨ret_int (by unfold szF; rw [if_neg (by omega)]), rfl⟩
set_option maxHeartbeats 400000 in
theorem toBoolS (v : Value) (xs : List Bool) (w : World) (h : RdA w v 1 xs.length (bools xs)) (hsz : xs.length ≤ 1048576) :
    Calls Tryd.prog 38 #[v] w fun e w' => ∃ v' bs, e = .returned v' ∧ Own w' v' 1 xs.length (bools xs) bs ∧ (∀ b ∈ bs, w.heap.size ≤ b) ∧ Below w.heap.size w w' := by
  obtain ⟨A, c, rfl, -, hnc, hc, hr⟩ := h
  unfold maxLen at hc
  obtain ⟨i, hi, hz0, hz1, hz2⟩ := info_parts infoBool
  go_enter Tryd.func38, Tryd.ntmps38
  go_wp2_with (at_make; refine wpList_make_full _ rfl _ _ 23 rfl w.heap.size 4 i (.bool false) 1 Tryd.underlying23 hi hz0 hz1 _ _ _ _ xs.length rfl rfl rfl rfl (by rw [hz2]; omega) (by unfold maxLen; omega) (Nat.le_refl _) ?_)
  intro w1 hown hg1
  rw [toList_madeCells_one, bpart_zero] at hown
  have hb1 : Below w.heap.size w w1 := (Below.refl _ _).grown hg1 (Nat.le_refl _) (by simp)
  go_wp2_with fail
  go_loopw [4] (fun i wr => ∃ k : Nat, k ≤ xs.length ∧ i = .int .i64 k ∧ wr.ownsRow w.heap.size 4 1 (.slice (some ⟨w.heap.size, 0, none⟩) xs.length xs.length) xs.length (bpart xs k) ∧ Below w.heap.size w wr) (fun i _ => xs.length - (intOf i).toNat)
  case atStart => exact ⟨0, Nat.zero_le _, rfl, hown, hb1⟩
  case round =>
    obtain ⟨k, hk, rfl, hO, hB⟩ := hrel
    clear hown hb1 hg1
    by_cases hlt : k < xs.length
    · obtain ⟨ad, rfl, hb, hcell⟩ := hr (by omega)
      obtain ⟨x, hxk, hx⟩ := bool_atA hcell hlt hB hb
      have hcA := (hO.cellAt k (by omega)).trans (bpart_at hlt)
      have hfA := hO.frozenAt k
      clear hcell hr
      go_wp2_with fail
      exact ⟨⟨k + 1, by omega, by go_num, (bpart_set hxk.out) ▸ (hO.stored k (.bool x)).1, hB.setCell (Nat.le_refl _) _⟩, by simp [intOf]; omega⟩
    · go_wp2_with fail
      go_ret
      obtain rfl : k = xs.length := by omega
      rw [bpart_all] at hO
      obtain ⟨bs, h1, h2⟩ := Own.of_owns hO
      exact ⟨_, bs, rfl, h1, h2, hB⟩
theorem btake_snoc {xs ys : List Bool} {k : Nat} (h : xs.take k = ys.take k) (he : xs[k]? = ys[k]?) : xs.take (k + 1) = ys.take (k + 1) := by
  rw [List.take_add_one, List.take_add_one, h, he]
set_option maxHeartbeats 400000 in
theorem eqBoolS (v u : Value) (xs ys : List Bool) (w : World) (h : Rd w v 1 xs.length (bools xs)) (h' : Rd w u 1 ys.length (bools ys)) :
    Calls Tryd.prog 42 #[v, u] w fun e w' => e = .returned (.bool (decide (xs = ys))) ∧ ∃ n, w' = w.drewN n := by
  obtain ⟨A, c, rfl, -, hnc, hc, hr⟩ := h
  obtain ⟨A', c', rfl, -, hnc', hc', hr'⟩ := h'
  unfold maxLen at hc hc'
  by_cases hlen : xs.length = ys.length
  · have hne : ((xs.length : Int) != (ys.length : Int)) = false := by simp [hlen]
    have hlen' : xs.length ≤ ys.length ∧ ys.length ≤ xs.length := by omega
    have HL := Lib.hid hlen
    clear hlen
    go_enter Tryd.func42, Tryd.ntmps42
    go_wp2
    go_loopw [5] (fun i wr => ∃ k nq : Nat, k ≤ xs.length ∧ i = .int .i64 k ∧ Hid (xs.take k = ys.take k) ∧ wr = w.drewN nq) (fun i _ => xs.length - (intOf i).toNat)
    case atStart => exact ⟨0, 0, Nat.zero_le _, rfl, Lib.hid (by simp), rfl⟩
    case round =>
      obtain ⟨k, nq, hk, rfl, HT, rfl⟩ := hrel
      by_cases hlt : k < xs.length
      · obtain ⟨b, o, rfl, hb, hcell⟩ := hr (by omega)
        obtain ⟨b', o', rfl, hb', hcell'⟩ := hr' (by omega)
        obtain ⟨x, hxk, hx⟩ := bool_at hcell hlt
        obtain ⟨y, hyk, hy⟩ := bool_at (k := k) hcell' (by omega)
        clear hcell hcell' hr hr'
        go_wp2_with fail
        go_quiet (fail)
        go_wp2
        · rename_i hne'
          go_ret
          refine ⟨ret_bool ?_, _, World.drewN_drewN _ _ _⟩
          rw [eq_comm, decide_eq_false_iff_not]
          rintro rfl
          rw [hxk.out] at hyk
          injection hyk.out with e
          simp [e] at hne'
        · rename_i he
          have e : x = y := by simpa using he
          exact ⟨⟨k + 1, _, by omega, by go_num, Lib.hid (btake_snoc HT.out (hxk.out.trans (by rw [hyk.out, e]))), rfl⟩, by simp [intOf]; omega⟩
      · go_wp2_with fail
        go_ret
        refine ⟨ret_bool ?_, _, rfl⟩
        have h1 := HT.out
        rw [List.take_of_length_le (by omega), List.take_of_length_le (by omega)] at h1
        simp [h1]
  · have hne : ((xs.length : Int) != (ys.length : Int)) = true := by simp; omega
    go_enter Tryd.func42, Tryd.ntmps42
    go_wp2
    go_ret
    exact ⟨ret_bool (by simp; intro e; exact hlen (by rw [e])), 0, rfl⟩
theorem eqBoolSB (v u : Value) (xs ys : List Bool) (w : World) (h : Rd w v 1 xs.length (bools xs)) (h' : Rd w u 1 ys.length (bools ys)) :
    Calls Tryd.prog 42 #[v, u] w fun e w' => e = .returned (.bool (decide (xs = ys))) ∧ Below w.heap.size w w' :=
  (eqBoolS v u xs ys w h h').mono fun e w' ⟨he, n, hw⟩ => ⟨he, hw ▸ below_drewN w n⟩
/-- what the k-th mark is -/
def mk3 (z : Int) : Bool := decide (z % 3 = 0)
def bmarked (n : Nat) (m : Int) : List Bool := (List.range n).map fun j : Nat => mk3 (m + j)
theorem bmarked_len (n : Nat) (m : Int) : (bmarked n m).length = n := by simp [bmarked]
theorem bmarked_at {n k : Nat} {m : Int} (h : k < n) : (bools (bmarked n m))[k]? = some (.bool (mk3 (m + k))) := by
  simp [bools, bmarked, h]
def bmarkPart (xs : List Bool) (m : Int) (k : Nat) : List Value := bools (bmarked k m) ++ bools (xs.drop k)
theorem bmarkPart_at {xs : List Bool} {m : Int} {k : Nat} (h : k < xs.length) : (bmarkPart xs m k)[k]? = some (.bool (xs.getD k false)) := by
  have hl : (bools (bmarked k m)).length = k := by simp [bools, bmarked]
  unfold bmarkPart
  rw [List.getElem?_append_right (by omega), hl, Nat.sub_self]
  simp [bools, h]
theorem bmarkPart_set {xs : List Bool} {m : Int} {k : Nat} (h : k < xs.length) : (bmarkPart xs m k).set k (.bool (mk3 (m + k))) = bmarkPart xs m (k + 1) := by
  have hl : (bools (bmarked k m)).length = k := by simp [bools, bmarked]
  unfold bmarkPart
  have hd : bools (xs.drop k) = .bool xs[k] :: bools (xs.drop (k + 1)) := by simp only [bools, List.drop_eq_getElem_cons h, List.map_cons]
  have hm : bools (bmarked (k + 1) m) = bools (bmarked k m) ++ [.bool (mk3 (m + k))] := by simp only [bools, bmarked, List.range_succ, List.map_append, List.map_cons, List.map_nil]
  rw [List.set_append, if_neg (by omega), hl, Nat.sub_self, hd, List.set_cons_zero, hm, List.append_assoc, List.singleton_append]
set_option maxHeartbeats 400000 in
theorem markBoolS (v : Value) (xs : List Bool) (bs : List Nat) (m : Int) (w : World) (h : Own w v 1 xs.length (bools xs) bs) (hsz : xs.length ≤ 16777216) (hm0 : 0 ≤ m) (hm : m ≤ 1099511627776) :
    Calls Tryd.prog 43 #[v, .int .i64 m] w fun e w' => e = .returned (.int .i64 (m + xs.length)) ∧ Own w' v 1 xs.length (bools (bmarked xs.length m)) bs ∧ Only bs w w' := by
  obtain ⟨A, c, rfl, hl, hnc, hc, hr⟩ := h
  unfold maxLen at hc
  rcases hr with ⟨h0, rfl⟩ | ⟨hpos, b, o, rfl, rfl, hb, hat⟩
  · have hx : xs = [] := List.eq_nil_of_length_eq_zero h0
    subst hx
    go_enter Tryd.func43, Tryd.ntmps43
    go_wp2
    go_loop [1, 5] (fun mm i => i = .int .i64 0 ∧ mm = .int .i64 m) (fun _ _ => 0)
    case atStart => exact ⟨rfl, rfl⟩
    case round =>
      obtain ⟨rfl, rfl⟩ := hrel
      go_wp2
      go_ret
      exact ⟨ret_int (by simp), ⟨A, c, rfl, by simp [bools, bmarked], hnc, hc, .inl ⟨rfl, rfl⟩⟩, Only.refl _ _⟩
  · go_enter Tryd.func43, Tryd.ntmps43
    go_wp2
    go_loopw [1, 5] (fun mm i wr => ∃ k : Nat, k ≤ xs.length ∧ i = .int .i64 k ∧ mm = .int .i64 (m + k) ∧ At wr b o (bmarkPart xs m k) ∧ Only [b] w wr) (fun _ i _ => xs.length - (intOf i).toNat)
    case atStart => exact ⟨0, Nat.zero_le _, rfl, by simp, by simpa [bmarkPart, bmarked, bools] using hat, Only.refl _ _⟩
    case round =>
      obtain ⟨k, hk, rfl, rfl, hA, hO⟩ := hrel
      clear hat
      by_cases hlt : k < xs.length
      · obtain ⟨hcA, hfA⟩ := hA k _ (bmarkPart_at hlt)
        go_wp2_with fail
        refine ⟨⟨k + 1, by omega, by go_num, by go_num, ?_, ?_⟩, by simp [intOf]; omega⟩
        · exact (bmarkPart_set (m := m) hlt) ▸ hA.set_ k (.bool (mk3 (m + k)))
        · exact hO.trans (Only.setCell _ _)
      · obtain rfl : k = xs.length := by omega
        go_wp2_with fail
        go_ret
        refine ⟨rfl, ⟨_, c, rfl, by simp [bools, bmarked], hnc, hc, .inr ⟨hpos, b, o, rfl, rfl, Nat.lt_of_lt_of_le hb hO.size, ?_⟩⟩, hO⟩
        simpa [bmarkPart, bools] using hA
set_option maxHeartbeats 400000 in
theorem heldBoolS (v : Value) (n : Nat) (m : Int) (w : World) (h : Rd w v 1 n (bools (bmarked n m))) (hsz : n ≤ 16777216) (hm0 : 0 ≤ m) (hm : m ≤ 1099511627776) :
    Calls Tryd.prog 44 #[v, .int .i64 m] w fun e w' => e = .returned (.int .i64 (m + n)) ∧ Below w.heap.size w w' := by
  obtain ⟨A, c, rfl, hl, hnc, hc, hr⟩ := h
  unfold maxLen at hc
  go_enter Tryd.func44, Tryd.ntmps44
  go_wp2
  go_loopw [1, 5] (fun mm i wr => ∃ k : Nat, k ≤ n ∧ i = .int .i64 k ∧ mm = .int .i64 (m + k) ∧ Below w.heap.size w wr) (fun _ i _ => n - (intOf i).toNat)
  case atStart => exact ⟨0, Nat.zero_le _, rfl, by simp, Below.refl _ _⟩
  case round =>
    obtain ⟨k, hk, rfl, rfl, hB⟩ := hrel
    by_cases hlt : k < n
    · obtain ⟨b, o, rfl, hb, hcell⟩ := hr (by omega)
      have hx := (hB.cell (p := ⟨b, o + k, none⟩) hb).trans (hcell k _ (bmarked_at hlt))
      have hb1 : (!(mk3 (m + k) == ((m + (k : Int)) % 3 == 0))) = false := by
        have e : ((m + (k : Int)) % 3 == 0) = decide ((m + (k : Int)) % 3 = 0) := by rw [Bool.eq_iff_iff]; simp
        rw [e]
        simp [mk3]
      clear hcell hr
      go_wp2_with fail
      exact ⟨⟨k + 1, by omega, by go_num, by go_num, hB⟩, by simp [intOf]; omega⟩
    · obtain rfl : k = n := by omega
      go_wp2_with fail
      go_ret
      exact ⟨rfl, hB⟩
end Go.Proofs.YtpenneklpolhgaaDoor
