/- Contracts of the laws' helpers over moves and lists of moves. Condition: the size that the law bounds. -/
import Derived.Test.YtiflooopfpcelaaMach
import Derived.Test.YtiflooopfpcelaaM1
namespace Go.Proofs.Ytiflooopfpcelaa
set_option maxRecDepth 20000
set_option linter.unusedSimpArgs false
set_option linter.unusedVariables false
open Go.ChangeShapes Go.WideShapes Go.ChangeAt Go.RowKit
def mvC (m : Mv) : List Value := [.int .i64 m.t, .bool m.d]
def mvCs (ms : List Mv) : List Value := ms.flatMap mvC
theorem mvCs_cons (m : Mv) (ms : List Mv) : mvCs (m :: ms) = mvC m ++ mvCs ms := by simp [mvCs]
theorem mvCs_append (ms ns : List Mv) : mvCs (ms ++ ns) = mvCs ms ++ mvCs ns := by simp [mvCs]
theorem mvCs_one (m : Mv) : mvCs [m] = mvC m := by simp [mvCs]
theorem mvCs_len : ∀ (ms : List Mv), (mvCs ms).length = ms.length * 2
  | [] => rfl
  | m :: ms => by rw [mvCs_cons, List.length_append, mvCs_len ms]; simp [mvC]; omega
theorem mvCs_at : ∀ {xs : List Mv} {k : Nat} {x : Mv}, xs[k]? = some x → ∀ j < 2, (mvCs xs)[k * 2 + j]? = (mvC x)[j]?
  | [], k, x, h, j, hj => by simp at h
  | i :: xs, 0, x, h, j, hj => by
    simp only [List.getElem?_cons_zero, Option.some.injEq] at h
    subst h
    rw [mvCs_cons, List.getElem?_append_left (by simp [mvC]; omega)]
    simp
  | i :: xs, k + 1, x, h, j, hj => by
    rw [mvCs_cons, List.getElem?_append_right (by simp [mvC]; omega)]
    have e : (k + 1) * 2 + j - (mvC i).length = k * 2 + j := by simp [mvC]; omega
    rw [e]
    exact mvCs_at (by simpa using h) j hj
theorem mv_at {w wr : World} {b o k : Nat} {xs : List Mv} (hc : ∀ j u, (mvCs xs)[j]? = some u → w.cell? ⟨b, o + j, none⟩ = some u) (h : k < xs.length) {B : Nat} (hB : Below B w wr) (hb : b < B) :
    ∃ x, Hid (xs[k]? = some x) ∧ wr.cell? ⟨b, o + k * 2, none⟩ = some (.int .i64 x.t) ∧ wr.cell? ⟨b, o + k * 2 + 1, none⟩ = some (.bool x.d) := by
  have hx : xs[k]? = some xs[k] := List.getElem?_eq_getElem h
  have hh : ∀ j u, (mvCs xs)[j]? = some u → wr.cell? ⟨b, o + j, none⟩ = some u := fun j u hu => (hB.cell (p := ⟨b, o + j, none⟩) hb).trans (hc j u hu)
  exact ⟨xs[k], Lib.hid hx, hh (k * 2 + 0) _ (mvCs_at hx 0 (by omega)), hh (k * 2 + 1) _ (mvCs_at hx 1 (by omega))⟩
theorem mv_atA {w wr : World} {ad : Addr} {k : Nat} {xs : List Mv} (hc : ∀ j u, (mvCs xs)[j]? = some u → w.cell? (ad.add j) = some u) (h : k < xs.length) {B : Nat} (hB : Below B w wr) (hb : ad.block < B) :
    ∃ x, Hid (xs[k]? = some x) ∧ wr.cell? (ad.add (k * 2)) = some (.int .i64 x.t) ∧ wr.cell? ⟨(ad.add (k * 2)).block, (ad.add (k * 2)).off + 1, none⟩ = some (.bool x.d) := by
  have hx : xs[k]? = some xs[k] := List.getElem?_eq_getElem h
  have hh : ∀ j u, (mvCs xs)[j]? = some u → wr.cell? (ad.add j) = some u := fun j u hu => (hB.cell (p := ad.add j) (by rw [add_block]; exact hb)).trans (hc j u hu)
  refine ⟨xs[k], Lib.hid hx, hh (k * 2 + 0) _ (mvCs_at hx 0 (by omega)), ?_⟩
  rw [← add_more ad _ 1 (by omega)]
  exact hh (k * 2 + 1) _ (mvCs_at hx 1 (by omega))
def zMv : Nat → List Value
  | 0 => []
  | n + 1 => .int .i64 0 :: .bool false :: zMv n
theorem zMv_len : ∀ n, (zMv n).length = n * 2
  | 0 => rfl
  | n + 1 => by simp only [zMv, List.length_cons, zMv_len n]; omega
theorem zMv_at : ∀ (n j : Nat), j < n * 2 → (zMv n)[j]? = some (#[Value.int .i64 0, .bool false][j % 2]!)
  | 0, j, h => by omega
  | n + 1, 0, h => rfl
  | n + 1, 1, h => rfl
  | n + 1, j + 2, h => by
    rw [show (j + 2) % 2 = j % 2 from by omega]
    exact zMv_at n j (by omega)
theorem zMv_made (n : Nat) : (madeCells #[.int .i64 0, .bool false] (n * 2)).toList = zMv n := by
  apply List.ext_getElem?
  intro j
  by_cases hj : j < n * 2
  · rw [zMv_at n j hj]
    simp only [madeCells, Array.toList_map, List.getElem?_map, Array.toList_range, List.getElem?_range hj, Option.map_some]
    rfl
  · rw [List.getElem?_eq_none (l := zMv n) (by rw [zMv_len]; omega)]
    simp [madeCells, hj]
def mvPart (ms : List Mv) (k : Nat) : List Value := mvCs (ms.take k) ++ zMv (ms.length - k)
theorem mvPart_at {ms : List Mv} {k : Nat} (h : k < ms.length) : (mvPart ms k)[k * 2]? = some (.int .i64 0) ∧ (mvPart ms k)[k * 2 + 1]? = some (.bool false) := by
  have hc : (mvCs (ms.take k)).length = k * 2 := by rw [mvCs_len, List.length_take]; omega
  unfold mvPart
  rw [show ms.length - k = (ms.length - (k + 1)) + 1 from by omega, zMv]
  refine ⟨?_, ?_⟩
  all_goals
    rw [List.getElem?_append_right (by omega), hc]
    simp
theorem mvPart_set {ms : List Mv} {k : Nat} {t : Mv} (h : ms[k]? = some t) : ((mvPart ms k).set (k * 2) (.int .i64 t.t)).set (k * 2 + 1) (.bool t.d) = mvPart ms (k + 1) := by
  have hk := (List.getElem?_eq_some_iff.1 h).1
  have hc : (mvCs (ms.take k)).length = k * 2 := by rw [mvCs_len, List.length_take]; omega
  unfold mvPart
  rw [show ms.length - k = (ms.length - (k + 1)) + 1 from by omega, zMv, set2 _ _ _ _ hc, List.take_add_one, h, Option.toList_some, mvCs_append, mvCs_one, List.append_assoc]
  rfl
theorem mvPart_all (ms : List Mv) : mvPart ms ms.length = mvCs ms := by simp [mvPart, zMv]
def mkMv (j : Nat) (m : Int) : Mv := ⟨m + (j * 2 : Nat), (m + (j * 2 + 1 : Nat)) % 3 == 0⟩
def mkMvs (n : Nat) (m : Int) : List Mv := (List.range n).map fun j => mkMv j m
theorem mkMvs_len (n : Nat) (m : Int) : (mkMvs n m).length = n := by simp [mkMvs]
def mvAt (ms : List Mv) (m : Int) (k : Nat) : List Mv := mkMvs k m ++ ms.drop k
theorem mvAt_len {ms : List Mv} {m : Int} {k : Nat} (h : k ≤ ms.length) : (mvAt ms m k).length = ms.length := by
  simp only [mvAt, List.length_append, mkMvs_len, List.length_drop]
  omega
theorem mvAt_at {ms : List Mv} {m : Int} {k : Nat} {t : Mv} (h : ms[k]? = some t) : (mvAt ms m k)[k]? = some t := by
  obtain ⟨hk, rfl⟩ := List.getElem?_eq_some_iff.1 h
  unfold mvAt
  rw [List.getElem?_append_right (by rw [mkMvs_len]; omega), mkMvs_len, Nat.sub_self]
  simp
theorem mvCs_set : ∀ {xs : List Mv} {k : Nat} {x : Mv} (y : Mv), xs[k]? = some x → ((mvCs xs).set (k * 2) (.int .i64 y.t)).set (k * 2 + 1) (.bool y.d) = mvCs (xs.set k y)
  | [], k, x, y, h => by simp at h
  | i :: xs, 0, x, y, h => by simp [mvCs, mvC]
  | i :: xs, k + 1, x, y, h => by
    have := mvCs_set (xs := xs) (k := k) y (by simpa using h)
    rw [List.set_cons_succ, mvCs_cons, mvCs_cons, ← this, List.set_append, if_neg (by simp [mvC]; omega), List.set_append, if_neg (by simp [mvC]; omega)]
    have e1 : (k + 1) * 2 - (mvC i).length = k * 2 := by simp [mvC]; omega
    have e2 : (k + 1) * 2 + 1 - (mvC i).length = k * 2 + 1 := by simp [mvC]; omega
    rw [e1, e2]
theorem mvAt_next {ms : List Mv} {m : Int} {k : Nat} {t : Mv} (h : ms[k]? = some t) : (mvAt ms m k).set k (mkMv k m) = mvAt ms m (k + 1) := by
  obtain ⟨hk, rfl⟩ := List.getElem?_eq_some_iff.1 h
  unfold mvAt
  rw [List.set_append, if_neg (by rw [mkMvs_len]; omega), mkMvs_len, Nat.sub_self, List.drop_eq_getElem_cons hk, List.set_cons_zero]
  simp only [mkMvs, List.range_succ, List.map_append, List.map_cons, List.map_nil, List.append_assoc, List.cons_append, List.nil_append]
theorem infoMv : (Try.prog.info? 54).map (fun i => (i.zero, i.size, i.bytes)) = some (some (.agg #[.int .i64 0, .bool false]), 2, 16) := by kernel_rfl
set_option maxHeartbeats 400000 in
theorem toMove (i : Mv) (w : World) :
    Calls Try.prog 25 #[.agg #[.int .i64 i.t, .bool i.d]] w fun e w' => e = .returned (.agg #[.int .i64 i.t, .bool i.d]) ∧ Below w.heap.size w w' := by
  go_enter Try.func25, Try.ntmps25
  go_wp2_with fail
  exact bodyPost_ret (v := .agg #[.int .i64 i.t, .bool i.d]) (by simp [results, Try.results25, go_sem]) rfl ⟨rfl, (((Below.refl _ _).alloc (Nat.le_refl _) _).alloc (by simp) _).alloc (by simp; omega) _⟩
set_option maxHeartbeats 800000 in
theorem eqMove (x y : Mv) (w : World) :
    Calls Try.prog 76 #[.agg #[.int .i64 x.t, .bool x.d], .agg #[.int .i64 y.t, .bool y.d]] w fun e w' => e = .returned (.bool (decide (x = y))) ∧ Below w.heap.size w w' := by
  obtain ⟨a, b⟩ := x
  obtain ⟨a', b'⟩ := y
  have hB := ((Below.refl w.heap.size w).alloc (Nat.le_refl _) (.cells #[.int .i64 a, .bool b] 54)).alloc (by simp) (.cells #[.int .i64 a', .bool b'] 54)
  have HB := Lib.hid hB
  clear hB
  by_cases h1 : a = a'
  · have HD : Hid (decide (Mv.mk a b = Mv.mk a' b') = (b == b')) := Lib.hid (by subst h1; cases b <;> cases b' <;> simp)
    subst h1
    cases b <;> cases b'
    all_goals
      go_enter Try.func76, Try.ntmps76
      go_wp2_with fail
      go_ret
      exact ⟨ret_bool HD.out.symm, HB.out⟩
  · have e : (a != a') = true := by simp [h1]
    have HD : Hid (decide (Mv.mk a b = Mv.mk a' b') = false) := Lib.hid (by simp [h1])
    clear h1
    go_enter Try.func76, Try.ntmps76
    go_wp2_with fail
    go_ret
    exact ⟨ret_bool HD.out.symm, HB.out⟩
set_option maxHeartbeats 1600000 in
theorem eqMoveS (v u : Value) (xs ys : List Mv) (w : World) (h : Rd w v 2 xs.length (mvCs xs)) (h' : Rd w u 2 ys.length (mvCs ys)) :
    Calls Try.prog 29 #[v, u] w fun e w' => e = .returned (.bool (decide (xs = ys))) ∧ Below w.heap.size w w' := by
  obtain ⟨A, c, rfl, -, hnc, hc, hr⟩ := h
  obtain ⟨A', c', rfl, -, hnc', hc', hr'⟩ := h'
  unfold maxLen at hc hc'
  by_cases hlen : xs.length = ys.length
  · have hne : ((xs.length : Int) != (ys.length : Int)) = false := by simp [hlen]
    have hlen' : xs.length ≤ ys.length ∧ ys.length ≤ xs.length := by omega
    clear hlen
    go_enter Try.func29, Try.ntmps29
    go_wp2_with fail
    go_loopw [5] (fun i wr => ∃ k : Nat, k ≤ xs.length ∧ i = .int .i64 k ∧ Hid (xs.take k = ys.take k) ∧ Below w.heap.size w wr) (fun i _ => xs.length - (intOf i).toNat)
    case atStart => exact ⟨0, Nat.zero_le _, rfl, Lib.hid (by simp), Below.refl _ _⟩
    case round =>
      obtain ⟨k, hk, rfl, HT, hB⟩ := hrel
      by_cases hlt : k < xs.length
      · obtain ⟨b, o, rfl, hb, hcell⟩ := hr (by omega)
        obtain ⟨b', o', rfl, hb', hcell'⟩ := hr' (by omega)
        obtain ⟨x, hxk, hx0, hx1⟩ := mv_at hcell hlt hB hb
        obtain ⟨y, hyk, hy0, hy1⟩ := mv_at (k := k) hcell' (by omega) hB hb'
        have hlt2 : k < ys.length := by omega
        have hlt3 : ((k : Int) < ys.length) := by omega
        have lb : b < wr.heap.size := Nat.lt_of_lt_of_le hb hB.size
        have lb' : b' < wr.heap.size := Nat.lt_of_lt_of_le hb' hB.size
        clear hcell hcell' hr hr'
        go_wp2_with fail
        have HS : Hid (∀ W : World, Below wr.heap.size wr W → Below wr.heap.size wr W ∧ W.cell? ⟨b, o + k * 2, none⟩ = some (.int .i64 x.t) ∧ W.cell? ⟨b, o + k * 2 + 1, none⟩ = some (.bool x.d) ∧
          W.cell? ⟨b', o' + k * 2, none⟩ = some (.int .i64 y.t) ∧ W.cell? ⟨b', o' + k * 2 + 1, none⟩ = some (.bool y.d)) :=
          Lib.hid fun W hW => ⟨hW, (hW.cell (p := ⟨b, o + k * 2, none⟩) lb).trans hx0, (hW.cell (p := ⟨b, o + k * 2 + 1, none⟩) lb).trans hx1,
            (hW.cell (p := ⟨b', o' + k * 2, none⟩) lb').trans hy0, (hW.cell (p := ⟨b', o' + k * 2 + 1, none⟩) lb').trans hy1⟩
        have HB := Lib.hid hB
        clear hB
        go_region_held3 (fun W => Below wr.heap.size wr W ∧ W.cell? ⟨b, o + k * 2, none⟩ = some (.int .i64 x.t) ∧ W.cell? ⟨b, o + k * 2 + 1, none⟩ = some (.bool x.d) ∧
          W.cell? ⟨b', o' + k * 2, none⟩ = some (.int .i64 y.t) ∧ W.cell? ⟨b', o' + k * 2 + 1, none⟩ = some (.bool y.d)) (first | (exact HS.out _ (Below.refl _ _).drew) | (exact HS.out _ (by assumption)))
          (first
            | (go_at_call 76; have hS := ‹Below wr.heap.size wr _ ∧ _›.1; refine (eqMove x y _).mono ?_; rintro e w9 ⟨rfl, hb9⟩; have hS2 := hS.trans (hb9.mono hS.size); clear hS))
        have hS := ‹Below wr.heap.size wr _ ∧ _›.1
        clear HS
        have hBn := HB.out.trans (hS.mono HB.out.size)
        clear HB hx0 hx1 hy0 hy1 hb9
        have HBn := Lib.hid hBn
        clear hBn hS
        cases hd : decide (x = y)
        · have hn : decide (xs = ys) = false := by
            rw [decide_eq_false_iff_not]
            rintro rfl
            have := hxk.out.symm.trans hyk.out
            injection this with this
            simp [this] at hd
          have HN := Lib.hid hn
          clear hn hd
          go_wp2_with fail
          go_ret
          exact ⟨ret_bool HN.out.symm, HBn.out⟩
        · have e : x = y := by simpa using hd
          have HE := Lib.hid e
          clear e hd
          go_wp2_with fail
          exact ⟨⟨k + 1, by omega, by go_num, Lib.hid (take_snoc_eq HT.out (hxk.out.trans (by rw [hyk.out, HE.out]))), HBn.out⟩, by simp [intOf]; omega⟩
      · go_wp2_with fail
        go_ret
        refine ⟨ret_bool ?_, hB⟩
        have h1 := HT.out
        rw [List.take_of_length_le (by omega), List.take_of_length_le (by omega)] at h1
        simp [h1]
  · have hne : ((xs.length : Int) != (ys.length : Int)) = true := by simp; omega
    go_enter Try.func29, Try.ntmps29
    go_wp2_with fail
    go_ret
    exact ⟨ret_bool (by simp; intro e; exact hlen (by rw [e])), Below.refl _ _⟩
set_option maxHeartbeats 1600000 in
theorem markMoveS (v : Value) (ms : List Mv) (bs : List Nat) (m : Int) (w : World) (h : Own w v 2 ms.length (mvCs ms) bs) (hsz : ms.length ≤ 16777216) (hm0 : 0 ≤ m) (hm : m ≤ 1090921693184) :
    Calls Try.prog 30 #[v, .int .i64 m] w fun e w' => e = .returned (.int .i64 (m + ms.length * 2)) ∧ Own w' v 2 ms.length (mvCs (mkMvs ms.length m)) bs ∧ Only bs w w' := by
  obtain ⟨A, c, rfl, hl, hnc, hc, hr⟩ := h
  unfold maxLen at hc
  rcases hr with ⟨h0, rfl⟩ | ⟨hpos, b, o, rfl, rfl, hb, hat⟩
  · have hx : ms = [] := List.eq_nil_of_length_eq_zero h0
    subst hx
    go_enter Try.func30, Try.ntmps30
    go_wp2
    go_loop [1, 5] (fun mm i => i = .int .i64 0 ∧ mm = .int .i64 m) (fun _ _ => 0)
    case atStart => exact ⟨rfl, rfl⟩
    case round =>
      obtain ⟨rfl, rfl⟩ := hrel
      go_wp2
      go_ret
      exact ⟨ret_int (by simp), ⟨A, c, rfl, by simp [mvCs, mkMvs], hnc, hc, .inl ⟨rfl, rfl⟩⟩, Only.refl _ _⟩
  · go_enter Try.func30, Try.ntmps30
    go_wp2
    go_loopw [1, 5] (fun mm i wr => ∃ k : Nat, k ≤ ms.length ∧ i = .int .i64 k ∧ mm = .int .i64 (m + k * 2) ∧ At wr b o (mvCs (mvAt ms m k)) ∧ Only [b] w wr) (fun _ i _ => ms.length - (intOf i).toNat)
    case atStart => exact ⟨0, Nat.zero_le _, rfl, by simp, by simpa [mvAt, mkMvs] using hat, Only.refl _ _⟩
    case round =>
      obtain ⟨k, hk, rfl, rfl, hA, hO⟩ := hrel
      clear hat
      by_cases hlt : k < ms.length
      · have hx : ms[k]? = some ms[k] := List.getElem?_eq_getElem hlt
        generalize ms[k] = t at hx
        have ht := mvAt_at (m := m) hx
        obtain ⟨hc0, hf0⟩ := hA (k * 2 + 0) _ (mvCs_at ht 0 (by omega))
        obtain ⟨hc1, hf1⟩ := hA (k * 2 + 1) _ (mvCs_at ht 1 (by omega))
        rw [Nat.add_zero] at hc0 hf0
        simp only [← Nat.add_assoc] at hc1 hf1
        have hN : At ((wr.setCell ⟨b, o + k * 2, none⟩ (.int .i64 (m + k * 2))).setCell ⟨b, o + k * 2 + 1, none⟩ (.bool ((m + (k : Int) * 2 + 1) % 3 == 0))) b o (mvCs (mvAt ms m (k + 1))) := by
          rw [← mvAt_next hx, ← mvCs_set (mkMv k m) ht, show (mkMv k m).t = m + k * 2 by show m + ((k * 2 : Nat) : Int) = _; omega, show (mkMv k m).d = ((m + (k : Int) * 2 + 1) % 3 == 0) by
            show ((m + ((k * 2 + 1 : Nat) : Int)) % 3 == 0) = _
            rw [show m + ((k * 2 + 1 : Nat) : Int) = m + (k : Int) * 2 + 1 from by omega]]
          exact (hA.set_ (k * 2) _).set_ (k * 2 + 1) _
        have hOn := (hO.trans (Only.setCell (b := b) (i := o + k * 2) _ (.int .i64 (m + k * 2)))).trans (Only.setCell (b := b) (i := o + k * 2 + 1) _ (.bool ((m + (k : Int) * 2 + 1) % 3 == 0)))
        have HN := Lib.hid hN
        have HO := Lib.hid hOn
        clear hx ht hA hO hN hOn
        go_wp2_with fail
        refine ⟨⟨k + 1, by omega, by go_num, by go_num, HN.out, HO.out⟩, by simp [intOf]; omega⟩
      · obtain rfl : k = ms.length := by omega
        go_wp2_with fail
        go_ret
        refine ⟨rfl, ⟨_, c, rfl, by rw [mvCs_len, mkMvs_len], hnc, hc, .inr ⟨hpos, b, o, rfl, rfl, Nat.lt_of_lt_of_le hb hO.size, ?_⟩⟩, hO⟩
        simpa [mvAt] using hA
set_option maxHeartbeats 1600000 in
theorem heldMoveS (v : Value) (n : Nat) (m : Int) (w : World) (h : Rd w v 2 n (mvCs (mkMvs n m))) (hsz : n ≤ 16777216) (hm0 : 0 ≤ m) (hm : m ≤ 1090921693184) :
    Calls Try.prog 31 #[v, .int .i64 m] w fun e w' => e = .returned (.int .i64 (m + n * 2)) ∧ Below w.heap.size w w' := by
  obtain ⟨A, c, rfl, hl, hnc, hc, hr⟩ := h
  unfold maxLen at hc
  go_enter Try.func31, Try.ntmps31
  go_wp2
  go_loopw [1, 5] (fun mm i wr => ∃ k : Nat, k ≤ n ∧ i = .int .i64 k ∧ mm = .int .i64 (m + k * 2) ∧ Below w.heap.size w wr) (fun _ i _ => n - (intOf i).toNat)
  case atStart => exact ⟨0, Nat.zero_le _, rfl, by simp, Below.refl _ _⟩
  case round =>
    obtain ⟨k, hk, rfl, rfl, hB⟩ := hrel
    by_cases hlt : k < n
    · obtain ⟨b, o, rfl, hb, hcell⟩ := hr (by omega)
      obtain ⟨x, hxk, hx0, hx1⟩ := mv_at hcell (by rw [mkMvs_len]; exact hlt) hB hb
      have he : x = mkMv k m := by
        have := hxk.out
        unfold mkMvs at this
        rw [List.getElem?_map, List.getElem?_range hlt] at this
        exact (Option.some.inj this).symm
      rw [he, show (mkMv k m).t = m + k * 2 by show m + ((k * 2 : Nat) : Int) = _; omega] at hx0
      rw [he, show (mkMv k m).d = ((m + (k : Int) * 2 + 1) % 3 == 0) by
            show ((m + ((k * 2 + 1 : Nat) : Int)) % 3 == 0) = _
            rw [show m + ((k * 2 + 1 : Nat) : Int) = m + (k : Int) * 2 + 1 from by omega]] at hx1
      have hb1 : ((m + (k : Int) * 2) != (m + (k : Int) * 2)) = false := by simp
      have hb2 : (((m + (k : Int) * 2 + 1) % 3 == 0) != ((m + (k : Int) * 2 + 1) % 3 == 0)) = false := by simp
      clear hcell hr hxk he
      go_wp2_with fail
      exact ⟨⟨k + 1, by omega, by go_num, by go_num, hB⟩, by simp [intOf]; omega⟩
    · obtain rfl : k = n := by omega
      go_wp2_with fail
      go_ret
      exact ⟨rfl, hB⟩
end Go.Proofs.Ytiflooopfpcelaa
