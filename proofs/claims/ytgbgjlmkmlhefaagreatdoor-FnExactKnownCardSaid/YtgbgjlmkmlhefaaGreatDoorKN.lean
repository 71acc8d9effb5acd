import Derived.Test.YtgbgjlmkmlhefaaGreatDoorM2
import Derived.Test.YtgbgjlmkmlhefaaGreatDoorM3b
/- Contracts of the laws' helpers over atoms (four integers, as an instruction): copy, size, equality, marks and their look-up. Condition: lengths as the law bounds them. -/
namespace Go.Proofs.YtgbgjlmkmlhefaaGreatDoor
set_option maxRecDepth 20000
set_option linter.unusedSimpArgs false
set_option linter.unusedVariables false
open Go.ChangeShapes Go.WideShapes Go.ChangeAt Go.RowKit
set_option linter.unusedVariables false
theorem infoAtom : (Tryz.prog.info? 78).map (fun i => (i.zero, i.size, i.bytes)) = some (some (.agg #[.int .i64 0, .int .i64 0, .int .i64 0, .int .i64 0]), 4, 32) := by kernel_rfl
set_option maxHeartbeats 800000 in
theorem eqAtom (x y : Ins) (w : World) :
    Calls Tryz.prog 44 #[(Value.agg #[.int .i64 x.o, .int .i64 x.r, .int .i64 x.s, .int .i64 x.n]), (Value.agg #[.int .i64 y.o, .int .i64 y.r, .int .i64 y.s, .int .i64 y.n])] w fun e w' => e = .returned (.bool (decide (x = y))) ∧ Below w.heap.size w w' := by
  obtain ⟨a, b, c, d⟩ := x
  obtain ⟨a', b', c', d'⟩ := y
  have hB := ((Below.refl w.heap.size w).alloc (Nat.le_refl _) (.cells #[.int .i64 a, .int .i64 b, .int .i64 c, .int .i64 d] 78)).alloc (by simp) (.cells #[.int .i64 a', .int .i64 b', .int .i64 c', .int .i64 d'] 78)
  have hN : ∀ (p q : Int), ¬ p = q → (p != q) = true := fun p q h => by simp [h]
  have HB := Lib.hid hB
  clear hB
  by_cases h1 : a = a'
  · by_cases h2 : b = b'
    · by_cases h3 : c = c'
      · by_cases h4 : d = d'
        · subst h1 h2 h3 h4
          clear hN
          go_enter Tryz.func44, Tryz.ntmps44
          go_wp2_with fail
          go_ret
          exact ⟨ret_bool (by simp), HB.out⟩
        · have e := hN _ _ h4
          have HD : Hid (decide (Ins.mk a b c d = Ins.mk a' b' c' d') = false) := Lib.hid (by simp [h4])
          subst h1 h2 h3
          clear hN h4
          go_enter Tryz.func44, Tryz.ntmps44
          go_wp2_with fail
          go_ret
          exact ⟨ret_bool HD.out.symm, HB.out⟩
      · have e := hN _ _ h3
        have HD : Hid (decide (Ins.mk a b c d = Ins.mk a' b' c' d') = false) := Lib.hid (by simp [h3])
        subst h1 h2
        clear hN h3
        go_enter Tryz.func44, Tryz.ntmps44
        go_wp2_with fail
        go_ret
        exact ⟨ret_bool HD.out.symm, HB.out⟩
    · have e := hN _ _ h2
      have HD : Hid (decide (Ins.mk a b c d = Ins.mk a' b' c' d') = false) := Lib.hid (by simp [h2])
      subst h1
      clear hN h2
      go_enter Tryz.func44, Tryz.ntmps44
      go_wp2_with fail
      go_ret
      exact ⟨ret_bool HD.out.symm, HB.out⟩
  · have e := hN _ _ h1
    have HD : Hid (decide (Ins.mk a b c d = Ins.mk a' b' c' d') = false) := Lib.hid (by simp [h1])
    clear hN h1
    go_enter Tryz.func44, Tryz.ntmps44
    go_wp2_with fail
    go_ret
    exact ⟨ret_bool HD.out.symm, HB.out⟩
set_option maxHeartbeats 1600000 in
theorem eqAtomS (v u : Value) (xs ys : List Ins) (w : World) (h : Rd w v 4 xs.length (flc xs)) (h' : Rd w u 4 ys.length (flc ys)) :
    Calls Tryz.prog 16 #[v, u] w fun e w' => e = .returned (.bool (decide (xs = ys))) ∧ Below w.heap.size w w' := by
  obtain ⟨A, c, rfl, -, hnc, hc, hr⟩ := h
  obtain ⟨A', c', rfl, -, hnc', hc', hr'⟩ := h'
  unfold maxLen at hc hc'
  by_cases hlen : xs.length = ys.length
  · have hne : ((xs.length : Int) != (ys.length : Int)) = false := by simp [hlen]
    have hlen' : xs.length ≤ ys.length ∧ ys.length ≤ xs.length := by omega
    clear hlen
    go_enter Tryz.func16, Tryz.ntmps16
    go_wp2_with fail
    go_loopw [5] (fun i wr => ∃ k : Nat, k ≤ xs.length ∧ i = .int .i64 k ∧ Hid (xs.take k = ys.take k) ∧ Below w.heap.size w wr) (fun i _ => xs.length - (intOf i).toNat)
    case atStart => exact ⟨0, Nat.zero_le _, rfl, Lib.hid (by simp), Below.refl _ _⟩
    case round =>
      obtain ⟨k, hk, rfl, HT, hB⟩ := hrel
      by_cases hlt : k < xs.length
      · obtain ⟨b, o, rfl, hb, hcell⟩ := hr (by omega)
        obtain ⟨b', o', rfl, hb', hcell'⟩ := hr' (by omega)
        obtain ⟨x, hxk, hx0, hx1, hx2, hx3⟩ := ins_at (fun j u hu => (hB.cell (p := ⟨b, o + j, none⟩) hb).trans (hcell j u hu)) hlt
        obtain ⟨y, hyk, hy0, hy1, hy2, hy3⟩ := ins_at (k := k) (fun j u hu => (hB.cell (p := ⟨b', o' + j, none⟩) hb').trans (hcell' j u hu)) (by omega)
        have hlt2 : k < ys.length := by omega
        have hlt3 : ((k : Int) < ys.length) := by omega
        have lb : b < wr.heap.size := Nat.lt_of_lt_of_le hb hB.size
        have lb' : b' < wr.heap.size := Nat.lt_of_lt_of_le hb' hB.size
        clear hcell hcell' hr hr'
        go_wp2_with fail
        have HS : Hid (∀ W : World, Below wr.heap.size wr W → Below wr.heap.size wr W ∧ W.cell? ⟨b, o + k * 4, none⟩ = some (.int .i64 x.o) ∧ W.cell? ⟨b, o + k * 4 + 1, none⟩ = some (.int .i64 x.r) ∧
          W.cell? ⟨b, o + k * 4 + 2, none⟩ = some (.int .i64 x.s) ∧ W.cell? ⟨b, o + k * 4 + 3, none⟩ = some (.int .i64 x.n) ∧ W.cell? ⟨b', o' + k * 4, none⟩ = some (.int .i64 y.o) ∧ W.cell? ⟨b', o' + k * 4 + 1, none⟩ = some (.int .i64 y.r) ∧
          W.cell? ⟨b', o' + k * 4 + 2, none⟩ = some (.int .i64 y.s) ∧ W.cell? ⟨b', o' + k * 4 + 3, none⟩ = some (.int .i64 y.n)) :=
          Lib.hid fun W hW => ⟨hW, (hW.cell (p := ⟨b, o + k * 4, none⟩) lb).trans hx0, (hW.cell (p := ⟨b, o + k * 4 + 1, none⟩) lb).trans hx1, (hW.cell (p := ⟨b, o + k * 4 + 2, none⟩) lb).trans hx2, (hW.cell (p := ⟨b, o + k * 4 + 3, none⟩) lb).trans hx3,
            (hW.cell (p := ⟨b', o' + k * 4, none⟩) lb').trans hy0, (hW.cell (p := ⟨b', o' + k * 4 + 1, none⟩) lb').trans hy1, (hW.cell (p := ⟨b', o' + k * 4 + 2, none⟩) lb').trans hy2, (hW.cell (p := ⟨b', o' + k * 4 + 3, none⟩) lb').trans hy3⟩
        have HB := Lib.hid hB
        clear hB
        go_region_held3 (fun W => Below wr.heap.size wr W ∧ W.cell? ⟨b, o + k * 4, none⟩ = some (.int .i64 x.o) ∧ W.cell? ⟨b, o + k * 4 + 1, none⟩ = some (.int .i64 x.r) ∧
          W.cell? ⟨b, o + k * 4 + 2, none⟩ = some (.int .i64 x.s) ∧ W.cell? ⟨b, o + k * 4 + 3, none⟩ = some (.int .i64 x.n) ∧ W.cell? ⟨b', o' + k * 4, none⟩ = some (.int .i64 y.o) ∧ W.cell? ⟨b', o' + k * 4 + 1, none⟩ = some (.int .i64 y.r) ∧
          W.cell? ⟨b', o' + k * 4 + 2, none⟩ = some (.int .i64 y.s) ∧ W.cell? ⟨b', o' + k * 4 + 3, none⟩ = some (.int .i64 y.n)) (first | (exact HS.out _ (Below.refl _ _).drew) | (exact HS.out _ (by assumption)))
          (first
            | (go_at_call 44; have hS := ‹Below wr.heap.size wr _ ∧ _›.1; refine (eqAtom x y _).mono ?_; rintro e w9 ⟨rfl, hb9⟩; have hS2 := hS.trans (hb9.mono hS.size); clear hS))
        have hS := ‹Below wr.heap.size wr _ ∧ _›.1
        clear HS
        have hBn := HB.out.trans (hS.mono HB.out.size)
        clear HB hx0 hx1 hx2 hx3 hy0 hy1 hy2 hy3 hb9
        have HBn := Lib.hid hBn
        clear hBn hS
        cases hd : decide (x = y)
        · have hn : decide (xs = ys) = false := by
            rw [decide_eq_false_iff_not]
            rintro rfl
            have := hxk.out.symm.trans hyk.out
            injection this with this
            simp [this] at hd
          have HN := Lib.hid hn
          clear hn hd
          go_wp2_with fail
          go_ret
          exact ⟨ret_bool HN.out.symm, HBn.out⟩
        · have e : x = y := by simpa using hd
          have HE := Lib.hid e
          clear e hd
          go_wp2_with fail
          exact ⟨⟨k + 1, by omega, by go_num, Lib.hid (take_snoc_eq HT.out (hxk.out.trans (by rw [hyk.out, HE.out]))), HBn.out⟩, by simp [intOf]; omega⟩
      · go_wp2_with fail
        go_ret
        refine ⟨ret_bool ?_, hB⟩
        have h1 := HT.out
        rw [List.take_of_length_le (by omega), List.take_of_length_le (by omega)] at h1
        simp [h1]
  · have hne : ((xs.length : Int) != (ys.length : Int)) = true := by simp; omega
    go_enter Tryz.func16, Tryz.ntmps16
    go_wp2_with fail
    go_ret
    exact ⟨ret_bool (by simp; intro e; exact hlen (by rw [e])), Below.refl _ _⟩
set_option maxHeartbeats 800000 in
theorem markAtomS (v : Value) (zs : List Int) (n : Nat) (bs : List Nat) (m : Int) (w : World) (h : Own w v 4 n (ints zs) bs) (hsz : n ≤ 16777216) (hm0 : 0 ≤ m) (hm : m ≤ 1099511627776) :
    Calls Tryz.prog 18 #[v, .int .i64 m] w fun e w' => e = .returned (.int .i64 (m + n * 4)) ∧ Own w' v 4 n (ints (marked (n * 4) m)) bs ∧ Only bs w w' := by
  obtain ⟨A, c, rfl, hl, hnc, hc, hr⟩ := h
  unfold maxLen at hc
  rw [ints_len] at hl
  rcases hr with ⟨rfl, rfl⟩ | ⟨hpos, b, o, rfl, rfl, hb, hat⟩
  · go_enter Tryz.func18, Tryz.ntmps18
    go_wp2
    go_loop [1, 5] (fun mm i => i = .int .i64 0 ∧ mm = .int .i64 m) (fun _ _ => 0)
    case atStart => exact ⟨rfl, rfl⟩
    case round =>
      obtain ⟨rfl, rfl⟩ := hrel
      go_wp2
      go_ret
      exact ⟨ret_int (by simp), ⟨A, c, rfl, by simp [ints, marked], hnc, hc, .inl ⟨rfl, rfl⟩⟩, Only.refl _ _⟩
  · go_enter Tryz.func18, Tryz.ntmps18
    go_wp2
    go_loopw [1, 5] (fun mm i wr => ∃ k : Nat, k ≤ n ∧ i = .int .i64 k ∧ mm = .int .i64 (m + k * 4) ∧ At wr b o (markPart zs m (k * 4)) ∧ Only [b] w wr) (fun _ i _ => n - (intOf i).toNat)
    case atStart => exact ⟨0, Nat.zero_le _, rfl, by simp, by simpa [markPart, marked, ints] using hat, Only.refl _ _⟩
    case round =>
      obtain ⟨k, hk, rfl, rfl, hA, hO⟩ := hrel
      clear hat
      by_cases hlt : k < n
      · obtain ⟨hc0, hf0⟩ := hA (k * 4) _ (markPart_at (by omega))
        obtain ⟨hc1, hf1⟩ := hA (k * 4 + 1) _ (markPart_next (by omega) 1 (by omega))
        obtain ⟨hc2, hf2⟩ := hA (k * 4 + 2) _ (markPart_next (by omega) 2 (by omega))
        obtain ⟨hc3, hf3⟩ := hA (k * 4 + 3) _ (markPart_next (by omega) 3 (by omega))
        simp only [← Nat.add_assoc] at hc1 hf1 hc2 hf2 hc3 hf3
        go_wp2_with fail
        refine ⟨⟨k + 1, by omega, by go_num, by go_num, ?_, ?_⟩, by simp [intOf]; omega⟩
        · rw [← markPart_set4 (xs := zs) (m := m) (k := k) (by omega)]
          exact (((hA.set_ (k * 4) _).set_ (k * 4 + 1) _).set_ (k * 4 + 2) _).set_ (k * 4 + 3) _
        · exact (((hO.trans (Only.setCell _ _)).trans (Only.setCell _ _)).trans (Only.setCell _ _)).trans (Only.setCell _ _)
      · obtain rfl : k = n := by omega
        go_wp2_with fail
        go_ret
        refine ⟨rfl, ⟨_, c, rfl, by simp [ints, marked], hnc, hc, .inr ⟨hpos, b, o, rfl, rfl, Nat.lt_of_lt_of_le hb hO.size, ?_⟩⟩, hO⟩
        have hd : zs.drop (k * 4) = [] := List.drop_of_length_le (by omega)
        simpa [markPart, ints, hd] using hA
set_option maxHeartbeats 800000 in
theorem heldAtomS (v : Value) (n : Nat) (m : Int) (w : World) (h : Rd w v 4 n (ints (marked (n * 4) m))) (hsz : n ≤ 16777216) (hm0 : 0 ≤ m) (hm : m ≤ 1099511627776) :
    Calls Tryz.prog 20 #[v, .int .i64 m] w fun e w' => e = .returned (.int .i64 (m + n * 4)) ∧ w = w' := by
  obtain ⟨A, c, rfl, hl, hnc, hc, hr⟩ := h
  unfold maxLen at hc
  go_enter Tryz.func20, Tryz.ntmps20
  go_wp2
  go_loop [1, 5] (fun mm i => ∃ k : Nat, k ≤ n ∧ i = .int .i64 k ∧ mm = .int .i64 (m + k * 4)) (fun _ i => n - (intOf i).toNat)
  case atStart => exact ⟨0, Nat.zero_le _, rfl, by simp⟩
  case round =>
    obtain ⟨k, hk, rfl, rfl⟩ := hrel
    by_cases hlt : k < n
    · obtain ⟨b, o, rfl, hb, hcell⟩ := hr (by omega)
      have hx0 := hcell (k * 4) _ (marked_at (by omega))
      have hx1 := hcell (k * 4 + 1) _ (marked_at (by omega))
      have hx2 := hcell (k * 4 + 2) _ (marked_at (by omega))
      have hx3 := hcell (k * 4 + 3) _ (marked_at (by omega))
      rw [show (m + ((k * 4 : Nat) : Int)) = m + k * 4 from by omega] at hx0
      rw [show (m + ((k * 4 + 1 : Nat) : Int)) = m + k * 4 + 1 from by omega] at hx1
      rw [show (m + ((k * 4 + 2 : Nat) : Int)) = m + k * 4 + 1 + 1 from by omega] at hx2
      rw [show (m + ((k * 4 + 3 : Nat) : Int)) = m + k * 4 + 1 + 1 + 1 from by omega] at hx3
      simp only [← Nat.add_assoc] at hx1 hx2 hx3
      have hb1 : ((m + (k : Int) * 4) != (m + (k : Int) * 4)) = false := by simp
      have hb2 : ((m + (k : Int) * 4 + 1) != (m + (k : Int) * 4 + 1)) = false := by simp
      have hb3 : ((m + (k : Int) * 4 + 1 + 1) != (m + (k : Int) * 4 + 1 + 1)) = false := by simp
      have hb4 : ((m + (k : Int) * 4 + 1 + 1 + 1) != (m + (k : Int) * 4 + 1 + 1 + 1)) = false := by simp
      clear hcell hr
      go_wp2_with fail
      exact ⟨⟨k + 1, by omega, by go_num, by go_num⟩, by simp [intOf]; omega⟩
    · obtain rfl : k = n := by omega
      go_wp2_with fail
      go_ret
      exact ⟨rfl, rfl⟩
theorem heldAtomSB (v : Value) (n : Nat) (m : Int) (w : World) (h : Rd w v 4 n (ints (marked (n * 4) m))) (hsz : n ≤ 16777216) (hm0 : 0 ≤ m) (hm : m ≤ 1099511627776) :
    Calls Tryz.prog 20 #[v, .int .i64 m] w fun e w' => e = .returned (.int .i64 (m + n * 4)) ∧ Below w.heap.size w w' := toB (heldAtomS v n m w h hsz hm0 hm)
end Go.Proofs.YtgbgjlmkmlhefaaGreatDoor

/- Contracts of the laws' helpers that mark programs. Condition: at most 16777216 instructions. -/
namespace Go.Proofs.YtgbgjlmkmlhefaaGreatDoor
set_option maxRecDepth 20000
set_option linter.unusedSimpArgs false
set_option linter.unusedVariables false
open Go.ChangeShapes Go.WideShapes Go.ChangeAt Go.RowKit
def mk4 (n : Nat) (m : Int) : List Ins := (List.range n).map fun j : Nat => ⟨m + (j * 4 : Nat), m + (j * 4 + 1 : Nat), m + (j * 4 + 2 : Nat), m + (j * 4 + 3 : Nat)⟩
theorem mk4_len (n : Nat) (m : Int) : (mk4 n m).length = n := by simp [mk4]
theorem flc_mk4 (n : Nat) (m : Int) : flc (mk4 n m) = ints (marked (n * 4) m) := by
  unfold flc
  congr 1
  induction n with
  | zero => rfl
  | succ n ih =>
    have h1 : mk4 (n + 1) m = mk4 n m ++ [⟨m + (n * 4 : Nat), m + (n * 4 + 1 : Nat), m + (n * 4 + 2 : Nat), m + (n * 4 + 3 : Nat)⟩] := by simp only [mk4, List.range_succ, List.map_append, List.map_cons, List.map_nil]
    have h2 : marked ((n + 1) * 4) m = marked (n * 4) m ++ [m + (n * 4 : Nat), m + (n * 4 + 1 : Nat), m + (n * 4 + 2 : Nat), m + (n * 4 + 3 : Nat)] := by
      rw [show (n + 1) * 4 = n * 4 + 1 + 1 + 1 + 1 from by omega]
      simp only [marked, List.range_succ, List.map_append, List.map_cons, List.map_nil, List.append_assoc, List.cons_append, List.nil_append]
    rw [h1, h2, fl_append, ih]
    rfl
def cntSS (xss : List (List Ins)) : Nat := (xss.map fun xs => xs.length * 4).sum
def mkSS : List (List Ins) → Int → List (List Ins)
  | [], _ => []
  | xs :: xss, m => mk4 xs.length m :: mkSS xss (m + (xs.length * 4 : Nat))
theorem mkSS_len : ∀ (xss : List (List Ins)) (m : Int), (mkSS xss m).length = xss.length
  | [], _ => rfl
  | t :: ts, m => by simp [mkSS, mkSS_len ts]
theorem mkSS_snoc : ∀ (xss : List (List Ins)) (xs : List Ins) (m : Int), mkSS (xss ++ [xs]) m = mkSS xss m ++ [mk4 xs.length (m + cntSS xss)]
  | [], t, m => by simp [mkSS, cntSS]
  | x :: ts, t, m => by
    rw [List.cons_append, mkSS, mkSS_snoc ts t, mkSS, List.cons_append, show m + ((x.length * 4 : Nat) : Int) + (cntSS ts : Int) = m + (cntSS (x :: ts) : Int) from by simp [cntSS]; omega]
def mkSAt (xss : List (List Ins)) (m : Int) (k : Nat) : List (List Ins) := mkSS (xss.take k) m ++ xss.drop k
theorem mkSAt_len (xss : List (List Ins)) (m : Int) (k : Nat) : (mkSAt xss m k).length = xss.length := by
  simp only [mkSAt, List.length_append, mkSS_len, List.length_take, List.length_drop]
  omega
theorem mkSAt_at {xss : List (List Ins)} {m : Int} {k : Nat} {t : List Ins} (h : xss[k]? = some t) : (mkSAt xss m k)[k]? = some t := by
  obtain ⟨hk, rfl⟩ := List.getElem?_eq_some_iff.1 h
  have hl : (mkSS (xss.take k) m).length = k := by rw [mkSS_len, List.length_take]; omega
  unfold mkSAt
  rw [List.getElem?_append_right (by omega), hl, Nat.sub_self]
  simp
theorem mkSAt_next {xss : List (List Ins)} {m : Int} {k : Nat} {t : List Ins} (h : xss[k]? = some t) : (mkSAt xss m k).set k (mk4 t.length (m + cntSS (xss.take k))) = mkSAt xss m (k + 1) := by
  obtain ⟨hk, rfl⟩ := List.getElem?_eq_some_iff.1 h
  have hl : (mkSS (xss.take k) m).length = k := by rw [mkSS_len, List.length_take]; omega
  unfold mkSAt
  rw [List.set_append, if_neg (by omega), hl, Nat.sub_self, List.drop_eq_getElem_cons hk, List.set_cons_zero, List.take_add_one, List.getElem?_eq_getElem hk, Option.toList_some, mkSS_snoc, List.append_assoc]
  rfl
theorem cntSS_take {xss : List (List Ins)} {k : Nat} {t : List Ins} (h : xss[k]? = some t) : cntSS (xss.take (k + 1)) = cntSS (xss.take k) + t.length * 4 := by
  rw [List.take_add_one, h]
  simp [cntSS]
theorem cntSS_le : ∀ (xss : List (List Ins)) (k : Nat), cntSS (xss.take k) ≤ 4 * totSS xss
  | [], k => by simp [cntSS]
  | t :: ts, 0 => by simp [cntSS]
  | t :: ts, k + 1 => by
    have := cntSS_le ts k
    simp only [cntSS, totSS, List.take_succ_cons, List.map_cons, List.sum_cons, List.length_cons] at this ⊢
    omega
theorem cntSS_all (xss : List (List Ins)) : cntSS xss ≤ 4 * totSS xss := by
  have := cntSS_le xss xss.length
  rwa [List.take_length] at this
theorem InSS.upd {w w' : World} {ys : List Ins} {c : Value} {xs : List Ins} {b : List Nat} (ho : Only b w w') (hn : Own w' c 4 ys.length (flc ys) b) : ∀ {vs : List Value} {xss : List (List Ins)} {bss : List (List Nat)} {k : Nat}, InSS w vs xss bss → vs[k]? = some c → xss[k]? = some xs → bss[k]? = some b →
    InSS w' vs (xss.set k ys) bss
  | [], _, _, k, _, h, _, _ => by simp at h
  | _ :: _, [], _, k, _, _, h, _ => by simp at h
  | _ :: _, _ :: _, [], k, _, _, _, h => by simp at h
  | c0 :: vs, x0 :: xss, b0 :: bss, 0, h, h1, h2, h3 => by
    simp only [List.getElem?_cons_zero, Option.some.injEq] at h1 h2 h3
    subst h1 h2 h3
    exact ⟨hn, h.2.1, InSS.of_blocks ho.size h.2.2 fun y hy => ho.block y (InSS.lt h.2.2 y hy) fun hm => by have := h.2.1 y hm y hy; omega⟩
  | c0 :: vs, x0 :: xss, b0 :: bss, k + 1, h, h1, h2, h3 => by
    have hb : ∀ y ∈ b, y ∈ bss.flatten := fun y hy => List.mem_flatten.2 ⟨b, List.mem_of_getElem? (by simpa using h3), hy⟩
    exact ⟨h.1.only ho fun y hy hm => by have := h.2.1 y hy y (hb y hm); omega, h.2.1, InSS.upd ho hn h.2.2 (by simpa using h1) (by simpa using h2) (by simpa using h3)⟩
theorem InSS.get {w : World} : ∀ {vs : List Value} {xss : List (List Ins)} {bss : List (List Nat)} {k : Nat} {xs : List Ins}, InSS w vs xss bss → xss[k]? = some xs → ∃ c b, vs[k]? = some c ∧ bss[k]? = some b ∧ Own w c 4 xs.length (flc xs) b
  | [], [], _, k, xs, _, h => by simp at h
  | [], _ :: _, _, k, xs, h, _ => h.elim
  | _ :: _, [], _, k, xs, _, h => by simp at h
  | _ :: _, _ :: _, [], k, xs, h, _ => h.elim
  | c0 :: vs, x0 :: xss, b0 :: bss, 0, xs, h, h2 => by
    simp only [List.getElem?_cons_zero, Option.some.injEq] at h2
    subst h2
    exact ⟨c0, b0, rfl, rfl, h.1⟩
  | c0 :: vs, x0 :: xss, b0 :: bss, k + 1, xs, h, h2 => by
    obtain ⟨c, b, h3, h4, h5⟩ := InSS.get h.2.2 (by simpa using h2)
    exact ⟨c, b, by simpa using h3, by simpa using h4, h5⟩
set_option maxHeartbeats 1600000 in
theorem markInstrSS (v : Value) (xss : List (List Ins)) (bs : List Nat) (m : Int) (w : World) (h : OwnSS w v xss bs) (hsz : totSS xss ≤ 16777216) (hm0 : 0 ≤ m) (hm : m ≤ 1090921693184) :
    Calls Tryz.prog 45 #[v, .int .i64 m] w fun e w' => e = .returned (.int .i64 (m + cntSS xss)) ∧ OwnSS w' v (mkSS xss m) bs ∧ Only bs w w' := by
  obtain ⟨vs, b0, bss, hR, hI, rfl, hord⟩ := h
  obtain ⟨A, c, rfl, hnc, hc⟩ := hR.slice
  have hn : xss.length ≤ 16777216 := by unfold totSS at hsz; omega
  obtain ⟨bs, hbs⟩ : ∃ bs, bs = b0 ++ bss.flatten := ⟨_, rfl⟩
  have HBB := Lib.hid hbs
  rw [← hbs]
  clear hbs
  have HR := Lib.hid hR
  have hdis : ∀ x ∈ b0, x ∉ bss.flatten := fun x hx hm => by have := hord x hx x hm; omega
  have HORD := Lib.hid hord
  have HD := Lib.hid hdis
  clear hord hdis
  go_enter Tryz.func45, Tryz.ntmps45
  go_wp2
  go_loopw [1, 5] (fun mm i wr => ∃ k : Nat, k ≤ xss.length ∧ i = .int .i64 k ∧ mm = .int .i64 (m + cntSS (xss.take k)) ∧ InSS wr vs (mkSAt xss m k) bss ∧ Own wr (.slice A xss.length c) 1 xss.length vs b0 ∧ Only bs w wr) (fun _ i _ => xss.length - (intOf i).toNat)
  case atStart => exact ⟨0, Nat.zero_le _, rfl, by simp [cntSS], hI, hR, Only.refl _ _⟩
  case round =>
    obtain ⟨k, hk, rfl, rfl, hJ, hS, hOn⟩ := hrel
    clear hI hR
    by_cases hlt : k < xss.length
    · have hx : xss[k]? = some xss[k] := List.getElem?_eq_getElem hlt
      generalize xss[k] = xs at hx
      have ht := mkSAt_at (m := m) hx
      obtain ⟨ck, bk, hck, hbk, hown⟩ := hJ.get ht
      obtain ⟨b, o, c', he, hb0, -, hat, -, -⟩ := hS.open_ (by omega)
      injection he with h1 _ h3
      subst h1 h3
      obtain ⟨hc0, hf0⟩ := hat k _ hck
      have hsub := totSS_mem (List.mem_of_getElem? hx)
      have hcl := cntSS_le xss k
      obtain ⟨Ak, dk, rfl, -, -⟩ := hown.slice
      have HX := Lib.hid hx
      have hct := cntSS_take hx
      obtain ⟨M, hM⟩ : ∃ M : Int, M = m + cntSS (xss.take k) := ⟨_, rfl⟩
      have hMb : 0 ≤ M ∧ M ≤ 1099000000000 := by omega
      have HCT : Hid (m + (cntSS (xss.take (k + 1)) : Int) = M + xs.length * 4) := Lib.hid (by omega)
      have HM := Lib.hid hM
      rw [← hM]
      clear hx hat hcl hM hct
      go_wp2_with fail
      refine (markInstrS _ (fl xs) xs.length bk M _ hown (by omega) (by omega) (by omega)).mono ?_
      rintro e w1 ⟨rfl, ho1, hon1⟩
      have hin : ∀ y ∈ bk, y ∈ bss.flatten := fun y hy => List.mem_flatten.2 ⟨bk, List.mem_of_getElem? hbk, hy⟩
      have hJ2 := InSS.upd (ys := mk4 xs.length M) hon1 (by rw [mk4_len, flc_mk4]; exact ho1) hJ hck ht hbk
      rw [HM.out, mkSAt_next HX.out] at hJ2
      have hS2 := hS.only hon1 fun y hy hm => HD.out y hy (hin y hm)
      have hOn2 := hOn.trans (hon1.mono (bs' := bs) fun y hy => by rw [HBB.out]; exact List.mem_append.2 (.inr (hin y hy)))
      clear hJ hS hOn hown ho1 hon1 hin
      go_wp2_with fail
      exact ⟨⟨k + 1, by omega, by go_num, by rw [HCT.out], hJ2, hS2, hOn2⟩, by simp [intOf]; omega⟩
    · obtain rfl : k = xss.length := by omega
      rw [List.take_length]
      go_wp2_with fail
      go_ret
      unfold mkSAt at hJ
      rw [List.take_length, List.drop_length, List.append_nil] at hJ
      exact ⟨rfl, ⟨vs, b0, bss, by rw [mkSS_len]; exact hS, hJ, HBB.out, HORD.out⟩, hOn⟩
def mkPr (p : Pr) (m : Int) : Pr := ⟨p.c, mkSS p.x m⟩
set_option maxHeartbeats 800000 in
theorem markProg (v : Value) (p : Pr) (bs : List Nat) (m : Int) (w : World) (h : OwnSS w v p.x bs) (hsz : totSS p.x ≤ 16777216) (hm0 : 0 ≤ m) (hm : m ≤ 1090921693184) :
    Calls Tryz.prog 17 #[.agg #[.int .i64 p.c, v], .int .i64 m] w fun e w' => e = .returned (.int .i64 (m + cntSS p.x)) ∧ OwnSS w' v (mkPr p m).x bs ∧ Only bs w w' := by
  obtain ⟨A, c, rfl, hnc, hc⟩ := h.slice
  have hB := (Below.refl w.heap.size w).alloc (Nat.le_refl _) (.cells #[.int .i64 p.c, .slice A p.x.length c] 26)
  have h1 := h.below hB
  have HB := Lib.hid hB
  clear hB
  go_enter Tryz.func17, Tryz.ntmps17
  go_wp2_with fail
  refine (markInstrSS _ p.x bs m _ h1 hsz hm0 hm).mono ?_
  rintro e w1 ⟨rfl, ho1, hon1⟩
  go_wp2_with fail
  go_ret
  exact ⟨rfl, ho1, (Only.of_below HB.out bs).trans hon1⟩
theorem mkSS_at : ∀ {xss : List (List Ins)} {m : Int} {k : Nat} {xs : List Ins}, xss[k]? = some xs → (mkSS xss m)[k]? = some (mk4 xs.length (m + cntSS (xss.take k)))
  | [], m, k, xs, h => by simp at h
  | x :: xss, m, 0, xs, h => by
    simp only [List.getElem?_cons_zero, Option.some.injEq] at h
    subst h
    simp [mkSS, cntSS]
  | x :: xss, m, k + 1, xs, h => by
    have := mkSS_at (m := m + (x.length * 4 : Nat)) (k := k) (xs := xs) (by simpa using h)
    rw [mkSS, List.getElem?_cons_succ, this]
    rw [List.take_succ_cons, show m + ((x.length * 4 : Nat) : Int) + (cntSS (xss.take k) : Int) = m + (cntSS (x :: xss.take k) : Int) from by simp [cntSS]; omega]
set_option maxHeartbeats 1600000 in
theorem heldInstrSS (v : Value) (xss : List (List Ins)) (m : Int) (w : World) (h : RdSS w v (mkSS xss m)) (hsz : totSS xss ≤ 16777216) (hm0 : 0 ≤ m) (hm : m ≤ 1090921693184) :
    Calls Tryz.prog 46 #[v, .int .i64 m] w fun e w' => e = .returned (.int .i64 (m + cntSS xss)) ∧ Below w.heap.size w w' := by
  obtain ⟨vs, ⟨A, c, rfl, -, hnc, hc, hr⟩, hin⟩ := h
  unfold maxLen at hc
  rw [mkSS_len] at hnc hr ⊢
  have hn : xss.length ≤ 16777216 := by unfold totSS at hsz; omega
  go_enter Tryz.func46, Tryz.ntmps46
  go_wp2
  go_loopw [1, 5] (fun mm i wr => ∃ k : Nat, k ≤ xss.length ∧ i = .int .i64 k ∧ mm = .int .i64 (m + cntSS (xss.take k)) ∧ Below w.heap.size w wr) (fun _ i _ => xss.length - (intOf i).toNat)
  case atStart => exact ⟨0, Nat.zero_le _, rfl, by simp [cntSS], Below.refl _ _⟩
  case round =>
    obtain ⟨k, hk, rfl, rfl, hB⟩ := hrel
    by_cases hlt : k < xss.length
    · have hx : xss[k]? = some xss[k] := List.getElem?_eq_getElem hlt
      generalize xss[k] = xs at hx
      obtain ⟨b, o, rfl, hb, hcell⟩ := hr (by omega)
      obtain ⟨ck, hck, hrk⟩ := hin.at_ (mkSS_at (m := m) hx)
      have hx0 := (hB.cell (p := ⟨b, o + k, none⟩) hb).trans (hcell k _ hck)
      have hsub := totSS_mem (List.mem_of_getElem? hx)
      have hcl := cntSS_le xss k
      have hct := cntSS_take hx
      obtain ⟨M, hM⟩ : ∃ M : Int, M = m + cntSS (xss.take k) := ⟨_, rfl⟩
      have hMb : 0 ≤ M ∧ M ≤ 1099000000000 := by omega
      have HCT : Hid (m + (cntSS (xss.take (k + 1)) : Int) = M + xs.length * 4) := Lib.hid (by omega)
      rw [← hM] at hrk ⊢
      rw [mk4_len, flc_mk4] at hrk
      have hrk' := hrk.below hB
      obtain ⟨Ak, dk, rfl, -, -, -, -⟩ := id hrk'
      clear hx hcl hM hct hcell hr hin hrk hck
      go_wp2_with fail
      refine (heldInstrSB _ xs.length M _ hrk' (by omega) (by omega) (by omega)).mono ?_
      rintro e w1 ⟨rfl, hb1⟩
      go_wp2_with fail
      exact ⟨⟨k + 1, by omega, by go_num, by rw [HCT.out], hB.trans (hb1.mono hB.size)⟩, by simp [intOf]; omega⟩
    · obtain rfl : k = xss.length := by omega
      rw [List.take_length]
      go_wp2_with fail
      go_ret
      exact ⟨rfl, hB⟩
set_option maxHeartbeats 800000 in
theorem heldProg (v : Value) (p : Pr) (m : Int) (w : World) (h : RdSS w v (mkPr p m).x) (hsz : totSS p.x ≤ 16777216) (hm0 : 0 ≤ m) (hm : m ≤ 1073741824) :
    Calls Tryz.prog 19 #[.agg #[.int .i64 p.c, v], .int .i64 m] w fun e w' => e = .returned (.int .i64 (m + cntSS p.x)) ∧ Below w.heap.size w w' := by
  obtain ⟨vs, ⟨A, c, rfl, hx1, hx2, hx3, hx4⟩, hin⟩ := h
  have h' : RdSS w (.slice A (mkPr p m).x.length c) (mkSS p.x m) := ⟨vs, ⟨A, c, rfl, hx1, hx2, hx3, hx4⟩, hin⟩
  have hB := (Below.refl w.heap.size w).alloc (Nat.le_refl _) (.cells #[.int .i64 p.c, .slice A (mkPr p m).x.length c] 26)
  have h1 := h'.below hB
  have hc := cntSS_all p.x
  have HB := Lib.hid hB
  clear hB hx1 hx2 hx3 hx4 hin h'
  go_enter Tryz.func19, Tryz.ntmps19
  go_wp2_with fail
  refine (heldInstrSS _ p.x m _ h1 hsz hm0 (by omega)).mono ?_
  rintro e w1 ⟨rfl, hb1⟩
  go_wp2_with fail
  go_ret
  exact ⟨rfl, HB.out.trans (hb1.mono HB.out.size)⟩
end Go.Proofs.YtgbgjlmkmlhefaaGreatDoor
