/- Contracts of CanMove and spec.Moves. Condition: the program and the machine can be read. -/
import Derived.Test.YtiflooopfpcelaaC6
import Derived.Laws.StructEq
namespace Go.Proofs.Ytiflooopfpcelaa
set_option maxRecDepth 20000
set_option linter.unusedSimpArgs false
set_option linter.unusedVariables false
open Go.ChangeShapes Go.WideShapes Go.ChangeAt Go.RowKit
def isMv (m x : Mv) : Bool := decide (m = x)
set_option maxHeartbeats 1600000 in
theorem mv_Index (v : Value) (xs : List Mv) (m : Mv) (w : World) (h : Rd w v 2 xs.length (mvCs xs)) :
    Calls Try.prog 115 #[v, .agg #[.int .i64 m.t, .bool m.d]] w fun e w' => ∃ r : Int, e = .returned (.int .i64 r) ∧ Hid (decide (0 ≤ r) = xs.any (isMv m)) ∧ Below w.heap.size w w' := by
  obtain ⟨A, c, rfl, -, hnc, hc, hr⟩ := h
  unfold maxLen at hc
  obtain ⟨mt, md⟩ := m
  have hB0 := (Below.refl w.heap.size w).alloc (Nat.le_refl _) (.cells #[.int .i64 mt, .bool md] 54)
  have K := Bk.new w #[.int .i64 mt, .bool md] 54
  obtain ⟨W0, hW0⟩ : ∃ W0, W0 = w.alloc (.cells #[.int .i64 mt, .bool md] 54) := ⟨_, rfl⟩
  rw [← hW0] at hB0 K
  have HW0 := Lib.hid hW0
  clear hW0
  go_enter Try.func115, Try.ntmps115
  go_wp2_with fail
  rw [← HW0.out]
  go_loopw [8] (fun i wr => ∃ (k nq : Nat), k ≤ xs.length ∧ i = .int .i64 k ∧ Hid (xs.any (isMv ⟨mt, md⟩) = (xs.drop k).any (isMv ⟨mt, md⟩)) ∧ wr = W0.drewN nq) (fun i _ => xs.length - (intOf i).toNat)
  case atStart => exact ⟨0, 0, Nat.zero_le _, rfl, Lib.hid rfl, rfl⟩
  case round =>
    obtain ⟨k, nq, hk, rfl, HA, rfl⟩ := hrel
    obtain ⟨k0, -⟩ := K.at_ 0 (x := .int .i64 mt) rfl
    obtain ⟨k1, -⟩ := K.at_ 1 (x := .bool md) rfl
    by_cases hlt : k < xs.length
    · obtain ⟨b, o, rfl, hb, hcell⟩ := hr (by omega)
      obtain ⟨y, hyk, hy0, hy1⟩ := mv_at (wr := W0) hcell hlt hB0 hb
      obtain ⟨yt, yd⟩ := y
      simp only at hy0 hy1
      have hdr : xs.drop k = ⟨yt, yd⟩ :: xs.drop (k + 1) := by
        obtain ⟨h1, h2⟩ := List.getElem?_eq_some_iff.1 hyk.out
        rw [List.drop_eq_getElem_cons h1, h2]
      have hklt : (k : Int) < xs.length := by omega
      clear hcell hr
      by_cases he : mt = yt
      · by_cases hd : md = yd
        · subst he hd
          have HH : Hid (xs.any (isMv ⟨mt, md⟩) = true) := Lib.hid (by rw [HA.out, hdr]; simp [isMv])
          have e1 : (mt == mt) = true := by simp
          have e2 : (md == md) = true := by simp
          clear hdr
          go_wp2_with fail
          go_quiet (fail)
          go_wp2_with fail
          go_ret
          exact ⟨_, rfl, Lib.hid (by rw [HH.out]; simp), below_more (below_more hB0 _) _⟩
        · have HH : Hid (xs.any (isMv ⟨mt, md⟩) = (xs.drop (k + 1)).any (isMv ⟨mt, md⟩)) := Lib.hid (by rw [HA.out, hdr]; simp [isMv, hd])
          subst he
          have e1 : (mt == mt) = true := by simp
          have e2 : (md == yd) = false := by simp [hd]
          clear hdr hd
          go_wp2_with fail
          go_quiet (fail)
          go_wp2_with fail
          exact ⟨⟨k + 1, _, by omega, by go_num, HH, rfl⟩, by simp [intOf]; omega⟩
      · have HH : Hid (xs.any (isMv ⟨mt, md⟩) = (xs.drop (k + 1)).any (isMv ⟨mt, md⟩)) := Lib.hid (by rw [HA.out, hdr]; simp [isMv, he])
        have e1 : (mt == yt) = false := by simp [he]
        clear hdr he
        go_wp2_with fail
        go_quiet (fail)
        go_wp2_with fail
        exact ⟨⟨k + 1, _, by omega, by go_num, HH, rfl⟩, by simp [intOf]; omega⟩
    · obtain rfl : k = xs.length := by omega
      have HH : Hid (xs.any (isMv ⟨mt, md⟩) = false) := Lib.hid (by rw [HA.out]; simp)
      go_wp2_with fail
      go_ret
      exact ⟨_, rfl, Lib.hid (by rw [HH.out]; simp), below_more hB0 _⟩
set_option maxHeartbeats 400000 in
theorem mv_Contains (v : Value) (xs : List Mv) (m : Mv) (w : World) (h : Rd w v 2 xs.length (mvCs xs)) :
    Calls Try.prog 72 #[v, .agg #[.int .i64 m.t, .bool m.d]] w fun e w' => e = .returned (.bool (xs.any (isMv m))) ∧ Below w.heap.size w w' := by
  obtain ⟨A, c, rfl, -⟩ := id h
  have hB0 := (Below.refl w.heap.size w).alloc (Nat.le_refl _) (.cells #[.int .i64 m.t, .bool m.d] 54)
  go_enter Try.func72, Try.ntmps72
  go_wp2_with fail
  refine (mv_Index _ xs m _ (h.below hB0)).mono ?_
  rintro e w1 ⟨r, rfl, HR, hb1⟩
  go_wp2_with fail
  go_ret
  exact ⟨ret_bool HR.out, hB0.trans (hb1.mono hB0.size)⟩
theorem mem_mvOf {k j : Nat} {q : Th × List Ins} {m : Mv} (h : m ∈ mvOf j q) : m.t = j ∧ canT m.d q.1 q.2 = true := by
  unfold mvOf at h
  rcases List.mem_append.1 h with h | h
  · split at h
    · rename_i hc
      simp only [List.mem_singleton] at h
      subst h
      exact ⟨rfl, by simpa [canT] using hc⟩
    · simp at h
  · split at h
    · rename_i hc
      simp only [List.mem_singleton] at h
      subst h
      exact ⟨rfl, by simpa [canT] using hc⟩
    · simp at h
theorem mem_of_can {j : Nat} {q : Th × List Ins} {d : Bool} (h : canT d q.1 q.2 = true) : (⟨j, d⟩ : Mv) ∈ mvOf j q := by
  unfold mvOf
  cases d
  · refine List.mem_append.2 (.inl ?_)
    have : canEx q.1 q.2 = true := by simpa [canT] using h
    rw [if_pos this]
    simp
  · refine List.mem_append.2 (.inr ?_)
    have : canDr q.1 = true := by simpa [canT] using h
    rw [if_pos this]
    simp
/-- a move stands in the list just where it can be done -/
theorem mvsF_any (p : Pr) (M : Ma) (m : Mv) : (mvsF p M).any (isMv m) = canMv p M m := by
  rw [Bool.eq_iff_iff, List.any_eq_true]
  unfold mvsF canMv
  cases hok : machOk p M
  · simp
  · obtain ⟨h1, -, -, h4, -⟩ := machOk_parts hok
    have hpl := progOk_len h1
    simp only [if_true, Bool.true_and, Bool.and_eq_true]
    constructor
    · rintro ⟨x, hx, he⟩
      obtain rfl : m = x := by simpa [isMv] using he
      unfold mvsAt at hx
      obtain ⟨j, hj, hm⟩ := List.mem_flatMap.1 hx
      have hj' := List.mem_range.1 hj
      obtain ⟨e1, e2⟩ := mem_mvOf (k := 0) hm
      refine ⟨by simp only [inB, Bool.and_eq_true, decide_eq_true_eq]; omega, ?_⟩
      unfold canAt
      rw [e1, Int.toNat_natCast]
      exact e2
    · rintro ⟨hi, hc⟩
      have := inB_true hi
      obtain ⟨mt, md⟩ := m
      simp only at this
      refine ⟨⟨mt, md⟩, ?_, by simp [isMv]⟩
      unfold mvsAt
      refine List.mem_flatMap.2 ⟨mt.toNat, List.mem_range.2 (by omega), ?_⟩
      have e : (⟨mt, md⟩ : Mv) = ⟨(mt.toNat : Int), md⟩ := by rw [Int.toNat_of_nonneg this.1]
      rw [e]
      exact mem_of_can hc
set_option maxHeartbeats 1600000 in
theorem impl_CanMove (v mv tv : Value) (p : Pr) (M : Ma) (m : Mv) (w : World) (h : RdSS w v p.x) (hm : RdMa w mv tv M) :
    Calls Try.prog 26 #[.agg #[.int .i64 p.c, v], .agg #[mv, tv], .agg #[.int .i64 m.t, .bool m.d]] w fun e w' => e = .returned (.bool (canMv p M m)) ∧ Below w.heap.size w w' := by
  obtain ⟨A0, c0, B0, d0, rfl, rfl, -⟩ := hm.slices
  obtain ⟨vs, ⟨A, c, rfl, -, hnc, hc, hr⟩, hin⟩ := id h
  have hB0 := (((Below.refl w.heap.size w).alloc (Nat.le_refl _) (.cells #[.int .i64 p.c, .slice A p.x.length c] 36)).alloc (by simp) (.cells #[.slice A0 M.mem.length c0, .slice B0 M.ths.length d0] 41)).alloc (by simp; omega) (.cells #[.int .i64 m.t, .bool m.d] 54)
  have k0 := ((Bk.new w #[.int .i64 p.c, .slice A p.x.length c] 36).alloc (.cells #[.slice A0 M.mem.length c0, .slice B0 M.ths.length d0] 41)).alloc (.cells #[.int .i64 m.t, .bool m.d] 54)
  have k1 := (Bk.new (w.alloc (.cells #[.int .i64 p.c, .slice A p.x.length c] 36)) #[.slice A0 M.mem.length c0, .slice B0 M.ths.length d0] 41).alloc (.cells #[.int .i64 m.t, .bool m.d] 54)
  have k2 := Bk.new ((w.alloc (.cells #[.int .i64 p.c, .slice A p.x.length c] 36)).alloc (.cells #[.slice A0 M.mem.length c0, .slice B0 M.ths.length d0] 41)) #[.int .i64 m.t, .bool m.d] 54
  simp only [World.size_alloc] at k1 k2
  obtain ⟨W0, hW0⟩ : ∃ W0, W0 = ((w.alloc (.cells #[.int .i64 p.c, .slice A p.x.length c] 36)).alloc (.cells #[.slice A0 M.mem.length c0, .slice B0 M.ths.length d0] 41)).alloc (.cells #[.int .i64 m.t, .bool m.d] 54) := ⟨_, rfl⟩
  rw [← hW0] at hB0 k0 k1 k2
  have HW0 := Lib.hid hW0
  have HB0 := Lib.hid hB0
  have hS : Hid (∀ W : World, Below W0.heap.size W0 W → Below W0.heap.size W0 W ∧ W.cell? ⟨w.heap.size, 0, none⟩ = some (.int .i64 p.c) ∧ W.cell? ⟨w.heap.size, 1, none⟩ = some (.slice A p.x.length c) ∧
      W.cell? ⟨w.heap.size + 1, 0, none⟩ = some (.slice A0 M.mem.length c0) ∧ W.cell? ⟨w.heap.size + 1, 1, none⟩ = some (.slice B0 M.ths.length d0) ∧
      W.cell? ⟨w.heap.size + 1 + 1, 0, none⟩ = some (.int .i64 m.t) ∧ W.cell? ⟨w.heap.size + 1 + 1, 1, none⟩ = some (.bool m.d)) :=
    Lib.hid fun W hW => ⟨hW, ((k0.below hW k0.lt).at_ 0 rfl).1, ((k0.below hW k0.lt).at_ 1 rfl).1, ((k1.below hW k1.lt).at_ 0 rfl).1, ((k1.below hW k1.lt).at_ 1 rfl).1, ((k2.below hW k2.lt).at_ 0 rfl).1, ((k2.below hW k2.lt).at_ 1 rfl).1⟩
  clear hr hin hW0 hB0 k0 k1 k2
  go_enter Try.func26, Try.ntmps26
  go_wp2_with fail
  rw [← HW0.out]
  go_region_held3 (fun W => Below W0.heap.size W0 W ∧ W.cell? ⟨w.heap.size, 0, none⟩ = some (.int .i64 p.c) ∧ W.cell? ⟨w.heap.size, 1, none⟩ = some (.slice A p.x.length c) ∧
      W.cell? ⟨w.heap.size + 1, 0, none⟩ = some (.slice A0 M.mem.length c0) ∧ W.cell? ⟨w.heap.size + 1, 1, none⟩ = some (.slice B0 M.ths.length d0) ∧
      W.cell? ⟨w.heap.size + 1 + 1, 0, none⟩ = some (.int .i64 m.t) ∧ W.cell? ⟨w.heap.size + 1 + 1, 1, none⟩ = some (.bool m.d)) (first | (exact hS.out _ (Below.refl _ _).drew) | (exact hS.out _ (by assumption)))
    (first
      | (go_at_call 28; have hq := ‹Below W0.heap.size W0 _ ∧ _›.1; refine (impl_Moves _ _ _ p M _ (h.below (HB0.out.trans (hq.mono HB0.out.size))) (hm.below (HB0.out.trans (hq.mono HB0.out.size)))).mono ?_; rintro e w8 ⟨v8, bs8, rfl, ho8, hlo8, hb8⟩; obtain ⟨A8, c8, rfl, -, -⟩ := ho8.slice; have hq2 := hq.trans (hb8.mono hq.size); clear hq)
      | (go_at_call 72; have hq := ‹Below W0.heap.size W0 _ ∧ _›.1; refine (mv_Contains _ (mvsF p M) m _ ho8.rd).mono ?_; rintro e w9 ⟨rfl, hb9⟩; have hq3 := hq.trans (hb9.mono hq.size); clear hq))
  all_goals
    have hq := ‹Below W0.heap.size W0 _ ∧ _›.1
    have HF := Lib.hid (mvsF_any p M m)
    rw [HF.out]
    go_wp2_with fail
    go_ret
    exact ⟨rfl, HB0.out.trans (hq.mono HB0.out.size)⟩
end Go.Proofs.Ytiflooopfpcelaa
