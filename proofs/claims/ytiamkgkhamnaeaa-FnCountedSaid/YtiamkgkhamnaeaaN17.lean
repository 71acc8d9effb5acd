/- Contracts of CutObj (packages spec and impl). Conditions: the bench's rows can be read (impl: and hold numbers of 64 bits); lengths that a law bounds. -/
import Derived.Test.YtiamkgkhamnaeaaN16
namespace Go.Proofs.Ytiamkgkhamnaeaa
set_option maxRecDepth 20000
set_option linter.unusedSimpArgs false
set_option linter.unusedVariables false
open Go.ChangeShapes Go.WideShapes Go.ChangeAt Go.RowKit
set_option linter.unusedVariables false
theorem cutOk_no {B : Bn} {x : Int} (h : cutOk B x = false) : cutBn B x = B ∧ cutOk B x = false := by simp [cutBn, h]
theorem cutOk_yes {B : Bn} {x : Int} (h : cutOk B x = true) : cutBn B x = { B with l := lessF B.l x, w := B.w ++ [x] } ∧ cutOk B x = true := by simp [cutBn, h]
theorem filter_ne_erase : ∀ {l : List Int} {k : Nat} {x : Int}, l.Nodup → l[k]? = some x → (l.filter fun y => !(y == x)) = l.eraseIdx k
  | [], k, x, _, h => by simp at h
  | a :: l, 0, x, hn, h => by
    simp at h
    subst h
    have h1 := (List.nodup_cons.1 hn).1
    rw [List.filter_cons_of_neg (by simp), List.eraseIdx_cons_zero]
    exact List.filter_eq_self.2 fun y hy => by
      have : y ≠ a := fun e => h1 (e ▸ hy)
      simp [this]
  | a :: l, k + 1, x, hn, h => by
    obtain ⟨h1, h2⟩ := List.nodup_cons.1 hn
    have h' : l[k]? = some x := by simpa using h
    have hax : a ≠ x := fun e => h1 (e ▸ List.mem_of_getElem? h')
    rw [List.filter_cons_of_pos (by simp [hax]), List.eraseIdx_cons_succ, filter_ne_erase h2 h']
theorem less_erase {B : Bn} {x : Int} {k : Nat} (h : BnOk B) (hk : B.l[k]? = some x) : lessF B.l x = B.l.eraseIdx k := by
  have hn : B.l.Nodup := by
    have := h.2.1.2.1
    unfold allBn at this
    exact (List.nodup_append.1 this).1
  exact filter_ne_erase hn hk
theorem owns_addr {w : World} {lo : Nat} {e : TypeId} {size n m c : Nat} {A : Option Addr} {L : List Value} (h : w.ownsRow lo e size (.slice A n c) m L) (hn : 0 < n) : ∃ g, A = some ⟨g, 0, none⟩ := by
  obtain ⟨hl, ⟨h1, h2⟩ | ⟨g', cap', cur, he, -⟩⟩ := h
  · injection h1 with h1 h3
    omega
  · injection he with e1
    exact ⟨g', e1⟩
theorem owns_caps {w : World} {lo : Nat} {e : TypeId} {size n c : Nat} {A : Option Addr} {L : List Value} (h : w.ownsRow lo e size (.slice A n c) n L) : n ≤ c ∧ c ≤ 9223372036854775807 := by
  obtain ⟨hl, ⟨h1, h2⟩ | ⟨g', cap', cur, he, hb, hg, hn, hm, -⟩⟩ := h
  · injection h1 with h1 h3 h4
    omega
  · injection he with e1 e2 e3
    subst e3
    unfold maxLen at hm
    exact ⟨hn, by omega⟩
theorem OwnBT.setL {w w' : World} {lo : Nat} {a b c d v : Value} {B B' : Bn} (h : OwnBT w lo a b c d B) (h9 : w'.ownsRow lo 3 1 v B'.l.length (ints B'.l)) (hv : ∀ k, v.ownBlock = some k → w.heap.size ≤ k) (hb : Below w.heap.size w w') (e1 : B'.h = B.h) (e2 : B'.w = B.w) (e3 : B'.f = B.f) :
    OwnBT w' lo v b c d B' :=
  ⟨h9, by rw [e1]; exact ownsRow_below h.h hb, by rw [e2]; exact ownsRow_below h.q hb, by rw [e3]; exact ownsRow_below h.f hb, fun k hk e => by have := hv k hk; have := h.h.lt k e; omega, fun k hk e => by have := hv k hk; have := h.q.lt k e; omega, fun k hk e => by have := hv k hk; have := h.f.lt k e; omega, h.bc, h.bd, h.cd⟩
theorem OwnBT.putQ {w w' : World} {lo : Nat} {a b c d v : Value} {B B' : Bn} (h : OwnBT w lo a b c d B) (h9 : w'.ownsRow lo 3 1 v B'.w.length (ints B'.w)) (hg : w.grownBy w' c.ownBlock) (hloc : v.ownBlock = c.ownBlock ∨ v.ownBlock = some w.heap.size) (e1 : B'.l = B.l) (e2 : B'.h = B.h) (e3 : B'.f = B.f) :
    OwnBT w' lo a b v d B' :=
  ⟨by rw [e1]; exact kept_ap h.l h.ac.symm hg, by rw [e2]; exact kept_ap h.h h.bc.symm hg, h9, by rw [e3]; exact kept_ap h.f h.cd hg, h.ab, (ap_new h.l h.ac.symm hloc).symm, h.ad, (ap_new h.h h.bc.symm hloc).symm, h.bd, ap_new h.f h.cd hloc⟩
def lessTo (l : List Int) (x : Int) (k : Nat) : List Int := (l.take k).filter fun y => !(y == x)
theorem lessTo_yes {l : List Int} {x y : Int} {k : Nat} (h : l[k]? = some y) (hn : ¬ y = x) : lessTo l x (k + 1) = lessTo l x k ++ [y] := by
  unfold lessTo
  rw [List.take_add_one, h]
  simp [List.filter_append, hn]
theorem lessTo_no {l : List Int} {x y : Int} {k : Nat} (h : l[k]? = some y) (hn : y = x) : lessTo l x (k + 1) = lessTo l x k := by
  unfold lessTo
  rw [List.take_add_one, h]
  simp [List.filter_append, hn]
theorem lessTo_len (l : List Int) (x : Int) (k : Nat) : (lessTo l x k).length ≤ k := by
  unfold lessTo
  have h1 := List.length_filter_le (fun y => !(y == x)) (l.take k)
  rw [List.length_take] at h1
  omega
set_option maxHeartbeats 800000 in
theorem l09LessT (v : Value) (xs : List Int) (x : Int) (w : World) (h : Rd w v 1 xs.length (ints xs)) (hsz : xs.length ≤ 16777215) :
    Calls Try.prog 92 #[v, .int .i64 x] w (RetIntsT (lessF xs x) w) := by
  obtain ⟨A, c, rfl, -, hnc, hc, hr⟩ := h
  unfold maxLen at hc
  obtain ⟨i, hi, hiz0, hiz1, hiz2⟩ := info_parts infoInt
  go_enter Try.func92, Try.ntmps92
  go_wp2_with fail
  go_loopw [5, 6] (fun v i wr => ∃ k m : Nat, k ≤ xs.length ∧ m ≤ k ∧ i = .int .i64 k ∧ wr.ownsRow w.heap.size 3 1 v m (ints (lessTo xs x k)) ∧ Below w.heap.size w wr) (fun _ i _ => xs.length - (intOf i).toNat)
  case atStart => exact ⟨0, 0, Nat.zero_le _, Nat.le_refl _, rfl, World.ownsRow_lit w #[] 0 (Nat.le_refl _) (by simp [maxLen]) rfl, (Below.refl _ _).alloc (Nat.le_refl _) _⟩
  case round =>
    obtain ⟨k, m, hk, hm, rfl, hO, hB⟩ := hrel
    by_cases hlt : k < xs.length
    · obtain ⟨b, o, rfl, hb, hcell⟩ := hr (by omega)
      obtain ⟨y, hyk, hy⟩ := int_at (fun j u hu => (hB.cell (p := ⟨b, o + j, none⟩) hb).trans (hcell j u hu)) hlt
      have hbw : b < wr.heap.size := Nat.lt_of_lt_of_le hb hB.size
      clear hcell hr
      by_cases hq : y = x
      · have HT := Lib.hid (lessTo_no hyk.out hq)
        have hq' : (y != x) = false := by simp [hq]
        clear hq
        go_wp2_with fail
        exact ⟨⟨k + 1, m, by omega, by omega, by go_num, by rw [HT.out]; exact hO, hB⟩, by simp [intOf]; omega⟩
      · have HT := Lib.hid (lessTo_yes hyk.out hq)
        have hq' : (y != x) = true := by simp [hq]
        clear hq
        go_wp2_with ((at_builtin; refine wpList_append_own _ rfl _ _ 22 rfl (w.heap.size) 3 i (.int .i64 0) 1 8 Try.underlying22 hi hiz0 hiz1 hiz2 rfl (by decide) _ _ _ rfl (hO.alloc _) ⟨wr.heap.size, 0, none⟩ 1 1 [.int .i64 y] rfl rfl ?c1 ?c2 ?c3 ?c4 ?c5 ?_))
        case c1 => exact new_cells _ _ _
        case c2 => simp [Value.oneCell']
        case c3 => unfold maxLen; omega
        case c4 => omega
        case c5 => have := hB.size; simp; omega
        intro v' w1 hown' hgrow _
        have hB' := (hB.alloc hB.size _).grown hgrow (by have := hB.size; simp; omega) (fun k hk => by have := (hO.lt k hk).1; omega)
        rw [show ints (lessTo xs x k) ++ [Value.int .i64 y] = ints (lessTo xs x (k + 1)) by rw [HT.out]; simp [ints]] at hown'
        clear hgrow
        go_wp2_with fail
        exact ⟨⟨k + 1, m + 1, by omega, by omega, by go_num, hown', hB'⟩, by simp [intOf]; omega⟩
    · go_wp2_with fail
      go_ret
      obtain rfl : k = xs.length := by omega
      have hmm := hO.1
      rw [ints_len] at hmm
      have he : lessTo xs x xs.length = lessF xs x := by simp [lessTo, lessF]
      rw [he] at hO hmm
      obtain rfl : m = (lessF xs x).length := by omega
      exact ⟨_, rfl, hO, hB⟩
set_option maxHeartbeats 3200000 in
theorem spec_CutObj (a b c d : Value) (B : Bn) (x : Int) (w : World) (r : RdBn w a b c d B)  (hsz : szBn B ≤ 16777215) :
    Calls Try.prog 54 #[.agg #[a, b, c, d, .int .i64 B.n], .int .i64 x] w (RetBnV (cutBn B x) (.bool (cutOk B x)) w) := by
  obtain ⟨A1, c1, A2, c2, A3, c3, A4, c4, ⟨rfl, rfl, rfl, rfl⟩, -, -⟩ := r.slices
  obtain ⟨i, hi, hiz0, hiz1, hiz2⟩ := info_parts infoInt
  have hll : (B.l.length ≤ 16777215 ∧ B.h.length ≤ 16777215) ∧ B.w.length ≤ 16777215 ∧ B.f.length ≤ 16777215 := by unfold szBn at hsz; omega
  obtain ⟨W0, hW0⟩ : ∃ W0, W0 = (w.alloc (.cells #[.slice A1 B.l.length c1, .slice A2 B.h.length c2, .slice A3 B.w.length c3, .slice A4 B.f.length c4, .int .i64 B.n] 31)).alloc (.cells #[.slice none 0 0, .slice none 0 0, .slice none 0 0, .slice none 0 0, .int .i64 0] 31) := ⟨_, rfl⟩
  have hB0 := ((Below.refl w.heap.size w).alloc (Nat.le_refl _) (.cells #[.slice A1 B.l.length c1, .slice A2 B.h.length c2, .slice A3 B.w.length c3, .slice A4 B.f.length c4, .int .i64 B.n] 31)).alloc (by simp) (.cells #[.slice none 0 0, .slice none 0 0, .slice none 0 0, .slice none 0 0, .int .i64 0] 31)
  have k0 := (Bk.new w #[.slice A1 B.l.length c1, .slice A2 B.h.length c2, .slice A3 B.w.length c3, .slice A4 B.f.length c4, .int .i64 B.n] 31).alloc (.cells #[.slice none 0 0, .slice none 0 0, .slice none 0 0, .slice none 0 0, .int .i64 0] 31)
  have r0 := Bk.new (w.alloc (.cells #[.slice A1 B.l.length c1, .slice A2 B.h.length c2, .slice A3 B.w.length c3, .slice A4 B.f.length c4, .int .i64 B.n] 31)) #[.slice none 0 0, .slice none 0 0, .slice none 0 0, .slice none 0 0, .int .i64 0] 31
  simp only [World.size_alloc] at r0
  have hs0 : W0.heap.size = w.heap.size + 2 := by rw [hW0]; simp
  rw [← hW0] at hB0 k0 r0
  have HBO : Hid (∀ W : World, Below w.heap.size w W → Calls Try.prog 35 #[.agg #[.slice A1 B.l.length c1, .slice A2 B.h.length c2, .slice A3 B.w.length c3, .slice A4 B.f.length c4, .int .i64 B.n]] W fun e w' => e = .returned (.bool (bnOk B)) ∧ Below W.heap.size W w') := Lib.hid (fun W hW => spec_BenchOk _ _ _ _ B W (r.below hW) (by omega))
  have HC := Lib.hid (l09CopyT _ _ _ _ B W0 (r.below hB0) (by omega))
  have HRW := Lib.hid r
  have HSZ := Lib.hid hsz
  have HW0 := Lib.hid hW0
  have hz0 : w.heap.size + 2 ≤ W0.heap.size := by omega
  have HB0 := Lib.hid hB0
  obtain ⟨y0, -⟩ := k0.at_ 0 (x := .slice A1 B.l.length c1) rfl
  clear hW0 hs0 hB0 r hsz
  go_enter Try.func54, Try.ntmps54
  go_wp2_with fail
  rw [← HW0.out]
  clear y0
  refine HC.out.mono ?_
  rintro e w1 ⟨u1, u2, u3, u4, rfl, hO, hb1⟩
  obtain ⟨D1, d1, rfl⟩ := owns_form' hO.l
  obtain ⟨D2, d2, rfl⟩ := owns_form' hO.h
  obtain ⟨D3, d3, rfl⟩ := owns_form' hO.q
  obtain ⟨D4, d4, rfl⟩ := owns_form' hO.f
  have hz1 := hb1.size
  have k1 := (k0.below hb1 k0.lt).alloc (.cells #[.slice D1 B.l.length d1, .slice D2 B.h.length d2, .slice D3 B.w.length d3, .slice D4 B.f.length d4, .int .i64 B.n] 31)
  have r1 := (r0.below hb1 r0.lt).alloc (.cells #[.slice D1 B.l.length d1, .slice D2 B.h.length d2, .slice D3 B.w.length d3, .slice D4 B.f.length d4, .int .i64 B.n] 31)
  have q1 := Bk.new w1 #[.slice D1 B.l.length d1, .slice D2 B.h.length d2, .slice D3 B.w.length d3, .slice D4 B.f.length d4, .int .i64 B.n] 31
  have hO1 := hO.below ((Below.refl _ _).alloc (Nat.le_refl _) (.cells #[.slice D1 B.l.length d1, .slice D2 B.h.length d2, .slice D3 B.w.length d3, .slice D4 B.f.length d4, .int .i64 B.n] 31))
  have HN1 := Lib.hid (hO.neHigh (g := w1.heap.size) (Nat.le_refl _))
  have hB1 := (HB0.out.trans (hb1.mono HB0.out.size)).alloc (by omega) (.cells #[.slice D1 B.l.length d1, .slice D2 B.h.length d2, .slice D3 B.w.length d3, .slice D4 B.f.length d4, .int .i64 B.n] 31)
  obtain ⟨W1, hW1⟩ : ∃ W1, W1 = w1.alloc (.cells #[.slice D1 B.l.length d1, .slice D2 B.h.length d2, .slice D3 B.w.length d3, .slice D4 B.f.length d4, .int .i64 B.n] 31) := ⟨_, rfl⟩
  rw [← hW1] at k1 r1 q1 hO1 hB1
  have HS1 := Lib.hid (And.intro hO1 (And.intro k1 (And.intro r1 (And.intro q1 hB1))))
  have HBC := Lib.hid (HBO.out _ hB1)
  obtain ⟨t0, -⟩ := k1.at_ 0 (x := .slice A1 B.l.length c1) rfl
  obtain ⟨t1, -⟩ := k1.at_ 1 (x := .slice A2 B.h.length c2) rfl
  obtain ⟨t2, -⟩ := k1.at_ 2 (x := .slice A3 B.w.length c3) rfl
  obtain ⟨t3, -⟩ := k1.at_ 3 (x := .slice A4 B.f.length c4) rfl
  obtain ⟨t4, -⟩ := k1.at_ 4 (x := .int .i64 B.n) rfl
  have HW1 := Lib.hid hW1
  have hgl := q1.lt
  clear k0 r0 hO hb1 hW1 k1 r1 q1 hO1 hB1
  go_upto_region 2 with (fail)
  rw [← HW1.out]
  cases hok : bnOk B
  · have HNO := Lib.hid (cutOk_no (B := B) (x := x) (by simp [cutOk, hok]))
    rw [hok] at HBC
    clear hok
    go_wp2_with (go_at_call 35; refine HBC.out.mono ?_; rintro e w2 ⟨rfl, hb2⟩; obtain ⟨hO1, k1, r1, q1, hB1⟩ := HS1.out; have k2 := k1.below hb2 k1.lt; have r2 := r1.below hb2 r1.lt; have q2 := q1.below hb2 q1.lt; have hO2 := hO1.below hb2; have hB2 := hB1.trans (hb2.mono hB1.size); obtain ⟨n0, nf0⟩ := k2.at_ 0 (x := .slice A1 B.l.length c1) rfl; obtain ⟨n1, nf1⟩ := k2.at_ 1 (x := .slice A2 B.h.length c2) rfl; obtain ⟨n2, nf2⟩ := k2.at_ 2 (x := .slice A3 B.w.length c3) rfl; obtain ⟨n3, nf3⟩ := k2.at_ 3 (x := .slice A4 B.f.length c4) rfl; obtain ⟨n4, nf4⟩ := k2.at_ 4 (x := .int .i64 B.n) rfl; obtain ⟨e0, ef0⟩ := q2.at_ 0 (x := .slice D1 B.l.length d1) rfl; obtain ⟨e1, ef1⟩ := q2.at_ 1 (x := .slice D2 B.h.length d2) rfl; obtain ⟨e2, ef2⟩ := q2.at_ 2 (x := .slice D3 B.w.length d3) rfl; obtain ⟨e3, ef3⟩ := q2.at_ 3 (x := .slice D4 B.f.length d4) rfl; obtain ⟨e4, ef4⟩ := q2.at_ 4 (x := .int .i64 B.n) rfl; obtain ⟨f0, ff0⟩ := r2.at_ 0 (x := .slice none 0 0) rfl; obtain ⟨f1, ff1⟩ := r2.at_ 1 (x := .slice none 0 0) rfl; obtain ⟨f2, ff2⟩ := r2.at_ 2 (x := .slice none 0 0) rfl; obtain ⟨f3, ff3⟩ := r2.at_ 3 (x := .slice none 0 0) rfl; obtain ⟨f4, ff4⟩ := r2.at_ 4 (x := .int .i64 0) rfl)
    have qF := r2.set5 (.slice D1 B.l.length d1) (.slice D2 B.h.length d2) (.slice D3 B.w.length d3) (.slice D4 B.f.length d4) (.int .i64 B.n)
    obtain ⟨zz0, -⟩ := qF.at_ 0 (x := .slice D1 B.l.length d1) rfl
    obtain ⟨zz1, -⟩ := qF.at_ 1 (x := .slice D2 B.h.length d2) rfl
    obtain ⟨zz2, -⟩ := qF.at_ 2 (x := .slice D3 B.w.length d3) rfl
    obtain ⟨zz3, -⟩ := qF.at_ 3 (x := .slice D4 B.f.length d4) rfl
    obtain ⟨zz4, -⟩ := qF.at_ 4 (x := .int .i64 B.n) rfl
    refine bodyPost_ret (v := .tuple #[.agg #[.slice D1 B.l.length d1, .slice D2 B.h.length d2, .slice D3 B.w.length d3, .slice D4 B.f.length d4, .int .i64 B.n], .bool false]) (by simp [results, Try.results54, go_sem, zz0, zz1, zz2, zz3, zz4]) rfl ?_
    have hR := (hO2.only1 (hO2.neLow (by omega)) (only_set5 _ (w.heap.size + 1) (.slice D1 B.l.length d1) (.slice D2 B.h.length d2) (.slice D3 B.w.length d3) (.slice D4 B.f.length d4) (.int .i64 B.n))).ret (w := w) (x := .bool false) (by omega) (below_set5 hB2 (Nat.le_succ _) (.slice D1 B.l.length d1) (.slice D2 B.h.length d2) (.slice D3 B.w.length d3) (.slice D4 B.f.length d4) (.int .i64 B.n))
    rw [HNO.out.1, HNO.out.2]
    exact hR
  rw [hok] at HBC
  have HOK := Lib.hid hok
  clear hok
  cases hv3 : B.l.any (· == x)
  · have HNO := Lib.hid (cutOk_no (B := B) (x := x) (by unfold cutOk; rw [hv3]; simp))
    have HV3 := Lib.hid hv3
    clear hv3
    go_wp2_with (first
    | (go_at_call 35; refine HBC.out.mono ?_; rintro e w2 ⟨rfl, hb2⟩; obtain ⟨hO1, k1, r1, q1, hB1⟩ := HS1.out; have k2 := k1.below hb2 k1.lt; have r2 := r1.below hb2 r1.lt; have q2 := q1.below hb2 q1.lt; have hO2 := hO1.below hb2; have hB2 := hB1.trans (hb2.mono hB1.size); obtain ⟨n0, nf0⟩ := k2.at_ 0 (x := .slice A1 B.l.length c1) rfl; obtain ⟨n1, nf1⟩ := k2.at_ 1 (x := .slice A2 B.h.length c2) rfl; obtain ⟨n2, nf2⟩ := k2.at_ 2 (x := .slice A3 B.w.length c3) rfl; obtain ⟨n3, nf3⟩ := k2.at_ 3 (x := .slice A4 B.f.length c4) rfl; obtain ⟨n4, nf4⟩ := k2.at_ 4 (x := .int .i64 B.n) rfl; obtain ⟨e0, ef0⟩ := q2.at_ 0 (x := .slice D1 B.l.length d1) rfl; obtain ⟨e1, ef1⟩ := q2.at_ 1 (x := .slice D2 B.h.length d2) rfl; obtain ⟨e2, ef2⟩ := q2.at_ 2 (x := .slice D3 B.w.length d3) rfl; obtain ⟨e3, ef3⟩ := q2.at_ 3 (x := .slice D4 B.f.length d4) rfl; obtain ⟨e4, ef4⟩ := q2.at_ 4 (x := .int .i64 B.n) rfl; obtain ⟨f0, ff0⟩ := r2.at_ 0 (x := .slice none 0 0) rfl; obtain ⟨f1, ff1⟩ := r2.at_ 1 (x := .slice none 0 0) rfl; obtain ⟨f2, ff2⟩ := r2.at_ 2 (x := .slice none 0 0) rfl; obtain ⟨f3, ff3⟩ := r2.at_ 3 (x := .slice none 0 0) rfl; obtain ⟨f4, ff4⟩ := r2.at_ 4 (x := .int .i64 0) rfl)
    | (go_at_call 67; refine (l01Has _ B.l x _ (HRW.out.below hB2).l).mono ?_; rintro e w' ⟨rfl, rfl⟩; rw [HV3.out]))
    have qF := r2.set5 (.slice D1 B.l.length d1) (.slice D2 B.h.length d2) (.slice D3 B.w.length d3) (.slice D4 B.f.length d4) (.int .i64 B.n)
    obtain ⟨zz0, -⟩ := qF.at_ 0 (x := .slice D1 B.l.length d1) rfl
    obtain ⟨zz1, -⟩ := qF.at_ 1 (x := .slice D2 B.h.length d2) rfl
    obtain ⟨zz2, -⟩ := qF.at_ 2 (x := .slice D3 B.w.length d3) rfl
    obtain ⟨zz3, -⟩ := qF.at_ 3 (x := .slice D4 B.f.length d4) rfl
    obtain ⟨zz4, -⟩ := qF.at_ 4 (x := .int .i64 B.n) rfl
    refine bodyPost_ret (v := .tuple #[.agg #[.slice D1 B.l.length d1, .slice D2 B.h.length d2, .slice D3 B.w.length d3, .slice D4 B.f.length d4, .int .i64 B.n], .bool false]) (by simp [results, Try.results54, go_sem, zz0, zz1, zz2, zz3, zz4]) rfl ?_
    have hR := (hO2.only1 (hO2.neLow (by omega)) (only_set5 _ (w.heap.size + 1) (.slice D1 B.l.length d1) (.slice D2 B.h.length d2) (.slice D3 B.w.length d3) (.slice D4 B.f.length d4) (.int .i64 B.n))).ret (w := w) (x := .bool false) (by omega) (below_set5 hB2 (Nat.le_succ _) (.slice D1 B.l.length d1) (.slice D2 B.h.length d2) (.slice D3 B.w.length d3) (.slice D4 B.f.length d4) (.int .i64 B.n))
    rw [HNO.out.1, HNO.out.2]
    exact hR
  have HV3 := Lib.hid hv3
  clear hv3
  have HY := Lib.hid (cutOk_yes (B := B) (x := x) (by unfold cutOk; rw [HOK.out, HV3.out]; rfl))
  go_upto_region 5 with (first
    | (go_at_call 35; refine HBC.out.mono ?_; rintro e w2 ⟨rfl, hb2⟩; obtain ⟨hO1, k1, r1, q1, hB1⟩ := HS1.out; have k2 := k1.below hb2 k1.lt; have r2 := r1.below hb2 r1.lt; have q2 := q1.below hb2 q1.lt; have hO2 := hO1.below hb2; have hB2 := hB1.trans (hb2.mono hB1.size); obtain ⟨n0, nf0⟩ := k2.at_ 0 (x := .slice A1 B.l.length c1) rfl; obtain ⟨n1, nf1⟩ := k2.at_ 1 (x := .slice A2 B.h.length c2) rfl; obtain ⟨n2, nf2⟩ := k2.at_ 2 (x := .slice A3 B.w.length c3) rfl; obtain ⟨n3, nf3⟩ := k2.at_ 3 (x := .slice A4 B.f.length c4) rfl; obtain ⟨n4, nf4⟩ := k2.at_ 4 (x := .int .i64 B.n) rfl; obtain ⟨e0, ef0⟩ := q2.at_ 0 (x := .slice D1 B.l.length d1) rfl; obtain ⟨e1, ef1⟩ := q2.at_ 1 (x := .slice D2 B.h.length d2) rfl; obtain ⟨e2, ef2⟩ := q2.at_ 2 (x := .slice D3 B.w.length d3) rfl; obtain ⟨e3, ef3⟩ := q2.at_ 3 (x := .slice D4 B.f.length d4) rfl; obtain ⟨e4, ef4⟩ := q2.at_ 4 (x := .int .i64 B.n) rfl; obtain ⟨f0, ff0⟩ := r2.at_ 0 (x := .slice none 0 0) rfl; obtain ⟨f1, ff1⟩ := r2.at_ 1 (x := .slice none 0 0) rfl; obtain ⟨f2, ff2⟩ := r2.at_ 2 (x := .slice none 0 0) rfl; obtain ⟨f3, ff3⟩ := r2.at_ 3 (x := .slice none 0 0) rfl; obtain ⟨f4, ff4⟩ := r2.at_ 4 (x := .int .i64 0) rfl)
    | (go_at_call 67; refine (l01Has _ B.l x _ (HRW.out.below hB2).l).mono ?_; rintro e w' ⟨rfl, rfl⟩; rw [HV3.out])
    | (go_at_call 92; refine (l09LessT _ B.l x _ (HRW.out.below hB2).l (by omega)).mono ?_; rintro e w3 ⟨v7, rfl, h7, hb3⟩; obtain ⟨A7, c7, rfl⟩ := owns_form' h7; have k3 := k2.below hb3 k2.lt; have r3 := r2.below hb3 r2.lt; have q3 := q2.below hb3 q2.lt; have hB3 := hB2.trans (hb3.mono hB2.size); obtain ⟨m0, mf0⟩ := q3.at_ 0 (x := .slice D1 B.l.length d1) rfl))
  have hO3 : OwnBT w3 W0.heap.size (.slice A7 (lessF B.l x).length c7) (.slice D2 B.h.length d2) (.slice D3 B.w.length d3) (.slice D4 B.f.length d4) { B with l := lessF B.l x } := hO2.setL (B' := { B with l := lessF B.l x }) (owns_mono h7 (by have := q2.lt; omega)) (fun k hk => (h7.lt k hk).1) hb3 rfl rfl rfl
  have hN3 : NeB w1.heap.size (.slice A7 (lessF B.l x).length c7) (.slice D2 B.h.length d2) (.slice D3 B.w.length d3) (.slice D4 B.f.length d4) := ⟨fun e9 => by have := h7.lt _ e9; have := q2.lt; omega, HN1.out.2⟩
  clear m0 mf0 n0 n1 n2 n3 n4 nf0 nf1 nf2 nf3 nf4 e0 e1 e2 e3 e4 ef0 ef1 ef2 ef3 ef4 f0 f1 f2 f3 f4 ff0 ff1 ff2 ff3 ff4 t0 t1 t2 t3 t4 h7 hb3 hb2 k2 r2 q2 k3 hO2 hB2
  obtain ⟨W3, hW3⟩ : ∃ W3, W3 = w3.setCell ⟨w1.heap.size, 0, none⟩ (.slice A7 (lessF B.l x).length c7) := ⟨_, rfl⟩
  have HW3 : Hid (Bk W3 w1.heap.size #[.slice A7 (lessF B.l x).length c7, .slice D2 B.h.length d2, .slice D3 B.w.length d3, .slice D4 B.f.length d4, .int .i64 B.n] 31 ∧ Bk W3 (w.heap.size + 1) #[.slice none 0 0, .slice none 0 0, .slice none 0 0, .slice none 0 0, .int .i64 0] 31 ∧ OwnBT W3 W0.heap.size (.slice A7 (lessF B.l x).length c7) (.slice D2 B.h.length d2) (.slice D3 B.w.length d3) (.slice D4 B.f.length d4) { B with l := lessF B.l x } ∧ NeB w1.heap.size (.slice A7 (lessF B.l x).length c7) (.slice D2 B.h.length d2) (.slice D3 B.w.length d3) (.slice D4 B.f.length d4) ∧ Below w.heap.size w W3 ∧ W0.heap.size ≤ W3.heap.size ∧ w1.heap.size < W3.heap.size) := Lib.hid (by
    rw [hW3]
    exact ⟨q3.set_ 0 _, r3.far (p := ⟨w1.heap.size, 0, none⟩) (by simp; omega) _, hO3.only1 hN3 (Only.setCell w3 (i := 0) _), hN3, hB3.setCell (p := ⟨w1.heap.size, 0, none⟩) (by show w.heap.size ≤ w1.heap.size; omega) _, by have h9 := q3.lt; simp only [World.setCell, Array.size_modify]; omega, by have h9 := q3.lt; simpa [World.setCell] using h9⟩)
  rw [← hW3]
  clear hW3 q3 r3 hO3 hN3 hB3
  obtain ⟨q5, r5, hO5, hN5, hB5, hsW⟩ := HW3.out
  obtain ⟨y2, yf2⟩ := q5.at_ 2 (x := .slice D3 B.w.length d3) rfl
  have hq5 : W3.ownsRow W0.heap.size 3 1 (.slice D3 B.w.length d3) B.w.length (ints B.w) := hO5.q
  go_upto_region 6 with (at_builtin; refine wpList_append_own_at _ rfl _ _ 22 rfl W0.heap.size 3 i (.int .i64 0) 1 8 Try.underlying22 hi hiz0 hiz1 hiz2 rfl (by decide) _ _ _ rfl (hq5.alloc _) ⟨W3.heap.size, 0, none⟩ 1 1 [.int .i64 x] rfl rfl (new_cells _ _ _) (by simp [Value.oneCell']) (by unfold maxLen; omega) (by omega) (by simp; omega) ?_; intro v9 w9 h9 hg9 _ hloc; obtain ⟨A9, c9, rfl⟩ := owns_form' h9; have q9 := (q5.alloc (.cells #[.int .i64 x] 3)).grownO hg9 hN5.2.2.1; obtain ⟨y3, yf3⟩ := q9.at_ 2 (x := .slice D3 B.w.length d3) rfl)
  have r9 := (r5.alloc (.cells #[.int .i64 x] 3)).grownO hg9 (hO5.neLow (by omega)).2.2.1
  have hOA := hO5.below ((Below.refl _ _).alloc (Nat.le_refl _) (.cells #[.int .i64 x] 3))
  have hO9 : OwnBT w9 W0.heap.size (.slice A7 (lessF B.l x).length c7) (.slice D2 B.h.length d2) (.slice A9 (B.w.length + 1) c9) (.slice D4 B.f.length d4) (cutBn B x) := by
    rw [HY.out.1]
    exact hOA.putQ (by simpa [ints] using h9) hg9 hloc rfl rfl rfl
  have hN9 : NeB w1.heap.size (.slice A7 (lessF B.l x).length c7) (.slice D2 B.h.length d2) (.slice A9 (B.w.length + 1) c9) (.slice D4 B.f.length d4) := ⟨hN5.1, hN5.2.1, ne_new hN5.2.2.1 hloc (by simp; omega), hN5.2.2.2⟩
  have hB9 := (hB5.alloc hB5.size (.cells #[.int .i64 x] 3)).grown hg9 (by have := hB5.size; simp; omega) (fun k hk => by have := (hO5.q.lt k hk).1; omega)
  have q4 := q9.set_ 2 (.slice A9 (B.w.length + 1) c9)
  have r4 := r9.far (p := ⟨w1.heap.size, 2, none⟩) (by simp; omega) (.slice A9 (B.w.length + 1) c9)
  have hO4 := hO9.only1 hN9 (Only.setCell w9 (i := 2) (.slice A9 (B.w.length + 1) c9))
  have hB4 := hB9.setCell (p := ⟨w1.heap.size, 2, none⟩) (by show w.heap.size ≤ w1.heap.size; omega) (.slice A9 (B.w.length + 1) c9)
  obtain ⟨W4, hW4⟩ : ∃ W4, W4 = w9.setCell ⟨w1.heap.size, 2, none⟩ (.slice A9 (B.w.length + 1) c9) := ⟨_, rfl⟩
  rw [← hW4] at q4 r4 hO4 hB4 ⊢
  have HFIN := Lib.hid (And.intro r4 (And.intro hO4 hB4))
  obtain ⟨g0, gf0⟩ := q4.at_ 0 (x := .slice A7 (lessF B.l x).length c7) rfl
  obtain ⟨g1, gf1⟩ := q4.at_ 1 (x := .slice D2 B.h.length d2) rfl
  obtain ⟨g2, gf2⟩ := q4.at_ 2 (x := .slice A9 (B.w.length + 1) c9) rfl
  obtain ⟨g3, gf3⟩ := q4.at_ 3 (x := .slice D4 B.f.length d4) rfl
  obtain ⟨g4, gf4⟩ := q4.at_ 4 (x := .int .i64 B.n) rfl
  obtain ⟨h0, hf0⟩ := r4.at_ 0 (x := .slice none 0 0) rfl
  obtain ⟨h1, hf1⟩ := r4.at_ 1 (x := .slice none 0 0) rfl
  obtain ⟨h2, hf2⟩ := r4.at_ 2 (x := .slice none 0 0) rfl
  obtain ⟨h3, hf3⟩ := r4.at_ 3 (x := .slice none 0 0) rfl
  obtain ⟨h4, hf4⟩ := r4.at_ 4 (x := .int .i64 0) rfl
  clear hW4 q4 r4 hO4 hB4 q9 r9 hOA hO9 hB9 h9 hg9 hloc y2 yf2 y3 yf3 q5 r5 hO5 hN5 hB5 hq5
  go_wp2_with fail
  obtain ⟨r4, hO4, hB4⟩ := HFIN.out
  have qF := r4.set5 (.slice A7 (lessF B.l x).length c7) (.slice D2 B.h.length d2) (.slice A9 (B.w.length + 1) c9) (.slice D4 B.f.length d4) (.int .i64 B.n)
  obtain ⟨zz0, -⟩ := qF.at_ 0 (x := .slice A7 (lessF B.l x).length c7) rfl
  obtain ⟨zz1, -⟩ := qF.at_ 1 (x := .slice D2 B.h.length d2) rfl
  obtain ⟨zz2, -⟩ := qF.at_ 2 (x := .slice A9 (B.w.length + 1) c9) rfl
  obtain ⟨zz3, -⟩ := qF.at_ 3 (x := .slice D4 B.f.length d4) rfl
  obtain ⟨zz4, -⟩ := qF.at_ 4 (x := .int .i64 B.n) rfl
  refine bodyPost_ret (v := .tuple #[.agg #[.slice A7 (lessF B.l x).length c7, .slice D2 B.h.length d2, .slice A9 (B.w.length + 1) c9, .slice D4 B.f.length d4, .int .i64 B.n], .bool true]) (by simp [results, Try.results54, go_sem, zz0, zz1, zz2, zz3, zz4]) rfl ?_
  have hR := (hO4.only1 (hO4.neLow (by omega)) (only_set5 _ (w.heap.size + 1) (.slice A7 (lessF B.l x).length c7) (.slice D2 B.h.length d2) (.slice A9 (B.w.length + 1) c9) (.slice D4 B.f.length d4) (.int .i64 B.n))).ret (w := w) (x := .bool true) (by omega) (below_set5 hB4 (Nat.le_succ _) (.slice A7 (lessF B.l x).length c7) (.slice D2 B.h.length d2) (.slice A9 (B.w.length + 1) c9) (.slice D4 B.f.length d4) (.int .i64 B.n))
  rw [show (cutBn B x).n = B.n by rw [HY.out.1]] at hR
  rw [HY.out.2]
  exact hR
set_option maxHeartbeats 3200000 in
theorem impl_CutObj (a b c d : Value) (B : Bn) (x : Int) (w : World) (r : RdBn w a b c d B) (hw : BnR B) (hsz : szBn B ≤ 16777215) :
    Calls Try.prog 44 #[.agg #[a, b, c, d, .int .i64 B.n], .int .i64 x] w (RetBnV (cutBn B x) (.bool (cutOk B x)) w) := by
  obtain ⟨A1, c1, A2, c2, A3, c3, A4, c4, ⟨rfl, rfl, rfl, rfl⟩, -, -⟩ := r.slices
  obtain ⟨i, hi, hiz0, hiz1, hiz2⟩ := info_parts infoInt
  have hll : (B.l.length ≤ 16777215 ∧ B.h.length ≤ 16777215) ∧ B.w.length ≤ 16777215 ∧ B.f.length ≤ 16777215 := by unfold szBn at hsz; omega
  obtain ⟨W0, hW0⟩ : ∃ W0, W0 = (w.alloc (.cells #[.slice A1 B.l.length c1, .slice A2 B.h.length c2, .slice A3 B.w.length c3, .slice A4 B.f.length c4, .int .i64 B.n] 31)).alloc (.cells #[.slice none 0 0, .slice none 0 0, .slice none 0 0, .slice none 0 0, .int .i64 0] 31) := ⟨_, rfl⟩
  have hB0 := ((Below.refl w.heap.size w).alloc (Nat.le_refl _) (.cells #[.slice A1 B.l.length c1, .slice A2 B.h.length c2, .slice A3 B.w.length c3, .slice A4 B.f.length c4, .int .i64 B.n] 31)).alloc (by simp) (.cells #[.slice none 0 0, .slice none 0 0, .slice none 0 0, .slice none 0 0, .int .i64 0] 31)
  have k0 := (Bk.new w #[.slice A1 B.l.length c1, .slice A2 B.h.length c2, .slice A3 B.w.length c3, .slice A4 B.f.length c4, .int .i64 B.n] 31).alloc (.cells #[.slice none 0 0, .slice none 0 0, .slice none 0 0, .slice none 0 0, .int .i64 0] 31)
  have r0 := Bk.new (w.alloc (.cells #[.slice A1 B.l.length c1, .slice A2 B.h.length c2, .slice A3 B.w.length c3, .slice A4 B.f.length c4, .int .i64 B.n] 31)) #[.slice none 0 0, .slice none 0 0, .slice none 0 0, .slice none 0 0, .int .i64 0] 31
  simp only [World.size_alloc] at r0
  have hs0 : W0.heap.size = w.heap.size + 2 := by rw [hW0]; simp
  rw [← hW0] at hB0 k0 r0
  have HBO : Hid (∀ W : World, Below w.heap.size w W → Calls Try.prog 58 #[.agg #[.slice A1 B.l.length c1, .slice A2 B.h.length c2, .slice A3 B.w.length c3, .slice A4 B.f.length c4, .int .i64 B.n]] W fun e w' => e = .returned (.bool (bnOk B)) ∧ Below W.heap.size W w') := Lib.hid (fun W hW => impl_BenchOk _ _ _ _ B W (r.below hW) hw (by omega))
  have HC := Lib.hid (copyBenchT _ _ _ _ B W0 (r.below hB0) (by omega))
  have HRW := Lib.hid r
  have HSZ := Lib.hid hsz
  have HW0 := Lib.hid hW0
  have hz0 : w.heap.size + 2 ≤ W0.heap.size := by omega
  have HB0 := Lib.hid hB0
  obtain ⟨y0, -⟩ := k0.at_ 0 (x := .slice A1 B.l.length c1) rfl
  clear hW0 hs0 hB0 r hsz
  go_enter Try.func44, Try.ntmps44
  go_wp2_with fail
  rw [← HW0.out]
  clear y0
  refine HC.out.mono ?_
  rintro e w1 ⟨u1, u2, u3, u4, rfl, hO, hb1⟩
  obtain ⟨D1, d1, rfl⟩ := owns_form' hO.l
  obtain ⟨D2, d2, rfl⟩ := owns_form' hO.h
  obtain ⟨D3, d3, rfl⟩ := owns_form' hO.q
  obtain ⟨D4, d4, rfl⟩ := owns_form' hO.f
  have hz1 := hb1.size
  have k1 := (k0.below hb1 k0.lt).alloc (.cells #[.slice D1 B.l.length d1, .slice D2 B.h.length d2, .slice D3 B.w.length d3, .slice D4 B.f.length d4, .int .i64 B.n] 31)
  have r1 := (r0.below hb1 r0.lt).alloc (.cells #[.slice D1 B.l.length d1, .slice D2 B.h.length d2, .slice D3 B.w.length d3, .slice D4 B.f.length d4, .int .i64 B.n] 31)
  have q1 := Bk.new w1 #[.slice D1 B.l.length d1, .slice D2 B.h.length d2, .slice D3 B.w.length d3, .slice D4 B.f.length d4, .int .i64 B.n] 31
  have hO1 := hO.below ((Below.refl _ _).alloc (Nat.le_refl _) (.cells #[.slice D1 B.l.length d1, .slice D2 B.h.length d2, .slice D3 B.w.length d3, .slice D4 B.f.length d4, .int .i64 B.n] 31))
  have HN1 := Lib.hid (hO.neHigh (g := w1.heap.size) (Nat.le_refl _))
  have hB1 := (HB0.out.trans (hb1.mono HB0.out.size)).alloc (by omega) (.cells #[.slice D1 B.l.length d1, .slice D2 B.h.length d2, .slice D3 B.w.length d3, .slice D4 B.f.length d4, .int .i64 B.n] 31)
  obtain ⟨W1, hW1⟩ : ∃ W1, W1 = w1.alloc (.cells #[.slice D1 B.l.length d1, .slice D2 B.h.length d2, .slice D3 B.w.length d3, .slice D4 B.f.length d4, .int .i64 B.n] 31) := ⟨_, rfl⟩
  rw [← hW1] at k1 r1 q1 hO1 hB1
  have HS1 := Lib.hid (And.intro hO1 (And.intro k1 (And.intro r1 (And.intro q1 hB1))))
  have HBC := Lib.hid (HBO.out _ hB1)
  obtain ⟨t0, -⟩ := k1.at_ 0 (x := .slice A1 B.l.length c1) rfl
  obtain ⟨t1, -⟩ := k1.at_ 1 (x := .slice A2 B.h.length c2) rfl
  obtain ⟨t2, -⟩ := k1.at_ 2 (x := .slice A3 B.w.length c3) rfl
  obtain ⟨t3, -⟩ := k1.at_ 3 (x := .slice A4 B.f.length c4) rfl
  obtain ⟨t4, -⟩ := k1.at_ 4 (x := .int .i64 B.n) rfl
  have HW1 := Lib.hid hW1
  have hgl := q1.lt
  clear k0 r0 hO hb1 hW1 k1 r1 q1 hO1 hB1
  go_upto_region 2 with (fail)
  rw [← HW1.out]
  go_upto_region 3 with (go_at_call 84; refine (indexI _ B.l x _ (HRW.out.below HS1.out.2.2.2.2).l).mono ?_; rintro e w' ⟨ri, rfl, hix, rfl⟩)
  rcases hix with ⟨rfl, hix⟩ | ⟨k, rfl, hix⟩
  · have HNO := Lib.hid (cutOk_no (B := B) (x := x) (by have h9 : B.l.any (· == x) = false := by rw [Bool.eq_false_iff]; intro h; exact hix (any_mem.1 h)
                                                        unfold cutOk; rw [h9]; simp))
    clear hix
    cases hok : bnOk B
    all_goals
      rw [hok] at HBC
      clear hok
      go_wp2_with (go_at_call 58; refine HBC.out.mono ?_; rintro e w2 ⟨rfl, hb2⟩; obtain ⟨hO1, k1, r1, q1, hB1⟩ := HS1.out; have k2 := k1.below hb2 k1.lt; have r2 := r1.below hb2 r1.lt; have q2 := q1.below hb2 q1.lt; have hO2 := hO1.below hb2; have hB2 := hB1.trans (hb2.mono hB1.size); obtain ⟨n0, nf0⟩ := k2.at_ 0 (x := .slice A1 B.l.length c1) rfl; obtain ⟨n1, nf1⟩ := k2.at_ 1 (x := .slice A2 B.h.length c2) rfl; obtain ⟨n2, nf2⟩ := k2.at_ 2 (x := .slice A3 B.w.length c3) rfl; obtain ⟨n3, nf3⟩ := k2.at_ 3 (x := .slice A4 B.f.length c4) rfl; obtain ⟨n4, nf4⟩ := k2.at_ 4 (x := .int .i64 B.n) rfl; obtain ⟨e0, ef0⟩ := q2.at_ 0 (x := .slice D1 B.l.length d1) rfl; obtain ⟨e1, ef1⟩ := q2.at_ 1 (x := .slice D2 B.h.length d2) rfl; obtain ⟨e2, ef2⟩ := q2.at_ 2 (x := .slice D3 B.w.length d3) rfl; obtain ⟨e3, ef3⟩ := q2.at_ 3 (x := .slice D4 B.f.length d4) rfl; obtain ⟨e4, ef4⟩ := q2.at_ 4 (x := .int .i64 B.n) rfl; obtain ⟨f0, ff0⟩ := r2.at_ 0 (x := .slice none 0 0) rfl; obtain ⟨f1, ff1⟩ := r2.at_ 1 (x := .slice none 0 0) rfl; obtain ⟨f2, ff2⟩ := r2.at_ 2 (x := .slice none 0 0) rfl; obtain ⟨f3, ff3⟩ := r2.at_ 3 (x := .slice none 0 0) rfl; obtain ⟨f4, ff4⟩ := r2.at_ 4 (x := .int .i64 0) rfl)
      have qF := r2.set5 (.slice D1 B.l.length d1) (.slice D2 B.h.length d2) (.slice D3 B.w.length d3) (.slice D4 B.f.length d4) (.int .i64 B.n)
      obtain ⟨zz0, -⟩ := qF.at_ 0 (x := .slice D1 B.l.length d1) rfl
      obtain ⟨zz1, -⟩ := qF.at_ 1 (x := .slice D2 B.h.length d2) rfl
      obtain ⟨zz2, -⟩ := qF.at_ 2 (x := .slice D3 B.w.length d3) rfl
      obtain ⟨zz3, -⟩ := qF.at_ 3 (x := .slice D4 B.f.length d4) rfl
      obtain ⟨zz4, -⟩ := qF.at_ 4 (x := .int .i64 B.n) rfl
      refine bodyPost_ret (v := .tuple #[.agg #[.slice D1 B.l.length d1, .slice D2 B.h.length d2, .slice D3 B.w.length d3, .slice D4 B.f.length d4, .int .i64 B.n], .bool false]) (by simp [results, Try.results44, go_sem, zz0, zz1, zz2, zz3, zz4]) rfl ?_
      have hR := (hO2.only1 (hO2.neLow (by omega)) (only_set5 _ (w.heap.size + 1) (.slice D1 B.l.length d1) (.slice D2 B.h.length d2) (.slice D3 B.w.length d3) (.slice D4 B.f.length d4) (.int .i64 B.n))).ret (w := w) (x := .bool false) (by omega) (below_set5 hB2 (Nat.le_succ _) (.slice D1 B.l.length d1) (.slice D2 B.h.length d2) (.slice D3 B.w.length d3) (.slice D4 B.f.length d4) (.int .i64 B.n))
      rw [HNO.out.1, HNO.out.2]
      exact hR
  · have hkl := (List.getElem?_eq_some_iff.1 hix).1
    cases hok : bnOk B
    · have HNO := Lib.hid (cutOk_no (B := B) (x := x) (by simp [cutOk, hok]))
      rw [hok] at HBC
      clear hok hix
      go_wp2_with (go_at_call 58; refine HBC.out.mono ?_; rintro e w2 ⟨rfl, hb2⟩; obtain ⟨hO1, k1, r1, q1, hB1⟩ := HS1.out; have k2 := k1.below hb2 k1.lt; have r2 := r1.below hb2 r1.lt; have q2 := q1.below hb2 q1.lt; have hO2 := hO1.below hb2; have hB2 := hB1.trans (hb2.mono hB1.size); obtain ⟨n0, nf0⟩ := k2.at_ 0 (x := .slice A1 B.l.length c1) rfl; obtain ⟨n1, nf1⟩ := k2.at_ 1 (x := .slice A2 B.h.length c2) rfl; obtain ⟨n2, nf2⟩ := k2.at_ 2 (x := .slice A3 B.w.length c3) rfl; obtain ⟨n3, nf3⟩ := k2.at_ 3 (x := .slice A4 B.f.length c4) rfl; obtain ⟨n4, nf4⟩ := k2.at_ 4 (x := .int .i64 B.n) rfl; obtain ⟨e0, ef0⟩ := q2.at_ 0 (x := .slice D1 B.l.length d1) rfl; obtain ⟨e1, ef1⟩ := q2.at_ 1 (x := .slice D2 B.h.length d2) rfl; obtain ⟨e2, ef2⟩ := q2.at_ 2 (x := .slice D3 B.w.length d3) rfl; obtain ⟨e3, ef3⟩ := q2.at_ 3 (x := .slice D4 B.f.length d4) rfl; obtain ⟨e4, ef4⟩ := q2.at_ 4 (x := .int .i64 B.n) rfl; obtain ⟨f0, ff0⟩ := r2.at_ 0 (x := .slice none 0 0) rfl; obtain ⟨f1, ff1⟩ := r2.at_ 1 (x := .slice none 0 0) rfl; obtain ⟨f2, ff2⟩ := r2.at_ 2 (x := .slice none 0 0) rfl; obtain ⟨f3, ff3⟩ := r2.at_ 3 (x := .slice none 0 0) rfl; obtain ⟨f4, ff4⟩ := r2.at_ 4 (x := .int .i64 0) rfl)
      have qF := r2.set5 (.slice D1 B.l.length d1) (.slice D2 B.h.length d2) (.slice D3 B.w.length d3) (.slice D4 B.f.length d4) (.int .i64 B.n)
      obtain ⟨zz0, -⟩ := qF.at_ 0 (x := .slice D1 B.l.length d1) rfl
      obtain ⟨zz1, -⟩ := qF.at_ 1 (x := .slice D2 B.h.length d2) rfl
      obtain ⟨zz2, -⟩ := qF.at_ 2 (x := .slice D3 B.w.length d3) rfl
      obtain ⟨zz3, -⟩ := qF.at_ 3 (x := .slice D4 B.f.length d4) rfl
      obtain ⟨zz4, -⟩ := qF.at_ 4 (x := .int .i64 B.n) rfl
      refine bodyPost_ret (v := .tuple #[.agg #[.slice D1 B.l.length d1, .slice D2 B.h.length d2, .slice D3 B.w.length d3, .slice D4 B.f.length d4, .int .i64 B.n], .bool false]) (by simp [results, Try.results44, go_sem, zz0, zz1, zz2, zz3, zz4]) rfl ?_
      have hR := (hO2.only1 (hO2.neLow (by omega)) (only_set5 _ (w.heap.size + 1) (.slice D1 B.l.length d1) (.slice D2 B.h.length d2) (.slice D3 B.w.length d3) (.slice D4 B.f.length d4) (.int .i64 B.n))).ret (w := w) (x := .bool false) (by omega) (below_set5 hB2 (Nat.le_succ _) (.slice D1 B.l.length d1) (.slice D2 B.h.length d2) (.slice D3 B.w.length d3) (.slice D4 B.f.length d4) (.int .i64 B.n))
      rw [HNO.out.1, HNO.out.2]
      exact hR
    rw [hok] at HBC
    have HOK := Lib.hid hok
    clear hok
    obtain ⟨gd, hgdE⟩ := owns_addr HS1.out.1.l (by omega)
    have hobD : (Value.slice D1 B.l.length d1).ownBlock = some gd := by rw [hgdE]; rfl
    have HGD := Lib.hid hgdE
    have HY := Lib.hid (cutOk_yes (B := B) (x := x) (by unfold cutOk; rw [HOK.out, any_mem.2 (List.mem_of_getElem? hix)]; rfl))
    have hles : lessF B.l x = B.l.eraseIdx k := less_erase (bnOk_iff.1 HOK.out) hix
    have hlen7 : (lessF B.l x).length = B.l.length - 1 := by rw [hles, List.length_eraseIdx_of_lt hkl]
    have hcc := owns_caps HS1.out.1.l
    have hcn := hcc.1
    have hcm := hcc.2
    have hgd := (HS1.out.1.l.lt gd hobD)
    have HOBD := Lib.hid hobD
    have HLE := Lib.hid hles
    have HLN := Lib.hid hlen7
    have HIX := Lib.hid hix
    clear hles hlen7 hix hcc hgdE hobD
    go_upto_region 6 with (first
      | (go_at_call 58; refine HBC.out.mono ?_; rintro e w2 ⟨rfl, hb2⟩; obtain ⟨hO1, k1, r1, q1, hB1⟩ := HS1.out; have k2 := k1.below hb2 k1.lt; have r2 := r1.below hb2 r1.lt; have q2 := q1.below hb2 q1.lt; have hO2 := hO1.below hb2; have hB2 := hB1.trans (hb2.mono hB1.size); obtain ⟨n0, nf0⟩ := k2.at_ 0 (x := .slice A1 B.l.length c1) rfl; obtain ⟨n1, nf1⟩ := k2.at_ 1 (x := .slice A2 B.h.length c2) rfl; obtain ⟨n2, nf2⟩ := k2.at_ 2 (x := .slice A3 B.w.length c3) rfl; obtain ⟨n3, nf3⟩ := k2.at_ 3 (x := .slice A4 B.f.length c4) rfl; obtain ⟨n4, nf4⟩ := k2.at_ 4 (x := .int .i64 B.n) rfl; obtain ⟨e0, ef0⟩ := q2.at_ 0 (x := .slice D1 B.l.length d1) rfl; obtain ⟨e1, ef1⟩ := q2.at_ 1 (x := .slice D2 B.h.length d2) rfl; obtain ⟨e2, ef2⟩ := q2.at_ 2 (x := .slice D3 B.w.length d3) rfl; obtain ⟨e3, ef3⟩ := q2.at_ 3 (x := .slice D4 B.f.length d4) rfl; obtain ⟨e4, ef4⟩ := q2.at_ 4 (x := .int .i64 B.n) rfl; obtain ⟨f0, ff0⟩ := r2.at_ 0 (x := .slice none 0 0) rfl; obtain ⟨f1, ff1⟩ := r2.at_ 1 (x := .slice none 0 0) rfl; obtain ⟨f2, ff2⟩ := r2.at_ 2 (x := .slice none 0 0) rfl; obtain ⟨f3, ff3⟩ := r2.at_ 3 (x := .slice none 0 0) rfl; obtain ⟨f4, ff4⟩ := r2.at_ 4 (x := .int .i64 0) rfl)
      | (go_at_call 85; rw [HGD.out]; refine (deleteIT gd d1 k B.l W0.heap.size _ (by have h9 := hO2.l; rw [HGD.out] at h9; exact h9) hkl hcn hcm).mono ?_; rintro e w3 ⟨rfl, h7, ho3⟩; have r3 := r2.only ho3 (by simp; omega); have q3 := q2.only ho3 (by simp; exact fun e9 => HN1.out.1 (by rw [HOBD.out, e9])); obtain ⟨m0, mf0⟩ := q3.at_ 0 (x := .slice D1 B.l.length d1) rfl))
    have HOO := hO2
    obtain ⟨A7, hA7⟩ : ∃ A7 : Option Addr, A7 = some ⟨gd, 0, none⟩ := ⟨_, rfl⟩
    obtain ⟨c7, hc7⟩ : ∃ c7, c7 = d1 := ⟨_, rfl⟩
    rw [show B.l.length - 1 = (lessF B.l x).length from HLN.out.symm, ← HLE.out, ← hA7, ← hc7] at h7
    rw [show B.l.length - 1 = (lessF B.l x).length from HLN.out.symm, ← hA7, ← hc7]
    have hob : (Value.slice A7 (lessF B.l x).length c7).ownBlock = (Value.slice D1 B.l.length d1).ownBlock := by rw [HOBD.out, hA7]; rfl
    have hO3 : OwnBT w3 W0.heap.size (.slice A7 (lessF B.l x).length c7) (.slice D2 B.h.length d2) (.slice D3 B.w.length d3) (.slice D4 B.f.length d4) { B with l := lessF B.l x } := hO2.putL (B' := { B with l := lessF B.l x }) h7 (by rw [HOBD.out]; exact Only.grownOne ho3) (.inl hob) rfl rfl rfl
    have hN3 : NeB w1.heap.size (.slice A7 (lessF B.l x).length c7) (.slice D2 B.h.length d2) (.slice D3 B.w.length d3) (.slice D4 B.f.length d4) := ⟨by rw [hob]; exact HN1.out.1, HN1.out.2⟩
    have hB3 := hB2.trans (ho3.below (B := w.heap.size) hB2.size (by simp; omega))
    clear m0 mf0 n0 n1 n2 n3 n4 nf0 nf1 nf2 nf3 nf4 e0 e1 e2 e3 e4 ef0 ef1 ef2 ef3 ef4 f0 f1 f2 f3 f4 ff0 ff1 ff2 ff3 ff4 t0 t1 t2 t3 t4 h7 ho3 hb2 k2 r2 q2 hO2 hB2 hob HOO hA7 hc7
    obtain ⟨W3, hW3⟩ : ∃ W3, W3 = w3.setCell ⟨w1.heap.size, 0, none⟩ (.slice A7 (lessF B.l x).length c7) := ⟨_, rfl⟩
    have HW3 : Hid (Bk W3 w1.heap.size #[.slice A7 (lessF B.l x).length c7, .slice D2 B.h.length d2, .slice D3 B.w.length d3, .slice D4 B.f.length d4, .int .i64 B.n] 31 ∧ Bk W3 (w.heap.size + 1) #[.slice none 0 0, .slice none 0 0, .slice none 0 0, .slice none 0 0, .int .i64 0] 31 ∧ OwnBT W3 W0.heap.size (.slice A7 (lessF B.l x).length c7) (.slice D2 B.h.length d2) (.slice D3 B.w.length d3) (.slice D4 B.f.length d4) { B with l := lessF B.l x } ∧ NeB w1.heap.size (.slice A7 (lessF B.l x).length c7) (.slice D2 B.h.length d2) (.slice D3 B.w.length d3) (.slice D4 B.f.length d4) ∧ Below w.heap.size w W3 ∧ W0.heap.size ≤ W3.heap.size ∧ w1.heap.size < W3.heap.size) := Lib.hid (by
      rw [hW3]
      exact ⟨q3.set_ 0 _, r3.far (p := ⟨w1.heap.size, 0, none⟩) (by simp; omega) _, hO3.only1 hN3 (Only.setCell w3 (i := 0) _), hN3, hB3.setCell (p := ⟨w1.heap.size, 0, none⟩) (by show w.heap.size ≤ w1.heap.size; omega) _, by have h9 := q3.lt; simp only [World.setCell, Array.size_modify]; omega, by have h9 := q3.lt; simpa [World.setCell] using h9⟩)
    rw [← hW3]
    clear hW3 q3 r3 hO3 hN3 hB3
    obtain ⟨q5, r5, hO5, hN5, hB5, hsW⟩ := HW3.out
    obtain ⟨y2, yf2⟩ := q5.at_ 2 (x := .slice D3 B.w.length d3) rfl
    have hq5 : W3.ownsRow W0.heap.size 3 1 (.slice D3 B.w.length d3) B.w.length (ints B.w) := hO5.q
    go_upto_region 7 with (at_builtin; refine wpList_append_own_at _ rfl _ _ 22 rfl W0.heap.size 3 i (.int .i64 0) 1 8 Try.underlying22 hi hiz0 hiz1 hiz2 rfl (by decide) _ _ _ rfl (hq5.alloc _) ⟨W3.heap.size, 0, none⟩ 1 1 [.int .i64 x] rfl rfl (new_cells _ _ _) (by simp [Value.oneCell']) (by unfold maxLen; omega) (by omega) (by simp; omega) ?_; intro v9 w9 h9 hg9 _ hloc; obtain ⟨A9, c9, rfl⟩ := owns_form' h9; have q9 := (q5.alloc (.cells #[.int .i64 x] 3)).grownO hg9 hN5.2.2.1; obtain ⟨y3, yf3⟩ := q9.at_ 2 (x := .slice D3 B.w.length d3) rfl)
    have r9 := (r5.alloc (.cells #[.int .i64 x] 3)).grownO hg9 (hO5.neLow (by omega)).2.2.1
    have hOA := hO5.below ((Below.refl _ _).alloc (Nat.le_refl _) (.cells #[.int .i64 x] 3))
    have hO9 : OwnBT w9 W0.heap.size (.slice A7 (lessF B.l x).length c7) (.slice D2 B.h.length d2) (.slice A9 (B.w.length + 1) c9) (.slice D4 B.f.length d4) (cutBn B x) := by
      rw [HY.out.1]
      exact hOA.putQ (by simpa [ints] using h9) hg9 hloc rfl rfl rfl
    have hN9 : NeB w1.heap.size (.slice A7 (lessF B.l x).length c7) (.slice D2 B.h.length d2) (.slice A9 (B.w.length + 1) c9) (.slice D4 B.f.length d4) := ⟨hN5.1, hN5.2.1, ne_new hN5.2.2.1 hloc (by simp; omega), hN5.2.2.2⟩
    have hB9 := (hB5.alloc hB5.size (.cells #[.int .i64 x] 3)).grown hg9 (by have := hB5.size; simp; omega) (fun k hk => by have := (hO5.q.lt k hk).1; omega)
    have q4 := q9.set_ 2 (.slice A9 (B.w.length + 1) c9)
    have r4 := r9.far (p := ⟨w1.heap.size, 2, none⟩) (by simp; omega) (.slice A9 (B.w.length + 1) c9)
    have hO4 := hO9.only1 hN9 (Only.setCell w9 (i := 2) (.slice A9 (B.w.length + 1) c9))
    have hB4 := hB9.setCell (p := ⟨w1.heap.size, 2, none⟩) (by show w.heap.size ≤ w1.heap.size; omega) (.slice A9 (B.w.length + 1) c9)
    obtain ⟨W4, hW4⟩ : ∃ W4, W4 = w9.setCell ⟨w1.heap.size, 2, none⟩ (.slice A9 (B.w.length + 1) c9) := ⟨_, rfl⟩
    rw [← hW4] at q4 r4 hO4 hB4 ⊢
    have HFIN := Lib.hid (And.intro r4 (And.intro hO4 hB4))
    obtain ⟨g0, gf0⟩ := q4.at_ 0 (x := .slice A7 (lessF B.l x).length c7) rfl
    obtain ⟨g1, gf1⟩ := q4.at_ 1 (x := .slice D2 B.h.length d2) rfl
    obtain ⟨g2, gf2⟩ := q4.at_ 2 (x := .slice A9 (B.w.length + 1) c9) rfl
    obtain ⟨g3, gf3⟩ := q4.at_ 3 (x := .slice D4 B.f.length d4) rfl
    obtain ⟨g4, gf4⟩ := q4.at_ 4 (x := .int .i64 B.n) rfl
    obtain ⟨h0, hf0⟩ := r4.at_ 0 (x := .slice none 0 0) rfl
    obtain ⟨h1, hf1⟩ := r4.at_ 1 (x := .slice none 0 0) rfl
    obtain ⟨h2, hf2⟩ := r4.at_ 2 (x := .slice none 0 0) rfl
    obtain ⟨h3, hf3⟩ := r4.at_ 3 (x := .slice none 0 0) rfl
    obtain ⟨h4, hf4⟩ := r4.at_ 4 (x := .int .i64 0) rfl
    clear hW4 q4 r4 hO4 hB4 q9 r9 hOA hO9 hB9 h9 hg9 hloc y2 yf2 y3 yf3 q5 r5 hO5 hN5 hB5 hq5
    go_wp2_with fail
    obtain ⟨r4, hO4, hB4⟩ := HFIN.out
    have qF := r4.set5 (.slice A7 (lessF B.l x).length c7) (.slice D2 B.h.length d2) (.slice A9 (B.w.length + 1) c9) (.slice D4 B.f.length d4) (.int .i64 B.n)
    obtain ⟨zz0, -⟩ := qF.at_ 0 (x := .slice A7 (lessF B.l x).length c7) rfl
    obtain ⟨zz1, -⟩ := qF.at_ 1 (x := .slice D2 B.h.length d2) rfl
    obtain ⟨zz2, -⟩ := qF.at_ 2 (x := .slice A9 (B.w.length + 1) c9) rfl
    obtain ⟨zz3, -⟩ := qF.at_ 3 (x := .slice D4 B.f.length d4) rfl
    obtain ⟨zz4, -⟩ := qF.at_ 4 (x := .int .i64 B.n) rfl
    refine bodyPost_ret (v := .tuple #[.agg #[.slice A7 (lessF B.l x).length c7, .slice D2 B.h.length d2, .slice A9 (B.w.length + 1) c9, .slice D4 B.f.length d4, .int .i64 B.n], .bool true]) (by simp [results, Try.results44, go_sem, zz0, zz1, zz2, zz3, zz4]) rfl ?_
    have hR := (hO4.only1 (hO4.neLow (by omega)) (only_set5 _ (w.heap.size + 1) (.slice A7 (lessF B.l x).length c7) (.slice D2 B.h.length d2) (.slice A9 (B.w.length + 1) c9) (.slice D4 B.f.length d4) (.int .i64 B.n))).ret (w := w) (x := .bool true) (by omega) (below_set5 hB4 (Nat.le_succ _) (.slice A7 (lessF B.l x).length c7) (.slice D2 B.h.length d2) (.slice A9 (B.w.length + 1) c9) (.slice D4 B.f.length d4) (.int .i64 B.n))
    rw [show (cutBn B x).n = B.n by rw [HY.out.1]] at hR
    rw [HY.out.2]
    exact hR
end Go.Proofs.Ytiamkgkhamnaeaa
