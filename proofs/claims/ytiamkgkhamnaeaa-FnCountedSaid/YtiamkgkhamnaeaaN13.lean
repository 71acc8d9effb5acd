/- Contracts of MakeObj (packages spec and impl). Conditions: the bench's rows can be read (impl: and hold numbers of 64 bits); lengths that a law bounds. -/
import Derived.Test.YtiamkgkhamnaeaaN12
import Derived.Test.YtiamkgkhamnaeaaN6
import Derived.Test.YtiamkgkhamnaeaaHeads
import Derived.Maps.AppendAt
namespace Go.Proofs.Ytiamkgkhamnaeaa
set_option maxRecDepth 20000
set_option linter.unusedSimpArgs false
set_option linter.unusedVariables false
open Go.ChangeShapes Go.WideShapes Go.ChangeAt Go.RowKit
set_option linter.unusedVariables false
/-- block g is none of the four rows' -/
def NeB (g : Nat) (a b c d : Value) : Prop := a.ownBlock ≠ some g ∧ b.ownBlock ≠ some g ∧ c.ownBlock ≠ some g ∧ d.ownBlock ≠ some g
section
variable {w w' : World} {lo g : Nat} {a b c d v : Value} {B B' : Bn}
theorem OwnBT.only1 (h : OwnBT w lo a b c d B) (hn : NeB g a b c d) (ho : Only [g] w w') : OwnBT w' lo a b c d B :=
  ⟨owns_ne h.l hn.1 ho, owns_ne h.h hn.2.1 ho, owns_ne h.q hn.2.2.1 ho, owns_ne h.f hn.2.2.2 ho, h.ab, h.ac, h.ad, h.bc, h.bd, h.cd⟩
theorem OwnBT.neLow (h : OwnBT w lo a b c d B) (hg : g < lo) : NeB g a b c d :=
  ⟨fun e => by have := h.l.lt _ e; omega, fun e => by have := h.h.lt _ e; omega, fun e => by have := h.q.lt _ e; omega, fun e => by have := h.f.lt _ e; omega⟩
theorem OwnBT.neHigh (h : OwnBT w lo a b c d B) (hg : w.heap.size ≤ g) : NeB g a b c d :=
  ⟨fun e => by have := h.l.lt _ e; omega, fun e => by have := h.h.lt _ e; omega, fun e => by have := h.q.lt _ e; omega, fun e => by have := h.f.lt _ e; omega⟩
theorem kept_ap {base : Nat} {e : TypeId} {size n : Nat} {u v : Value} {L : List Value} (h : w.ownsRow base e size v n L) (hap : Ap u v) (hg : w.grownBy w' u.ownBlock) : w'.ownsRow base e size v n L := by
  refine h.kept hg ?_
  cases hv : v.ownBlock with
  | none => exact .inl rfl
  | some k => exact .inr (fun e => hap k e.symm hv)
theorem ap_new {u v x : Value} {base : Nat} {e : TypeId} {size n : Nat} {L : List Value} (h : w.ownsRow base e size x n L) (hap : Ap u x) (hloc : v.ownBlock = u.ownBlock ∨ v.ownBlock = some w.heap.size) : Ap v x := fun k hk e => by
  rcases hloc with h1 | h1
  · exact hap k (h1 ▸ hk) e
  · rw [h1] at hk
    injection hk with hk
    have := h.lt k e
    omega
theorem OwnBT.putL (h : OwnBT w lo a b c d B) (h9 : w'.ownsRow lo 3 1 v B'.l.length (ints B'.l)) (hg : w.grownBy w' a.ownBlock) (hloc : v.ownBlock = a.ownBlock ∨ v.ownBlock = some w.heap.size) (e1 : B'.h = B.h) (e2 : B'.w = B.w) (e3 : B'.f = B.f) :
    OwnBT w' lo v b c d B' :=
  ⟨h9, by rw [e1]; exact kept_ap h.h h.ab hg, by rw [e2]; exact kept_ap h.q h.ac hg, by rw [e3]; exact kept_ap h.f h.ad hg, ap_new h.h h.ab hloc, ap_new h.q h.ac hloc, ap_new h.f h.ad hloc, h.bc, h.bd, h.cd⟩
theorem ne_new {u : Value} (hn : u.ownBlock ≠ some g) (hloc : v.ownBlock = u.ownBlock ∨ v.ownBlock = some w.heap.size) (hg : g < w.heap.size) : v.ownBlock ≠ some g := fun e => by
  rcases hloc with h1 | h1
  · exact hn (h1 ▸ e)
  · rw [h1] at e
    injection e with e
    omega
theorem Bk.grownO {cs : Array Value} {t : TypeId} {u : Value} (h : Bk w g cs t) (hg : w.grownBy w' u.ownBlock) (hn : u.ownBlock ≠ some g) : Bk w' g cs t := h.grown hg fun k hk e => hn (e ▸ hk)
end
theorem OwnBT.ret {w' w : World} {lo : Nat} {a b c d x : Value} {B : Bn} (h : OwnBT w' lo a b c d B) (hlo : w.heap.size ≤ lo) (hb : Below w.heap.size w w') : RetBnV B x w (.returned (.tuple #[.agg #[a, b, c, d, .int .i64 B.n], x])) w' := by
  obtain ⟨bs, h1, h2⟩ := h.own
  exact ⟨a, b, c, d, bs, rfl, h1, fun y hy => Nat.le_trans hlo (h2 y hy), hb⟩
theorem makeOk_no {B : Bn} (h : makeOk B = false) : makeBn B = B ∧ makeR B = -1 := by simp [makeBn, makeR, h]
theorem makeOk_yes {B : Bn} (h : makeOk B = true) : makeBn B = { B with l := B.l ++ [B.n], n := B.n + 1 } ∧ makeR B = B.n := by simp [makeBn, makeR, h]
set_option maxHeartbeats 3200000 in
theorem spec_MakeObj (a b c d : Value) (B : Bn) (w : World) (r : RdBn w a b c d B) (hw : True) (hsz : szBn B ≤ 16777215) :
    Calls Try.prog 50 #[.agg #[a, b, c, d, .int .i64 B.n]] w (RetBnV (makeBn B) (.int .i64 (makeR B)) w) := by
  obtain ⟨A1, c1, A2, c2, A3, c3, A4, c4, ⟨rfl, rfl, rfl, rfl⟩, -, -⟩ := r.slices
  obtain ⟨i, hi, hiz0, hiz1, hiz2⟩ := info_parts infoInt
  have hll : B.l.length ≤ 16777215 := by unfold szBn at hsz; omega
  obtain ⟨W0, hW0⟩ : ∃ W0, W0 = (w.alloc (.cells #[.slice A1 B.l.length c1, .slice A2 B.h.length c2, .slice A3 B.w.length c3, .slice A4 B.f.length c4, .int .i64 B.n] 31)).alloc (.cells #[.slice none 0 0, .slice none 0 0, .slice none 0 0, .slice none 0 0, .int .i64 0] 31) := ⟨_, rfl⟩
  have hB0 := ((Below.refl w.heap.size w).alloc (Nat.le_refl _) (.cells #[.slice A1 B.l.length c1, .slice A2 B.h.length c2, .slice A3 B.w.length c3, .slice A4 B.f.length c4, .int .i64 B.n] 31)).alloc (by simp) (.cells #[.slice none 0 0, .slice none 0 0, .slice none 0 0, .slice none 0 0, .int .i64 0] 31)
  have k0 := (Bk.new w #[.slice A1 B.l.length c1, .slice A2 B.h.length c2, .slice A3 B.w.length c3, .slice A4 B.f.length c4, .int .i64 B.n] 31).alloc (.cells #[.slice none 0 0, .slice none 0 0, .slice none 0 0, .slice none 0 0, .int .i64 0] 31)
  have r0 := Bk.new (w.alloc (.cells #[.slice A1 B.l.length c1, .slice A2 B.h.length c2, .slice A3 B.w.length c3, .slice A4 B.f.length c4, .int .i64 B.n] 31)) #[.slice none 0 0, .slice none 0 0, .slice none 0 0, .slice none 0 0, .int .i64 0] 31
  simp only [World.size_alloc] at r0
  have hs0 : W0.heap.size = w.heap.size + 2 := by rw [hW0]; simp
  rw [← hW0] at hB0 k0 r0
  have HBO : Hid (∀ W : World, Below w.heap.size w W → Calls Try.prog 35 #[.agg #[.slice A1 B.l.length c1, .slice A2 B.h.length c2, .slice A3 B.w.length c3, .slice A4 B.f.length c4, .int .i64 B.n]] W fun e w' => e = .returned (.bool (bnOk B)) ∧ Below W.heap.size W w') := Lib.hid (fun W hW => spec_BenchOk _ _ _ _ B W (r.below hW) (by omega))
  have HC := Lib.hid (l09CopyT _ _ _ _ B W0 (r.below hB0) (by omega))
  have HW0 := Lib.hid hW0
  have hz0 : w.heap.size + 2 ≤ W0.heap.size := by omega
  have HB0 := Lib.hid hB0
  obtain ⟨y0, -⟩ := k0.at_ 0 (x := .slice A1 B.l.length c1) rfl
  clear hW0 hs0 hB0 r hsz
  go_enter Try.func50, Try.ntmps50
  go_wp2_with fail
  rw [← HW0.out]
  clear y0
  refine HC.out.mono ?_
  rintro e w1 ⟨u1, u2, u3, u4, rfl, hO, hb1⟩
  obtain ⟨D1, d1, rfl⟩ := owns_form' hO.l
  obtain ⟨D2, d2, rfl⟩ := owns_form' hO.h
  obtain ⟨D3, d3, rfl⟩ := owns_form' hO.q
  obtain ⟨D4, d4, rfl⟩ := owns_form' hO.f
  have hz1 := hb1.size
  have k1 := (k0.below hb1 k0.lt).alloc (.cells #[.slice D1 B.l.length d1, .slice D2 B.h.length d2, .slice D3 B.w.length d3, .slice D4 B.f.length d4, .int .i64 B.n] 31)
  have r1 := (r0.below hb1 r0.lt).alloc (.cells #[.slice D1 B.l.length d1, .slice D2 B.h.length d2, .slice D3 B.w.length d3, .slice D4 B.f.length d4, .int .i64 B.n] 31)
  have q1 := Bk.new w1 #[.slice D1 B.l.length d1, .slice D2 B.h.length d2, .slice D3 B.w.length d3, .slice D4 B.f.length d4, .int .i64 B.n] 31
  have hO1 := hO.below ((Below.refl _ _).alloc (Nat.le_refl _) (.cells #[.slice D1 B.l.length d1, .slice D2 B.h.length d2, .slice D3 B.w.length d3, .slice D4 B.f.length d4, .int .i64 B.n] 31))
  have HN1 := Lib.hid (hO.neHigh (g := w1.heap.size) (Nat.le_refl _))
  have hB1 := (HB0.out.trans (hb1.mono HB0.out.size)).alloc (by omega) (.cells #[.slice D1 B.l.length d1, .slice D2 B.h.length d2, .slice D3 B.w.length d3, .slice D4 B.f.length d4, .int .i64 B.n] 31)
  have HBC := Lib.hid (HBO.out _ hB1)
  have HS1 := Lib.hid (And.intro hO1 (And.intro k1 (And.intro r1 (And.intro q1 hB1))))
  obtain ⟨t0, -⟩ := k1.at_ 0 (x := .slice A1 B.l.length c1) rfl
  obtain ⟨t1, -⟩ := k1.at_ 1 (x := .slice A2 B.h.length c2) rfl
  obtain ⟨t2, -⟩ := k1.at_ 2 (x := .slice A3 B.w.length c3) rfl
  obtain ⟨t3, -⟩ := k1.at_ 3 (x := .slice A4 B.f.length c4) rfl
  obtain ⟨t4, -⟩ := k1.at_ 4 (x := .int .i64 B.n) rfl
  obtain ⟨W1, hW1⟩ : ∃ W1, W1 = w1.alloc (.cells #[.slice D1 B.l.length d1, .slice D2 B.h.length d2, .slice D3 B.w.length d3, .slice D4 B.f.length d4, .int .i64 B.n] 31) := ⟨_, rfl⟩
  rw [← hW1] at HBC HS1 t0 t1 t2 t3 t4
  have HW1 := Lib.hid hW1
  clear k0 r0 k1 r1 q1 hO hO1 hB1 hb1 hW1
  go_upto_region 2 with (fail)
  rw [← HW1.out]
  cases hok : bnOk B
  · have HNO := Lib.hid (makeOk_no (B := B) (by simp [makeOk, hok]))
    rw [hok] at HBC
    clear hok
    go_wp2_with (go_at_call 35; refine HBC.out.mono ?_; rintro e w2 ⟨rfl, hb2⟩; obtain ⟨hO1, k1, r1, q1, hB1⟩ := HS1.out; have k2 := k1.below hb2 k1.lt; have r2 := r1.below hb2 r1.lt; have q2 := q1.below hb2 q1.lt; have hO2 := hO1.below hb2; have hB2 := hB1.trans (hb2.mono hB1.size); obtain ⟨n4, -⟩ := k2.at_ 4 (x := .int .i64 B.n) rfl; obtain ⟨e0, ef0⟩ := q2.at_ 0 (x := (.slice D1 B.l.length d1)) rfl; obtain ⟨e1, ef1⟩ := q2.at_ 1 (x := (.slice D2 B.h.length d2)) rfl; obtain ⟨e2, ef2⟩ := q2.at_ 2 (x := (.slice D3 B.w.length d3)) rfl; obtain ⟨e3, ef3⟩ := q2.at_ 3 (x := (.slice D4 B.f.length d4)) rfl; obtain ⟨e4, ef4⟩ := q2.at_ 4 (x := (.int .i64 B.n)) rfl; obtain ⟨f0, ff0⟩ := r2.at_ 0 (x := (.slice none 0 0)) rfl; obtain ⟨f1, ff1⟩ := r2.at_ 1 (x := (.slice none 0 0)) rfl; obtain ⟨f2, ff2⟩ := r2.at_ 2 (x := (.slice none 0 0)) rfl; obtain ⟨f3, ff3⟩ := r2.at_ 3 (x := (.slice none 0 0)) rfl; obtain ⟨f4, ff4⟩ := r2.at_ 4 (x := (.int .i64 0)) rfl; clear hO1 k1 r1 q1 hB1 hb2)
    have qF := r2.set5 (.slice D1 B.l.length d1) (.slice D2 B.h.length d2) (.slice D3 B.w.length d3) (.slice D4 B.f.length d4) (.int .i64 B.n)
    obtain ⟨zz0, -⟩ := qF.at_ 0 (x := (.slice D1 B.l.length d1)) rfl
    obtain ⟨zz1, -⟩ := qF.at_ 1 (x := (.slice D2 B.h.length d2)) rfl
    obtain ⟨zz2, -⟩ := qF.at_ 2 (x := (.slice D3 B.w.length d3)) rfl
    obtain ⟨zz3, -⟩ := qF.at_ 3 (x := (.slice D4 B.f.length d4)) rfl
    obtain ⟨zz4, -⟩ := qF.at_ 4 (x := (.int .i64 B.n)) rfl
    refine bodyPost_ret (v := .tuple #[.agg #[.slice D1 B.l.length d1, .slice D2 B.h.length d2, .slice D3 B.w.length d3, .slice D4 B.f.length d4, .int .i64 B.n], .int .i64 (-1)]) (by simp [results, Try.results50, go_sem, zz0, zz1, zz2, zz3, zz4]) rfl ?_
    rw [HNO.out.1, HNO.out.2]
    exact (hO2.only1 (hO2.neLow (by omega)) (only_set5 _ _ _ _ _ _ _)).ret (by omega) (below_set5 hB2 (Nat.le_succ _) _ _ _ _ _)
  rw [hok] at HBC
  have HOK := Lib.hid hok
  have hbn := (bnOk_iff.1 hok).1
  clear hok
  by_cases hn : B.n ≤ 60
  case neg =>
    have HNO := Lib.hid (makeOk_no (B := B) (by simp [makeOk, hn]))
    have hq : (B.n == 61) = true := by simp; omega
    have hq2 : decide (60 < B.n) = true := by simp; omega
    go_wp2_with (go_at_call 35; refine HBC.out.mono ?_; rintro e w2 ⟨rfl, hb2⟩; obtain ⟨hO1, k1, r1, q1, hB1⟩ := HS1.out; have k2 := k1.below hb2 k1.lt; have r2 := r1.below hb2 r1.lt; have q2 := q1.below hb2 q1.lt; have hO2 := hO1.below hb2; have hB2 := hB1.trans (hb2.mono hB1.size); obtain ⟨n4, -⟩ := k2.at_ 4 (x := .int .i64 B.n) rfl; obtain ⟨e0, ef0⟩ := q2.at_ 0 (x := (.slice D1 B.l.length d1)) rfl; obtain ⟨e1, ef1⟩ := q2.at_ 1 (x := (.slice D2 B.h.length d2)) rfl; obtain ⟨e2, ef2⟩ := q2.at_ 2 (x := (.slice D3 B.w.length d3)) rfl; obtain ⟨e3, ef3⟩ := q2.at_ 3 (x := (.slice D4 B.f.length d4)) rfl; obtain ⟨e4, ef4⟩ := q2.at_ 4 (x := (.int .i64 B.n)) rfl; obtain ⟨f0, ff0⟩ := r2.at_ 0 (x := (.slice none 0 0)) rfl; obtain ⟨f1, ff1⟩ := r2.at_ 1 (x := (.slice none 0 0)) rfl; obtain ⟨f2, ff2⟩ := r2.at_ 2 (x := (.slice none 0 0)) rfl; obtain ⟨f3, ff3⟩ := r2.at_ 3 (x := (.slice none 0 0)) rfl; obtain ⟨f4, ff4⟩ := r2.at_ 4 (x := (.int .i64 0)) rfl; clear hO1 k1 r1 q1 hB1 hb2)
    have qF := r2.set5 (.slice D1 B.l.length d1) (.slice D2 B.h.length d2) (.slice D3 B.w.length d3) (.slice D4 B.f.length d4) (.int .i64 B.n)
    obtain ⟨zz0, -⟩ := qF.at_ 0 (x := (.slice D1 B.l.length d1)) rfl
    obtain ⟨zz1, -⟩ := qF.at_ 1 (x := (.slice D2 B.h.length d2)) rfl
    obtain ⟨zz2, -⟩ := qF.at_ 2 (x := (.slice D3 B.w.length d3)) rfl
    obtain ⟨zz3, -⟩ := qF.at_ 3 (x := (.slice D4 B.f.length d4)) rfl
    obtain ⟨zz4, -⟩ := qF.at_ 4 (x := (.int .i64 B.n)) rfl
    refine bodyPost_ret (v := .tuple #[.agg #[.slice D1 B.l.length d1, .slice D2 B.h.length d2, .slice D3 B.w.length d3, .slice D4 B.f.length d4, .int .i64 B.n], .int .i64 (-1)]) (by simp [results, Try.results50, go_sem, zz0, zz1, zz2, zz3, zz4]) rfl ?_
    rw [HNO.out.1, HNO.out.2]
    exact (hO2.only1 (hO2.neLow (by omega)) (only_set5 _ _ _ _ _ _ _)).ret (by omega) (below_set5 hB2 (Nat.le_succ _) _ _ _ _ _)
  have hq : (B.n == 61) = false := by simp; omega
  have hq2 : decide (60 < B.n) = false := by simp; omega
  have HY := Lib.hid (makeOk_yes (B := B) (by simp [makeOk, HOK.out, hn]))
  go_upto_region 5 with (first
    | (go_at_call 35; refine HBC.out.mono ?_; rintro e w2 ⟨rfl, hb2⟩; obtain ⟨hO1, k1, r1, q1, hB1⟩ := HS1.out; have k2 := k1.below hb2 k1.lt; have r2 := r1.below hb2 r1.lt; have q2 := q1.below hb2 q1.lt; have hO2 := hO1.below hb2; have hB2 := hB1.trans (hb2.mono hB1.size); obtain ⟨n4, -⟩ := k2.at_ 4 (x := .int .i64 B.n) rfl; obtain ⟨e0, ef0⟩ := q2.at_ 0 (x := (.slice D1 B.l.length d1)) rfl; obtain ⟨e1, ef1⟩ := q2.at_ 1 (x := (.slice D2 B.h.length d2)) rfl; obtain ⟨e2, ef2⟩ := q2.at_ 2 (x := (.slice D3 B.w.length d3)) rfl; obtain ⟨e3, ef3⟩ := q2.at_ 3 (x := (.slice D4 B.f.length d4)) rfl; obtain ⟨e4, ef4⟩ := q2.at_ 4 (x := (.int .i64 B.n)) rfl; have hO2l : Hid (W0.heap.size ≤ w1.heap.size ∧ w1.heap.size < w2.heap.size) := Lib.hid ⟨hz1, q2.lt⟩; clear hO1 k1 r1 q1 hB1)
    | (at_builtin; refine wpList_append_own_at _ rfl _ _ 22 rfl W0.heap.size 3 i (.int .i64 0) 1 8 Try.underlying22 hi hiz0 hiz1 hiz2 rfl (by decide) _ _ _ rfl (hO2.l.alloc _) ⟨w2.heap.size, 0, none⟩ 1 1 [.int .i64 B.n] rfl rfl (new_cells _ _ _) (by simp [Value.oneCell']) (by unfold maxLen; omega) (by omega) (by have := hb2.size; have := hO2l.out; simp; omega) ?_; intro v9 w9 h9 hg9 _ hloc; obtain ⟨A9, c9, rfl⟩ := owns_form' h9; have q9 := (q2.alloc (.cells #[.int .i64 B.n] 3)).grownO hg9 HN1.out.1; obtain ⟨e5, ef5⟩ := q9.at_ 0 (x := (.slice D1 B.l.length d1)) rfl))
  obtain ⟨hz1', hgl⟩ := hO2l.out
  have k9 := (k2.alloc (.cells #[.int .i64 B.n] 3)).grownO hg9 (hO2.neLow (by omega)).1
  have r9 := (r2.alloc (.cells #[.int .i64 B.n] 3)).grownO hg9 (hO2.neLow (by omega)).1
  have hOA := hO2.below ((Below.refl _ _).alloc (Nat.le_refl _) (.cells #[.int .i64 B.n] 3))
  have hO9 : OwnBT w9 W0.heap.size (.slice A9 (B.l.length + 1) c9) (.slice D2 B.h.length d2) (.slice D3 B.w.length d3) (.slice D4 B.f.length d4) (makeBn B) := by
    rw [HY.out.1]
    exact hOA.putL (by simpa [ints] using h9) hg9 hloc rfl rfl rfl
  have hN9 : NeB w1.heap.size (.slice A9 (B.l.length + 1) c9) (.slice D2 B.h.length d2) (.slice D3 B.w.length d3) (.slice D4 B.f.length d4) := ⟨ne_new HN1.out.1 hloc (by simp; omega), HN1.out.2⟩
  have hB9 := (hB2.alloc hB2.size (.cells #[.int .i64 B.n] 3)).grown hg9 (by have := hB2.size; simp; omega) (fun k hk => by have := (hO2.l.lt k hk).1; omega)
  have q10 := q9.set_ 0 (.slice A9 (B.l.length + 1) c9)
  have k10 := k9.far (p := ⟨w1.heap.size, 0, none⟩) (by simp; omega) (.slice A9 (B.l.length + 1) c9)
  have r10 := r9.far (p := ⟨w1.heap.size, 0, none⟩) (by simp; omega) (.slice A9 (B.l.length + 1) c9)
  have hO10 := hO9.only1 hN9 (Only.setCell w9 (i := 0) (.slice A9 (B.l.length + 1) c9))
  have hB10 := hB9.setCell (p := ⟨w1.heap.size, 0, none⟩) (by show w.heap.size ≤ w1.heap.size; omega) (.slice A9 (B.l.length + 1) c9)
  obtain ⟨W4, hW4⟩ : ∃ W4, W4 = w9.setCell ⟨w1.heap.size, 0, none⟩ (.slice A9 (B.l.length + 1) c9) := ⟨_, rfl⟩
  rw [← hW4] at q10 k10 r10 hO10 hB10 ⊢
  have q11 := q10.set_ 4 (.int .i64 (B.n + 1))
  have k11 := k10.far (p := ⟨w1.heap.size, 4, none⟩) (by simp; omega) (.int .i64 (B.n + 1))
  have r11 := r10.far (p := ⟨w1.heap.size, 4, none⟩) (by simp; omega) (.int .i64 (B.n + 1))
  have hO11 := hO10.only1 hN9 (Only.setCell W4 (i := 4) (.int .i64 (B.n + 1)))
  have hB11 := hB10.setCell (p := ⟨w1.heap.size, 4, none⟩) (by show w.heap.size ≤ w1.heap.size; omega) (.int .i64 (B.n + 1))
  obtain ⟨n5, -⟩ := k10.at_ 4 (x := .int .i64 B.n) rfl
  obtain ⟨n6, nf6⟩ := q10.at_ 4 (x := .int .i64 B.n) rfl
  have HFIN := Lib.hid (And.intro q11 (And.intro k11 (And.intro r11 (And.intro hO11 hB11))))
  clear hW4 q10 k10 r10 hO10 hB10 q11 k11 r11 hO11 hB11 q9 k9 r9 hOA hO9 hB9 h9 hg9 hloc hO2 k2 r2 q2 hB2 n4 e0 e1 e2 e3 e4 e5 ef0 ef1 ef2 ef3 ef4 ef5 t0 t1 t2 t3 t4 hb2
  go_wp2_with fail
  obtain ⟨W5, hW5⟩ : ∃ W5, W5 = W4.setCell ⟨w1.heap.size, 4, none⟩ (.int .i64 (B.n + 1)) := ⟨_, rfl⟩
  rw [← hW5] at HFIN ⊢
  clear hW5 n5 n6 nf6
  obtain ⟨q5, k5, r5, hO5, hB5⟩ := HFIN.out
  have hl5 := q5.lt
  have hk5 := k5.lt
  have P0 := fun q : PastO [w.heap.size + 1] W5 => PastO.cell hl5 (by simp; omega) (q5.at_ 0 (x := (.slice A9 (B.l.length + 1) c9)) rfl).1 q
  have P1 := fun q : PastO [w.heap.size + 1] W5 => PastO.cell hl5 (by simp; omega) (q5.at_ 1 (x := (.slice D2 B.h.length d2)) rfl).1 q
  have P2 := fun q : PastO [w.heap.size + 1] W5 => PastO.cell hl5 (by simp; omega) (q5.at_ 2 (x := (.slice D3 B.w.length d3)) rfl).1 q
  have P3 := fun q : PastO [w.heap.size + 1] W5 => PastO.cell hl5 (by simp; omega) (q5.at_ 3 (x := (.slice D4 B.f.length d4)) rfl).1 q
  have P4 := fun q : PastO [w.heap.size + 1] W5 => PastO.cell hl5 (by simp; omega) (q5.at_ 4 (x := (.int .i64 (B.n + 1))) rfl).1 q
  have P5 := fun q : PastO [w.heap.size + 1] W5 => PastO.cell hk5 (by simp) (k5.at_ 4 (x := .int .i64 B.n) rfl).1 q
  refine wp_region_two 4 4 (fun w' => ∃ q : PastO [w.heap.size + 1] W5, w' = q.v) (fun _ => True) (by kernel_rfl) ?_
  obtain ⟨w0, hw0⟩ : ∃ w0, w0 = W5.drew := ⟨_, rfl⟩
  have T0 : Hid (Below W5.heap.size W5 w0) := Lib.hid (by rw [hw0]; exact (Below.refl _ _).drew)
  rw [← hw0]
  clear hw0
  refine wpAnyX_pass (C := (fun w' => ∃ q : PastO [w.heap.size + 1] W5, w' = q.v)) (some false) [true, true, true] rfl (by kernel_rfl) (fun _ _ t _ _ h => by cases t <;> exact h) ⟨fun _ => ⟨⟨w0, Only.of_below T0.out _⟩, rfl⟩, fun _ => trivial⟩ ?_
  simp only [keepOps]
  repeat (go_big_quiet_step (fail))
  refine wpQuiet_nil ?_
  clear P0 P1 P2 P3 P4 P5
  refine wpAnyX_one 3 rfl (by kernel_rfl) (by kernel_rfl) ?_
  have r6 := r5.below T0.out r5.lt
  obtain ⟨g0, gf0⟩ := r6.at_ 0 (x := (.slice none 0 0)) rfl
  obtain ⟨g1, gf1⟩ := r6.at_ 1 (x := (.slice none 0 0)) rfl
  obtain ⟨g2, gf2⟩ := r6.at_ 2 (x := (.slice none 0 0)) rfl
  obtain ⟨g3, gf3⟩ := r6.at_ 3 (x := (.slice none 0 0)) rfl
  obtain ⟨g4, gf4⟩ := r6.at_ 4 (x := (.int .i64 0)) rfl
  clear q5 k5 r5
  go_wp2_with fail
  refine ⟨⟨fun _ => ⟨⟨_, (Only.of_below T0.out _).trans (only_set5 w0 (w.heap.size + 1) (.slice A9 (B.l.length + 1) c9) (.slice D2 B.h.length d2) (.slice D3 B.w.length d3) (.slice D4 B.f.length d4) (.int .i64 (B.n + 1)))⟩, rfl⟩, fun _ => trivial⟩, ?_⟩
  refine wpAnyX_one 4 rfl (by kernel_rfl) (by kernel_rfl) ?_
  clear g0 g1 g2 g3 g4 gf0 gf1 gf2 gf3 gf4
  go_wp2_with fail
  refine ⟨⟨fun h => absurd (show true = false from h) (by decide), fun _ => trivial⟩, ?_⟩
  refine wpAnyX_done (by kernel_rfl) ?_
  try dsimp only
  go_wp2_with fail
  have qF := r6.set5 (.slice A9 (B.l.length + 1) c9) (.slice D2 B.h.length d2) (.slice D3 B.w.length d3) (.slice D4 B.f.length d4) (.int .i64 (B.n + 1))
  obtain ⟨zz0, -⟩ := qF.at_ 0 (x := (.slice A9 (B.l.length + 1) c9)) rfl
  obtain ⟨zz1, -⟩ := qF.at_ 1 (x := (.slice D2 B.h.length d2)) rfl
  obtain ⟨zz2, -⟩ := qF.at_ 2 (x := (.slice D3 B.w.length d3)) rfl
  obtain ⟨zz3, -⟩ := qF.at_ 3 (x := (.slice D4 B.f.length d4)) rfl
  obtain ⟨zz4, -⟩ := qF.at_ 4 (x := (.int .i64 (B.n + 1))) rfl
  refine bodyPost_ret (v := .tuple #[.agg #[.slice A9 (B.l.length + 1) c9, .slice D2 B.h.length d2, .slice D3 B.w.length d3, .slice D4 B.f.length d4, .int .i64 (B.n + 1)], .int .i64 B.n]) (by simp [results, Try.results50, go_sem, zz0, zz1, zz2, zz3, zz4]) rfl ?_
  have hO6 := hO5.below T0.out
  have hR := (hO6.only1 (hO6.neLow (by omega)) (only_set5 w0 (w.heap.size + 1) (.slice A9 (B.l.length + 1) c9) (.slice D2 B.h.length d2) (.slice D3 B.w.length d3) (.slice D4 B.f.length d4) (.int .i64 (B.n + 1)))).ret (w := w) (x := .int .i64 B.n) (by omega) (below_set5 (hB5.trans (T0.out.mono hB5.size)) (Nat.le_succ _) (.slice A9 (B.l.length + 1) c9) (.slice D2 B.h.length d2) (.slice D3 B.w.length d3) (.slice D4 B.f.length d4) (.int .i64 (B.n + 1)))
  rw [HY.out.2]
  rw [show (makeBn B).n = B.n + 1 by rw [HY.out.1]] at hR
  exact hR
set_option maxHeartbeats 3200000 in
theorem impl_MakeObj (a b c d : Value) (B : Bn) (w : World) (r : RdBn w a b c d B) (hw : BnR B) (hsz : szBn B ≤ 16777215) :
    Calls Try.prog 36 #[.agg #[a, b, c, d, .int .i64 B.n]] w (RetBnV (makeBn B) (.int .i64 (makeR B)) w) := by
  obtain ⟨A1, c1, A2, c2, A3, c3, A4, c4, ⟨rfl, rfl, rfl, rfl⟩, -, -⟩ := r.slices
  obtain ⟨i, hi, hiz0, hiz1, hiz2⟩ := info_parts infoInt
  have hll : B.l.length ≤ 16777215 := by unfold szBn at hsz; omega
  obtain ⟨W0, hW0⟩ : ∃ W0, W0 = (w.alloc (.cells #[.slice A1 B.l.length c1, .slice A2 B.h.length c2, .slice A3 B.w.length c3, .slice A4 B.f.length c4, .int .i64 B.n] 31)).alloc (.cells #[.slice none 0 0, .slice none 0 0, .slice none 0 0, .slice none 0 0, .int .i64 0] 31) := ⟨_, rfl⟩
  have hB0 := ((Below.refl w.heap.size w).alloc (Nat.le_refl _) (.cells #[.slice A1 B.l.length c1, .slice A2 B.h.length c2, .slice A3 B.w.length c3, .slice A4 B.f.length c4, .int .i64 B.n] 31)).alloc (by simp) (.cells #[.slice none 0 0, .slice none 0 0, .slice none 0 0, .slice none 0 0, .int .i64 0] 31)
  have k0 := (Bk.new w #[.slice A1 B.l.length c1, .slice A2 B.h.length c2, .slice A3 B.w.length c3, .slice A4 B.f.length c4, .int .i64 B.n] 31).alloc (.cells #[.slice none 0 0, .slice none 0 0, .slice none 0 0, .slice none 0 0, .int .i64 0] 31)
  have r0 := Bk.new (w.alloc (.cells #[.slice A1 B.l.length c1, .slice A2 B.h.length c2, .slice A3 B.w.length c3, .slice A4 B.f.length c4, .int .i64 B.n] 31)) #[.slice none 0 0, .slice none 0 0, .slice none 0 0, .slice none 0 0, .int .i64 0] 31
  simp only [World.size_alloc] at r0
  have hs0 : W0.heap.size = w.heap.size + 2 := by rw [hW0]; simp
  rw [← hW0] at hB0 k0 r0
  have HBO : Hid (∀ W : World, Below w.heap.size w W → Calls Try.prog 58 #[.agg #[.slice A1 B.l.length c1, .slice A2 B.h.length c2, .slice A3 B.w.length c3, .slice A4 B.f.length c4, .int .i64 B.n]] W fun e w' => e = .returned (.bool (bnOk B)) ∧ Below W.heap.size W w') := Lib.hid (fun W hW => impl_BenchOk _ _ _ _ B W (r.below hW) hw (by omega))
  have HC := Lib.hid (copyBenchT _ _ _ _ B W0 (r.below hB0) (by omega))
  have HW0 := Lib.hid hW0
  have hz0 : w.heap.size + 2 ≤ W0.heap.size := by omega
  have HB0 := Lib.hid hB0
  obtain ⟨y0, -⟩ := k0.at_ 0 (x := .slice A1 B.l.length c1) rfl
  clear hW0 hs0 hB0 r hsz
  go_enter Try.func36, Try.ntmps36
  go_wp2_with fail
  rw [← HW0.out]
  clear y0
  refine HC.out.mono ?_
  rintro e w1 ⟨u1, u2, u3, u4, rfl, hO, hb1⟩
  obtain ⟨D1, d1, rfl⟩ := owns_form' hO.l
  obtain ⟨D2, d2, rfl⟩ := owns_form' hO.h
  obtain ⟨D3, d3, rfl⟩ := owns_form' hO.q
  obtain ⟨D4, d4, rfl⟩ := owns_form' hO.f
  have hz1 := hb1.size
  have k1 := (k0.below hb1 k0.lt).alloc (.cells #[.slice D1 B.l.length d1, .slice D2 B.h.length d2, .slice D3 B.w.length d3, .slice D4 B.f.length d4, .int .i64 B.n] 31)
  have r1 := (r0.below hb1 r0.lt).alloc (.cells #[.slice D1 B.l.length d1, .slice D2 B.h.length d2, .slice D3 B.w.length d3, .slice D4 B.f.length d4, .int .i64 B.n] 31)
  have q1 := Bk.new w1 #[.slice D1 B.l.length d1, .slice D2 B.h.length d2, .slice D3 B.w.length d3, .slice D4 B.f.length d4, .int .i64 B.n] 31
  have hO1 := hO.below ((Below.refl _ _).alloc (Nat.le_refl _) (.cells #[.slice D1 B.l.length d1, .slice D2 B.h.length d2, .slice D3 B.w.length d3, .slice D4 B.f.length d4, .int .i64 B.n] 31))
  have HN1 := Lib.hid (hO.neHigh (g := w1.heap.size) (Nat.le_refl _))
  have hB1 := (HB0.out.trans (hb1.mono HB0.out.size)).alloc (by omega) (.cells #[.slice D1 B.l.length d1, .slice D2 B.h.length d2, .slice D3 B.w.length d3, .slice D4 B.f.length d4, .int .i64 B.n] 31)
  have HBC := Lib.hid (HBO.out _ hB1)
  have HS1 := Lib.hid (And.intro hO1 (And.intro k1 (And.intro r1 (And.intro q1 hB1))))
  obtain ⟨t0, -⟩ := k1.at_ 0 (x := .slice A1 B.l.length c1) rfl
  obtain ⟨t1, -⟩ := k1.at_ 1 (x := .slice A2 B.h.length c2) rfl
  obtain ⟨t2, -⟩ := k1.at_ 2 (x := .slice A3 B.w.length c3) rfl
  obtain ⟨t3, -⟩ := k1.at_ 3 (x := .slice A4 B.f.length c4) rfl
  obtain ⟨t4, -⟩ := k1.at_ 4 (x := .int .i64 B.n) rfl
  obtain ⟨W1, hW1⟩ : ∃ W1, W1 = w1.alloc (.cells #[.slice D1 B.l.length d1, .slice D2 B.h.length d2, .slice D3 B.w.length d3, .slice D4 B.f.length d4, .int .i64 B.n] 31) := ⟨_, rfl⟩
  rw [← hW1] at HBC HS1 t0 t1 t2 t3 t4
  have HW1 := Lib.hid hW1
  clear k0 r0 k1 r1 q1 hO hO1 hB1 hb1 hW1
  go_upto_region 2 with (fail)
  rw [← HW1.out]
  cases hok : bnOk B
  · have HNO := Lib.hid (makeOk_no (B := B) (by simp [makeOk, hok]))
    rw [hok] at HBC
    clear hok
    go_wp2_with (go_at_call 58; refine HBC.out.mono ?_; rintro e w2 ⟨rfl, hb2⟩; obtain ⟨hO1, k1, r1, q1, hB1⟩ := HS1.out; have k2 := k1.below hb2 k1.lt; have r2 := r1.below hb2 r1.lt; have q2 := q1.below hb2 q1.lt; have hO2 := hO1.below hb2; have hB2 := hB1.trans (hb2.mono hB1.size); obtain ⟨n4, -⟩ := k2.at_ 4 (x := .int .i64 B.n) rfl; obtain ⟨e0, ef0⟩ := q2.at_ 0 (x := (.slice D1 B.l.length d1)) rfl; obtain ⟨e1, ef1⟩ := q2.at_ 1 (x := (.slice D2 B.h.length d2)) rfl; obtain ⟨e2, ef2⟩ := q2.at_ 2 (x := (.slice D3 B.w.length d3)) rfl; obtain ⟨e3, ef3⟩ := q2.at_ 3 (x := (.slice D4 B.f.length d4)) rfl; obtain ⟨e4, ef4⟩ := q2.at_ 4 (x := (.int .i64 B.n)) rfl; obtain ⟨f0, ff0⟩ := r2.at_ 0 (x := (.slice none 0 0)) rfl; obtain ⟨f1, ff1⟩ := r2.at_ 1 (x := (.slice none 0 0)) rfl; obtain ⟨f2, ff2⟩ := r2.at_ 2 (x := (.slice none 0 0)) rfl; obtain ⟨f3, ff3⟩ := r2.at_ 3 (x := (.slice none 0 0)) rfl; obtain ⟨f4, ff4⟩ := r2.at_ 4 (x := (.int .i64 0)) rfl; clear hO1 k1 r1 q1 hB1 hb2)
    have qF := r2.set5 (.slice D1 B.l.length d1) (.slice D2 B.h.length d2) (.slice D3 B.w.length d3) (.slice D4 B.f.length d4) (.int .i64 B.n)
    obtain ⟨zz0, -⟩ := qF.at_ 0 (x := (.slice D1 B.l.length d1)) rfl
    obtain ⟨zz1, -⟩ := qF.at_ 1 (x := (.slice D2 B.h.length d2)) rfl
    obtain ⟨zz2, -⟩ := qF.at_ 2 (x := (.slice D3 B.w.length d3)) rfl
    obtain ⟨zz3, -⟩ := qF.at_ 3 (x := (.slice D4 B.f.length d4)) rfl
    obtain ⟨zz4, -⟩ := qF.at_ 4 (x := (.int .i64 B.n)) rfl
    refine bodyPost_ret (v := .tuple #[.agg #[.slice D1 B.l.length d1, .slice D2 B.h.length d2, .slice D3 B.w.length d3, .slice D4 B.f.length d4, .int .i64 B.n], .int .i64 (-1)]) (by simp [results, Try.results36, go_sem, zz0, zz1, zz2, zz3, zz4]) rfl ?_
    rw [HNO.out.1, HNO.out.2]
    exact (hO2.only1 (hO2.neLow (by omega)) (only_set5 _ _ _ _ _ _ _)).ret (by omega) (below_set5 hB2 (Nat.le_succ _) _ _ _ _ _)
  rw [hok] at HBC
  have HOK := Lib.hid hok
  have hbn := (bnOk_iff.1 hok).1
  clear hok
  by_cases hn : B.n ≤ 60
  case neg =>
    have HNO := Lib.hid (makeOk_no (B := B) (by simp [makeOk, hn]))
    have hq : (B.n == 61) = true := by simp; omega
    have hq2 : decide (60 < B.n) = true := by simp; omega
    go_wp2_with (go_at_call 58; refine HBC.out.mono ?_; rintro e w2 ⟨rfl, hb2⟩; obtain ⟨hO1, k1, r1, q1, hB1⟩ := HS1.out; have k2 := k1.below hb2 k1.lt; have r2 := r1.below hb2 r1.lt; have q2 := q1.below hb2 q1.lt; have hO2 := hO1.below hb2; have hB2 := hB1.trans (hb2.mono hB1.size); obtain ⟨n4, -⟩ := k2.at_ 4 (x := .int .i64 B.n) rfl; obtain ⟨e0, ef0⟩ := q2.at_ 0 (x := (.slice D1 B.l.length d1)) rfl; obtain ⟨e1, ef1⟩ := q2.at_ 1 (x := (.slice D2 B.h.length d2)) rfl; obtain ⟨e2, ef2⟩ := q2.at_ 2 (x := (.slice D3 B.w.length d3)) rfl; obtain ⟨e3, ef3⟩ := q2.at_ 3 (x := (.slice D4 B.f.length d4)) rfl; obtain ⟨e4, ef4⟩ := q2.at_ 4 (x := (.int .i64 B.n)) rfl; obtain ⟨f0, ff0⟩ := r2.at_ 0 (x := (.slice none 0 0)) rfl; obtain ⟨f1, ff1⟩ := r2.at_ 1 (x := (.slice none 0 0)) rfl; obtain ⟨f2, ff2⟩ := r2.at_ 2 (x := (.slice none 0 0)) rfl; obtain ⟨f3, ff3⟩ := r2.at_ 3 (x := (.slice none 0 0)) rfl; obtain ⟨f4, ff4⟩ := r2.at_ 4 (x := (.int .i64 0)) rfl; clear hO1 k1 r1 q1 hB1 hb2)
    have qF := r2.set5 (.slice D1 B.l.length d1) (.slice D2 B.h.length d2) (.slice D3 B.w.length d3) (.slice D4 B.f.length d4) (.int .i64 B.n)
    obtain ⟨zz0, -⟩ := qF.at_ 0 (x := (.slice D1 B.l.length d1)) rfl
    obtain ⟨zz1, -⟩ := qF.at_ 1 (x := (.slice D2 B.h.length d2)) rfl
    obtain ⟨zz2, -⟩ := qF.at_ 2 (x := (.slice D3 B.w.length d3)) rfl
    obtain ⟨zz3, -⟩ := qF.at_ 3 (x := (.slice D4 B.f.length d4)) rfl
    obtain ⟨zz4, -⟩ := qF.at_ 4 (x := (.int .i64 B.n)) rfl
    refine bodyPost_ret (v := .tuple #[.agg #[.slice D1 B.l.length d1, .slice D2 B.h.length d2, .slice D3 B.w.length d3, .slice D4 B.f.length d4, .int .i64 B.n], .int .i64 (-1)]) (by simp [results, Try.results36, go_sem, zz0, zz1, zz2, zz3, zz4]) rfl ?_
    rw [HNO.out.1, HNO.out.2]
    exact (hO2.only1 (hO2.neLow (by omega)) (only_set5 _ _ _ _ _ _ _)).ret (by omega) (below_set5 hB2 (Nat.le_succ _) _ _ _ _ _)
  have hq : (B.n == 61) = false := by simp; omega
  have hq2 : decide (60 < B.n) = false := by simp; omega
  have HY := Lib.hid (makeOk_yes (B := B) (by simp [makeOk, HOK.out, hn]))
  go_upto_region 5 with (first
    | (go_at_call 58; refine HBC.out.mono ?_; rintro e w2 ⟨rfl, hb2⟩; obtain ⟨hO1, k1, r1, q1, hB1⟩ := HS1.out; have k2 := k1.below hb2 k1.lt; have r2 := r1.below hb2 r1.lt; have q2 := q1.below hb2 q1.lt; have hO2 := hO1.below hb2; have hB2 := hB1.trans (hb2.mono hB1.size); obtain ⟨n4, -⟩ := k2.at_ 4 (x := .int .i64 B.n) rfl; obtain ⟨e0, ef0⟩ := q2.at_ 0 (x := (.slice D1 B.l.length d1)) rfl; obtain ⟨e1, ef1⟩ := q2.at_ 1 (x := (.slice D2 B.h.length d2)) rfl; obtain ⟨e2, ef2⟩ := q2.at_ 2 (x := (.slice D3 B.w.length d3)) rfl; obtain ⟨e3, ef3⟩ := q2.at_ 3 (x := (.slice D4 B.f.length d4)) rfl; obtain ⟨e4, ef4⟩ := q2.at_ 4 (x := (.int .i64 B.n)) rfl; have hO2l : Hid (W0.heap.size ≤ w1.heap.size ∧ w1.heap.size < w2.heap.size) := Lib.hid ⟨hz1, q2.lt⟩; clear hO1 k1 r1 q1 hB1)
    | (at_builtin; refine wpList_append_own_at _ rfl _ _ 22 rfl W0.heap.size 3 i (.int .i64 0) 1 8 Try.underlying22 hi hiz0 hiz1 hiz2 rfl (by decide) _ _ _ rfl (hO2.l.alloc _) ⟨w2.heap.size, 0, none⟩ 1 1 [.int .i64 B.n] rfl rfl (new_cells _ _ _) (by simp [Value.oneCell']) (by unfold maxLen; omega) (by omega) (by have := hb2.size; have := hO2l.out; simp; omega) ?_; intro v9 w9 h9 hg9 _ hloc; obtain ⟨A9, c9, rfl⟩ := owns_form' h9; have q9 := (q2.alloc (.cells #[.int .i64 B.n] 3)).grownO hg9 HN1.out.1; obtain ⟨e5, ef5⟩ := q9.at_ 0 (x := (.slice D1 B.l.length d1)) rfl))
  obtain ⟨hz1', hgl⟩ := hO2l.out
  have k9 := (k2.alloc (.cells #[.int .i64 B.n] 3)).grownO hg9 (hO2.neLow (by omega)).1
  have r9 := (r2.alloc (.cells #[.int .i64 B.n] 3)).grownO hg9 (hO2.neLow (by omega)).1
  have hOA := hO2.below ((Below.refl _ _).alloc (Nat.le_refl _) (.cells #[.int .i64 B.n] 3))
  have hO9 : OwnBT w9 W0.heap.size (.slice A9 (B.l.length + 1) c9) (.slice D2 B.h.length d2) (.slice D3 B.w.length d3) (.slice D4 B.f.length d4) (makeBn B) := by
    rw [HY.out.1]
    exact hOA.putL (by simpa [ints] using h9) hg9 hloc rfl rfl rfl
  have hN9 : NeB w1.heap.size (.slice A9 (B.l.length + 1) c9) (.slice D2 B.h.length d2) (.slice D3 B.w.length d3) (.slice D4 B.f.length d4) := ⟨ne_new HN1.out.1 hloc (by simp; omega), HN1.out.2⟩
  have hB9 := (hB2.alloc hB2.size (.cells #[.int .i64 B.n] 3)).grown hg9 (by have := hB2.size; simp; omega) (fun k hk => by have := (hO2.l.lt k hk).1; omega)
  have q10 := q9.set_ 0 (.slice A9 (B.l.length + 1) c9)
  have k10 := k9.far (p := ⟨w1.heap.size, 0, none⟩) (by simp; omega) (.slice A9 (B.l.length + 1) c9)
  have r10 := r9.far (p := ⟨w1.heap.size, 0, none⟩) (by simp; omega) (.slice A9 (B.l.length + 1) c9)
  have hO10 := hO9.only1 hN9 (Only.setCell w9 (i := 0) (.slice A9 (B.l.length + 1) c9))
  have hB10 := hB9.setCell (p := ⟨w1.heap.size, 0, none⟩) (by show w.heap.size ≤ w1.heap.size; omega) (.slice A9 (B.l.length + 1) c9)
  obtain ⟨W4, hW4⟩ : ∃ W4, W4 = w9.setCell ⟨w1.heap.size, 0, none⟩ (.slice A9 (B.l.length + 1) c9) := ⟨_, rfl⟩
  rw [← hW4] at q10 k10 r10 hO10 hB10 ⊢
  have q11 := q10.set_ 4 (.int .i64 (B.n + 1))
  have k11 := k10.far (p := ⟨w1.heap.size, 4, none⟩) (by simp; omega) (.int .i64 (B.n + 1))
  have r11 := r10.far (p := ⟨w1.heap.size, 4, none⟩) (by simp; omega) (.int .i64 (B.n + 1))
  have hO11 := hO10.only1 hN9 (Only.setCell W4 (i := 4) (.int .i64 (B.n + 1)))
  have hB11 := hB10.setCell (p := ⟨w1.heap.size, 4, none⟩) (by show w.heap.size ≤ w1.heap.size; omega) (.int .i64 (B.n + 1))
  obtain ⟨n5, -⟩ := k10.at_ 4 (x := .int .i64 B.n) rfl
  obtain ⟨n6, nf6⟩ := q10.at_ 4 (x := .int .i64 B.n) rfl
  have HFIN := Lib.hid (And.intro q11 (And.intro k11 (And.intro r11 (And.intro hO11 hB11))))
  clear hW4 q10 k10 r10 hO10 hB10 q11 k11 r11 hO11 hB11 q9 k9 r9 hOA hO9 hB9 h9 hg9 hloc hO2 k2 r2 q2 hB2 n4 e0 e1 e2 e3 e4 e5 ef0 ef1 ef2 ef3 ef4 ef5 t0 t1 t2 t3 t4 hb2
  go_wp2_with fail
  obtain ⟨W5, hW5⟩ : ∃ W5, W5 = W4.setCell ⟨w1.heap.size, 4, none⟩ (.int .i64 (B.n + 1)) := ⟨_, rfl⟩
  rw [← hW5] at HFIN ⊢
  clear hW5 n5 n6 nf6
  obtain ⟨q5, k5, r5, hO5, hB5⟩ := HFIN.out
  have hl5 := q5.lt
  have hk5 := k5.lt
  have P0 := fun q : PastO [w.heap.size + 1] W5 => PastO.cell hl5 (by simp; omega) (q5.at_ 0 (x := (.slice A9 (B.l.length + 1) c9)) rfl).1 q
  have P1 := fun q : PastO [w.heap.size + 1] W5 => PastO.cell hl5 (by simp; omega) (q5.at_ 1 (x := (.slice D2 B.h.length d2)) rfl).1 q
  have P2 := fun q : PastO [w.heap.size + 1] W5 => PastO.cell hl5 (by simp; omega) (q5.at_ 2 (x := (.slice D3 B.w.length d3)) rfl).1 q
  have P3 := fun q : PastO [w.heap.size + 1] W5 => PastO.cell hl5 (by simp; omega) (q5.at_ 3 (x := (.slice D4 B.f.length d4)) rfl).1 q
  have P4 := fun q : PastO [w.heap.size + 1] W5 => PastO.cell hl5 (by simp; omega) (q5.at_ 4 (x := (.int .i64 (B.n + 1))) rfl).1 q
  have P5 := fun q : PastO [w.heap.size + 1] W5 => PastO.cell hk5 (by simp) (k5.at_ 4 (x := .int .i64 B.n) rfl).1 q
  refine wp_region_two 4 4 (fun w' => ∃ q : PastO [w.heap.size + 1] W5, w' = q.v) (fun _ => True) (by kernel_rfl) ?_
  obtain ⟨w0, hw0⟩ : ∃ w0, w0 = W5.drew := ⟨_, rfl⟩
  have T0 : Hid (Below W5.heap.size W5 w0) := Lib.hid (by rw [hw0]; exact (Below.refl _ _).drew)
  rw [← hw0]
  clear hw0
  refine wpAnyX_pass (C := (fun w' => ∃ q : PastO [w.heap.size + 1] W5, w' = q.v)) (some false) [true, true, true] rfl (by kernel_rfl) (fun _ _ t _ _ h => by cases t <;> exact h) ⟨fun _ => ⟨⟨w0, Only.of_below T0.out _⟩, rfl⟩, fun _ => trivial⟩ ?_
  simp only [keepOps]
  repeat (go_big_quiet_step (fail))
  refine wpQuiet_nil ?_
  clear P0 P1 P2 P3 P4 P5
  refine wpAnyX_one 3 rfl (by kernel_rfl) (by kernel_rfl) ?_
  have r6 := r5.below T0.out r5.lt
  obtain ⟨g0, gf0⟩ := r6.at_ 0 (x := (.slice none 0 0)) rfl
  obtain ⟨g1, gf1⟩ := r6.at_ 1 (x := (.slice none 0 0)) rfl
  obtain ⟨g2, gf2⟩ := r6.at_ 2 (x := (.slice none 0 0)) rfl
  obtain ⟨g3, gf3⟩ := r6.at_ 3 (x := (.slice none 0 0)) rfl
  obtain ⟨g4, gf4⟩ := r6.at_ 4 (x := (.int .i64 0)) rfl
  clear q5 k5 r5
  go_wp2_with fail
  refine ⟨⟨fun _ => ⟨⟨_, (Only.of_below T0.out _).trans (only_set5 w0 (w.heap.size + 1) (.slice A9 (B.l.length + 1) c9) (.slice D2 B.h.length d2) (.slice D3 B.w.length d3) (.slice D4 B.f.length d4) (.int .i64 (B.n + 1)))⟩, rfl⟩, fun _ => trivial⟩, ?_⟩
  refine wpAnyX_one 4 rfl (by kernel_rfl) (by kernel_rfl) ?_
  clear g0 g1 g2 g3 g4 gf0 gf1 gf2 gf3 gf4
  go_wp2_with fail
  refine ⟨⟨fun h => absurd (show true = false from h) (by decide), fun _ => trivial⟩, ?_⟩
  refine wpAnyX_done (by kernel_rfl) ?_
  try dsimp only
  go_wp2_with fail
  have qF := r6.set5 (.slice A9 (B.l.length + 1) c9) (.slice D2 B.h.length d2) (.slice D3 B.w.length d3) (.slice D4 B.f.length d4) (.int .i64 (B.n + 1))
  obtain ⟨zz0, -⟩ := qF.at_ 0 (x := (.slice A9 (B.l.length + 1) c9)) rfl
  obtain ⟨zz1, -⟩ := qF.at_ 1 (x := (.slice D2 B.h.length d2)) rfl
  obtain ⟨zz2, -⟩ := qF.at_ 2 (x := (.slice D3 B.w.length d3)) rfl
  obtain ⟨zz3, -⟩ := qF.at_ 3 (x := (.slice D4 B.f.length d4)) rfl
  obtain ⟨zz4, -⟩ := qF.at_ 4 (x := (.int .i64 (B.n + 1))) rfl
  refine bodyPost_ret (v := .tuple #[.agg #[.slice A9 (B.l.length + 1) c9, .slice D2 B.h.length d2, .slice D3 B.w.length d3, .slice D4 B.f.length d4, .int .i64 (B.n + 1)], .int .i64 B.n]) (by simp [results, Try.results36, go_sem, zz0, zz1, zz2, zz3, zz4]) rfl ?_
  have hO6 := hO5.below T0.out
  have hR := (hO6.only1 (hO6.neLow (by omega)) (only_set5 w0 (w.heap.size + 1) (.slice A9 (B.l.length + 1) c9) (.slice D2 B.h.length d2) (.slice D3 B.w.length d3) (.slice D4 B.f.length d4) (.int .i64 (B.n + 1)))).ret (w := w) (x := .int .i64 B.n) (by omega) (below_set5 (hB5.trans (T0.out.mono hB5.size)) (Nat.le_succ _) (.slice A9 (B.l.length + 1) c9) (.slice D2 B.h.length d2) (.slice D3 B.w.length d3) (.slice D4 B.f.length d4) (.int .i64 (B.n + 1)))
  rw [HY.out.2]
  rw [show (makeBn B).n = B.n + 1 by rw [HY.out.1]] at hR
  exact hR
end Go.Proofs.Ytiamkgkhamnaeaa
