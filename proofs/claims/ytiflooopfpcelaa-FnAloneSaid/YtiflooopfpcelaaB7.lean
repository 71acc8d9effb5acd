/- The newest slot that a function value takes (package impl: the queue's newest; slices.Backward), and ReadThrough, both sides. Condition: the slices can be read. -/
import Derived.RangeFuncNested
import Derived.RangeFuncBound
import Derived.RangeFuncCalls
import Derived.RangeFuncLeaves
import Derived.Shelf.Abstract
import Derived.OwnWalkIn
import Derived.TacticsInMore
import Derived.LoopNIn
import Derived.LoopIn
import Derived.Test.YtiflooopfpcelaaB3
import Derived.Test.YtiflooopfpcelaaI3
namespace Go.Proofs.Ytiflooopfpcelaa
set_option maxRecDepth 20000
set_option linter.unusedSimpArgs false
set_option linter.unusedVariables false
open Go.ChangeShapes Go.WideShapes Go.ChangeAt Go.RowKit Go.Shelf
set_option linter.unusedVariables false
/-- what a range over the slots backward brings: the index and the slot, the last first -/
def backAt (xs : List P2) (j : Nat) : Int × P2 := (((xs.length - 1 - j : Nat) : Int), xs.getD (xs.length - 1 - j) ⟨0, 0⟩)
def back (xs : List P2) (k : Nat) : List (Int × P2) := (List.range k).map (backAt xs)
theorem back_succ (xs : List P2) (k : Nat) : back xs (k + 1) = back xs k ++ [backAt xs k] := by simp [back, List.range_succ]
theorem back_len (xs : List P2) (k : Nat) : (back xs k).length = k := by simp [back]
theorem back_snd (xs : List P2) {k : Nat} (hk : k ≤ xs.length) : (back xs k).map Prod.snd = xs.reverse.take k := by
  apply List.ext_getElem
  · simp [back, hk]
  · intro i h1 h2
    have hi : i < k := by simpa [back] using h1
    have hx : xs.length - 1 - i < xs.length := by omega
    simp [back, backAt, List.getElem_reverse, hx]
def newestF (xs : List P2) (a : Int) : Option P2 := xs.reverse.find? fun x => x.a == a
theorem newest_none {xs : List P2} {a : Int} (h : ∀ y ∈ back xs xs.length, y.2.a ≠ a) : newestF xs a = none := by
  unfold newestF
  rw [List.find?_eq_none]
  intro x hx
  have e := back_snd xs (Nat.le_refl xs.length)
  rw [List.take_of_length_le (by simp)] at e
  rw [← e] at hx
  obtain ⟨y, hy, rfl⟩ := List.mem_map.1 hx
  simpa using h y hy
theorem newest_some {xs : List P2} {a : Int} {k : Nat} (hk : k ≤ xs.length) {p : List (Int × P2)} {z : Int × P2} (e : back xs k = p ++ [z]) (h : ∀ y ∈ p, y.2.a ≠ a) (hz : z.2.a = a) : newestF xs a = some z.2 := by
  unfold newestF
  have e1 := back_snd xs hk
  rw [e, List.map_append] at e1
  rw [← List.take_append_drop k xs.reverse, ← e1, List.find?_append, List.find?_append]
  have e2 : (p.map Prod.snd).find? (fun x => x.a == a) = none := by
    rw [List.find?_eq_none]
    intro x hx
    obtain ⟨y, hy, rfl⟩ := List.mem_map.1 hx
    simpa using h y hy
  rw [e2]
  simp [hz]
theorem keepsFrom_below {B : Nat} {W W' : World} (h : Below W.heap.size W W') : KeepsFrom B W W' :=
  ⟨h.size, fun k o _ hk _ => (h.block k (Array.getElem?_eq_some_iff.1 hk).1).trans hk⟩
theorem bk_own {β : Type} (g : Nat) (cs : Array Value) (t : TypeId)  : Go.Own (fun (_ : β) W => Bk W g cs t) := fun s X Y row hs hg hr =>
  hs.grown hg (fun k hk e => by
    subst e
    obtain ⟨o, ho, hc⟩ := hr g hk
    unfold Bk at hs
    rw [hs] at ho
    injection ho with ho
    subst ho
    simp [Obj.isCells] at hc)
section
attribute [local go_sem] Oper.semAt_some
set_option maxRecDepth 100000 in
set_option maxHeartbeats 1000000 in
theorem backward_in (n : Nat) (a : Option Addr) (len cap : Nat) (w : World) :
    CallsIn Fence.wide n Try.prog 173 #[.slice a len cap] w fun e w' => e = .returned (.func (.func 174) #[] #[.pointer (some ⟨w.heap.size, 0, none⟩)]) ∧ w' = w.alloc (.cells #[.slice a len cap] 189) := by
  refine callsIn_of_wp Try.func173 rfl trivial ?_ rfl
  simp only [Try.ntmps173, List.size_toArray, List.length_cons, List.length_nil, Nat.reduceAdd, Nat.reduceSub, Array.replicate_succ, Array.replicate_zero, List.push_toArray, List.append_toArray, List.nil_append, List.cons_append]
  gi_wp2
  go_ret
  exact ⟨rfl, rfl⟩
set_option maxRecDepth 100000 in
set_option maxHeartbeats 2000000 in
theorem backward1_in (n : Nat) (hn : 1 ≤ n) (l Bs n₀ : Nat) (v : Value) (xs : List P2) (J Jx : List (Int × P2) → World → Prop)
    (hY : ∀ pre x W, J pre W → pre.length < xs.length → YieldAt Fence.wide (n - 1) Try.prog l #[.int .i64 x.1, .agg #[.int .i64 x.2.a, .int .i64 x.2.b]] W fun e W' =>
      (e = .returned (.bool true) ∧ J (pre ++ [x]) W' ∧ Below n₀ W W') ∨ (e = .returned (.bool false) ∧ Jx (pre ++ [x]) W'))
    (W : World) (hBs : W.cell? ⟨Bs, 0, none⟩ = some v) (hBn : Bs < n₀) (hR : Rd W v 2 xs.length (flc2 xs)) (hn₀ : ∀ b o c, v = .slice (some ⟨b, o, none⟩) xs.length c → 0 < xs.length → b < n₀) (h0 : J [] W) :
    CallsIn Fence.wide n Try.prog 174 #[.func (.yield l) #[] #[], .pointer (some ⟨Bs, 0, none⟩)] W fun e W' => (∃ v, e = .returned v) ∧
      ((∃ ys, ys = back xs xs.length ∧ J ys W') ∨ (∃ pre, (∃ k, k ≤ xs.length ∧ pre = back xs k) ∧ Jx pre W')) := by
  obtain ⟨A, c, rfl, -, hnc, hc, hr⟩ := hR
  unfold maxLen at hc
  refine callsIn_of_wp Try.func174 rfl trivial ?_ rfl
  simp only [Try.ntmps174, List.size_toArray, List.length_cons, List.length_nil, Nat.reduceAdd, Nat.reduceSub, Array.replicate_succ, Array.replicate_zero, List.push_toArray, List.append_toArray, List.nil_append, List.cons_append]
  gi_wp2
  gi_loopw [3] (fun i wr => ∃ k : Nat, k ≤ xs.length ∧ i = .int .i64 ((xs.length : Int) - 1 - k) ∧ J (back xs k) wr ∧ Below n₀ W wr)
    (fun i _ => ((intOf i) + 1).toNat)
  case atStart => exact ⟨0, Nat.zero_le _, by simp, h0, Below.refl _ _⟩
  case round =>
    obtain ⟨k, hk, rfl, hJs, hnx⟩ := hrel
    by_cases hlt : k < xs.length
    · obtain ⟨b, o, rfl, hbl, hcell⟩ := hr (by omega)
      have hb : b < n₀ := hn₀ b o c rfl (by omega)
      obtain ⟨m, hm⟩ : ∃ m, xs.length - 1 - k = m := ⟨_, rfl⟩
      have hm1 : ((xs.length : Int) - 1 - k) = (m : Int) := by omega
      have hml : m < xs.length := by omega
      obtain ⟨x, hxk, hx0, hx1⟩ := p2_at (fun j u hu => (hnx.cell (p := ⟨b, o + j, none⟩) hb).trans (hcell j u hu)) hml
      have hba : backAt xs k = ((m : Int), x) := by
        have := hxk.out
        simp [backAt, hm, List.getD_eq_getElem?_getD, this]
      obtain ⟨fn, tmps, assign, body, hy, hR⟩ := hY _ (backAt xs k) wr hJs (by rw [back_len]; exact hlt)
      rw [hba] at hy
      dsimp only at hy
      have hcb := (hnx.cell (p := ⟨Bs, 0, none⟩) hBn).trans hBs
      rw [hm1]
      have hk2 : k + 1 ≤ xs.length := by omega
      have hm0 : (0 : Int) ≤ (m : Int) := by omega
      have hmn : (m : Int) < xs.length := by omega
      have HM : Hid ((m : Int) - 1 = (xs.length : Int) - 1 - ((k + 1 : Nat) : Int) ∧ xs.length - 1 - k = m) := Lib.hid ⟨by omega, hm⟩
      clear hm1 hm hr hcell hxk hba
      gi_wp2
      refine hR.mono ?_
      rintro e W3 (⟨rfl, hJ3, hk3⟩ | ⟨rfl, hJx3⟩)
      · gi_wp2
        go_roundw
        case rel => exact ⟨k + 1, hk2, by rw [← HM.out.1], by rw [back_succ]; exact hJ3, hnx.trans hk3⟩
        case measure => simp [intOf]
      · gi_wp2
        refine bodyPost_ret (results_none rfl _ _ _) rfl ?_
        exact ⟨⟨_, rfl⟩, .inr ⟨_, ⟨k + 1, hk2, (back_succ _ _).symm⟩, hJx3⟩⟩
    · obtain rfl : k = xs.length := by omega
      have hneg : ¬ (0 : Int) ≤ (xs.length : Int) - 1 - (xs.length : Int) := by omega
      gi_wp2
      go_end0
      first | exact ⟨⟨_, rfl⟩, .inl ⟨_, rfl, hJs⟩⟩ | exact ⟨⟨_, rfl⟩, .inl hJs⟩
set_option maxHeartbeats 400000 in
theorem lit_matches (x : P2) (pa : Nat) (a : Int) (w : World) (h : w.cell? ⟨pa, 0, none⟩ = some (.int .i64 a)) (hp : pa < w.heap.size) :
    Calls Try.prog 170 #[.agg #[.int .i64 x.a, .int .i64 x.b], .pointer (some ⟨pa, 0, none⟩)] w fun e w' => e = .returned (.bool (x.a == a)) ∧ Below w.heap.size w w' := by
  obtain ⟨xa, xb⟩ := x
  have hB := (Below.refl w.heap.size w).alloc (Nat.le_refl _) (.cells #[.int .i64 xa, .int .i64 xb] 94)
  have h2 := (hB.cell (p := ⟨pa, 0, none⟩) hp).trans h
  have HB := Lib.hid hB
  clear hB
  go_enter Try.func170, Try.ntmps170
  go_wp2_with fail
  go_ret
  exact ⟨rfl, HB.out⟩
def newR (xs : List P2) (a : Int) : P2 × Bool := match newestF xs a with | some x => (x, true) | none => (⟨0, 0⟩, false)
set_option maxRecDepth 100000 in
set_option maxHeartbeats 4000000 in
theorem impl_newest (v : Value) (xs : List P2) (pa : Nat) (a : Int) (w : World) (h : Rd w v 2 xs.length (flc2 xs)) (hpa : w.cell? ⟨pa, 0, none⟩ = some (.int .i64 a)) (hp : pa < w.heap.size) :
    Calls Try.prog 169 #[v, .func (.func 170) #[] #[.pointer (some ⟨pa, 0, none⟩)]] w fun e w' => e = .returned (.tuple #[.agg #[.int .i64 (newR xs a).1.a, .int .i64 (newR xs a).1.b], .bool (newR xs a).2]) ∧ Below w.heap.size w w' := by
  obtain ⟨A, c, rfl, -⟩ := id h
  refine (callsIn_wide (n := 6)).1 ?_
  refine callsIn_of_wp_marks Try.func169 rfl trivial ?_ rfl
  simp only [Try.ntmps169, List.size_toArray, List.length_cons, List.length_nil, Nat.reduceAdd, Nat.reduceSub, Array.replicate_succ, Array.replicate_zero, List.push_toArray, List.append_toArray, List.nil_append, List.cons_append]
  gi_wp2_with (refine ⟨trivial, ?_⟩; gi_at_call 173; refine (backward_in _ _ _ _ _).mono ?_; rintro e w' ⟨rfl, rfl⟩)
  have b0 := (((Bk.new w #[(.func (.func 170) #[] #[.pointer (some ⟨pa, 0, none⟩)])] 215).alloc (.cells #[.int .i64 0, .int .i64 0] 94)).alloc (.cells #[.bool false] 4)).alloc (.cells #[.slice A xs.length c] 189)
  have b1 := ((Bk.new (w.alloc (.cells #[(.func (.func 170) #[] #[.pointer (some ⟨pa, 0, none⟩)])] 215)) #[.int .i64 0, .int .i64 0] 94).alloc (.cells #[.bool false] 4)).alloc (.cells #[.slice A xs.length c] 189)
  have b2 := (Bk.new ((w.alloc (.cells #[(.func (.func 170) #[] #[.pointer (some ⟨pa, 0, none⟩)])] 215)).alloc (.cells #[.int .i64 0, .int .i64 0] 94)) #[.bool false] 4).alloc (.cells #[.slice A xs.length c] 189)
  have b3 := Bk.new (((w.alloc (.cells #[(.func (.func 170) #[] #[.pointer (some ⟨pa, 0, none⟩)])] 215)).alloc (.cells #[.int .i64 0, .int .i64 0] 94)).alloc (.cells #[.bool false] 4)) #[.slice A xs.length c] 189
  have hB0 : Below w.heap.size w ((((w.alloc (.cells #[(.func (.func 170) #[] #[.pointer (some ⟨pa, 0, none⟩)])] 215)).alloc (.cells #[.int .i64 0, .int .i64 0] 94)).alloc (.cells #[.bool false] 4)).alloc (.cells #[.slice A xs.length c] 189)) :=
    ((((Below.refl _ w).alloc (Nat.le_refl _) _).alloc (by simp) _).alloc (by simp; omega) _).alloc (by simp; omega) _
  have hsz : ((((w.alloc (.cells #[(.func (.func 170) #[] #[.pointer (some ⟨pa, 0, none⟩)])] 215)).alloc (.cells #[.int .i64 0, .int .i64 0] 94)).alloc (.cells #[.bool false] 4)).alloc (.cells #[.slice A xs.length c] 189)).heap.size = w.heap.size + 4 := by simp
  simp only [World.size_alloc] at b1 b2 b3
  obtain ⟨W0, hW0⟩ : ∃ W0, ((((w.alloc (.cells #[(.func (.func 170) #[] #[.pointer (some ⟨pa, 0, none⟩)])] 215)).alloc (.cells #[.int .i64 0, .int .i64 0] 94)).alloc (.cells #[.bool false] 4)).alloc (.cells #[.slice A xs.length c] 189)) = W0 := ⟨_, rfl⟩
  rw [hW0] at b0 b1 b2 b3 hB0 hsz ⊢
  clear hW0
  have hR0 := h.below hB0
  have hpa0 := (hB0.cell (p := ⟨pa, 0, none⟩) hp).trans hpa
  obtain ⟨c3, -⟩ := b3.at_ 0 (x := .slice A xs.length c) rfl
  have hlow : ∀ b o c', Value.slice A xs.length c = .slice (some ⟨b, o, none⟩) xs.length c' → 0 < xs.length → b < W0.heap.size := by
    intro b o c' e hl
    obtain ⟨A', c'', e', -, -, -, hr⟩ := hR0
    obtain ⟨b', o', e2, hb, -⟩ := hr hl
    injection e with e1
    injection e' with e3
    rw [← e3, e1] at e2
    injection e2 with e2
    injection e2 with e2
    rw [e2]
    exact hb
  have hX : ∀ k, backAt xs k = backAt xs k := fun _ => rfl
  refine wpIn_rangeFunc_ownH (α := Int × P2) (N := xs.length) (w0 := W0) rfl (by omega) (gf := 174) (lb := #[.pointer (some ⟨w.heap.size + 1 + 1 + 1, 0, none⟩)]) rfl trivial (enters_of Try.func174 (by kernel_rfl) rfl)
    (encs := fun z : Int × P2 => #[Value.int .i64 z.1, Value.agg #[Value.int .i64 z.2.a, Value.int .i64 z.2.b]]) (Kp := Below W0.heap.size) (S := fun ys => ys = back xs xs.length) (Sp := fun pre => ∃ k, k ≤ xs.length ∧ pre = back xs k)
    (fun l J Jx W hW _ _ hY h0 => backward1_in 5 (by omega) l (w.heap.size + 1 + 1 + 1) W0.heap.size _ xs J Jx hY W ((hW.cell (p := ⟨w.heap.size + 1 + 1 + 1, 0, none⟩) (by show w.heap.size + 1 + 1 + 1 < _; omega)).trans c3) (by omega) (hR0.below hW) hlow h0)
    belowK_t (belowK_b (Nat.le_refl _)) (Below.refl _ _) (fun _ => rfl)
    (fun pre W => (∀ y ∈ pre, y.2.a ≠ a) ∧ Below W0.heap.size W0 W)
    (fun c pre W => (c = .ret ∧ ∃ p z, pre = p ++ [z] ∧ (∀ y ∈ p, y.2.a ≠ a) ∧ z.2.a = a ∧ Bk W (w.heap.size + 1) #[.int .i64 z.2.a, .int .i64 z.2.b] 94 ∧ Bk W (w.heap.size + 1 + 1) #[.bool true] 4) ∧ Below w.heap.size w W)
    (OwnFrom.and (fun s X Y row hs hg hr => hs) (ownFrom_below (Nat.le_refl _) (Nat.le_refl _)))
    (fun c => OwnFrom.and (fun s X Y row hs hg hr => by
      obtain ⟨e, p, z, h1, h2, h3, k1, k2⟩ := hs
      exact ⟨e, p, z, h1, h2, h3, bk_own _ _ _ () X Y row k1 hg (fun r e => (hr r e).2), bk_own _ _ _ () X Y row k2 hg (fun r e => (hr r e).2)⟩) (ownFrom_below (Nat.le_refl _) (by omega)))
    ⟨by simp, Below.refl _ _⟩
    (fun z a' W => ∃ Bx, W0.heap.size ≤ Bx ∧ Bk W Bx #[.int .i64 z.2.a, .int .i64 z.2.b] 94 ∧ a' = { tmps := #[.slice A xs.length c, (.func (.func 170) #[] #[.pointer (some ⟨pa, 0, none⟩)]), undef, .pointer (some ⟨w.heap.size, 0, none⟩), .pointer (some ⟨w.heap.size + 1, 0, none⟩), .pointer (some ⟨w.heap.size + 1 + 1, 0, none⟩), undef, .pointer (some ⟨Bx, 0, none⟩), undef, .slice A xs.length c, .func (.func 174) #[] #[.pointer (some ⟨w.heap.size + 1 + 1 + 1, 0, none⟩)], .int .i64 z.1, .agg #[.int .i64 z.2.a, .int .i64 z.2.b], undef, undef, undef, undef, undef], defers := [] })
    (fun z a' _ X Y row hs hg hr => by obtain ⟨Bx, h1, h2, h3⟩ := hs; exact ⟨Bx, h1, bk_own _ _ _ () X Y row h2 hg (fun r e => (hr r e).2), h3⟩)
    ?assign ?body ?done ?stop
  case assign =>
    rintro l pre z W K ⟨hp1, hB1⟩ hK
    obtain ⟨zi, ⟨za, zb⟩⟩ := z
    gi_wp2
    exact hK _ _ ((KeepsOthers.alloc _ _).from _) ((Below.refl _ W).alloc hB1.size _) ⟨hp1, hB1.alloc hB1.size _⟩ ⟨W.heap.size, hB1.size, Bk.new W _ _, rfl⟩
  case body =>
    rintro l pre z a' W hl ⟨r, hr⟩ ⟨hp1, hB1⟩ ⟨Bx, hBx, bX, rfl⟩ hlt
    obtain ⟨zi, ⟨za, zb⟩⟩ := z
    obtain ⟨cf, -⟩ := (b0.below hB1 b0.lt).at_ 0 (x := (.func (.func 170) #[] #[.pointer (some ⟨pa, 0, none⟩)])) rfl
    obtain ⟨cx0, -⟩ := bX.at_ 0 (x := .int .i64 za) rfl
    obtain ⟨cx1, -⟩ := bX.at_ 1 (x := .int .i64 zb) rfl
    have hpaW := (hB1.cell (p := ⟨pa, 0, none⟩) (by show pa < _; omega)).trans hpa0
    have hpW : pa < W.heap.size := by have := hB1.size; omega
    have b1W := b1.below hB1 b1.lt
    have b2W := b2.below hB1 b2.lt
    have hsW := hB1.size
    gi_wp2_with (refine ⟨trivial, ?_⟩; gi_at_call 170; refine (CallsIn.inRound l (callsIn_wide.2 (lit_matches ⟨za, zb⟩ pa a _ hpaW hpW))).mono ?_; rintro e w5 ⟨rfl, hb5⟩; have bX5 := bX.below hb5 bX.lt; have b15 := b1W.below hb5 b1W.lt; have b25 := b2W.below hb5 b2W.lt; obtain ⟨d0, -⟩ := bX5.at_ 0 (x := .int .i64 za) rfl; obtain ⟨d1, -⟩ := bX5.at_ 1 (x := .int .i64 zb) rfl; obtain ⟨e0, f0⟩ := b15.at_ 0 (x := .int .i64 0) rfl; obtain ⟨e1, f1⟩ := b15.at_ 1 (x := .int .i64 0) rfl; obtain ⟨e2, f2⟩ := b25.at_ 0 (x := .bool false) rfl)
    · rename_i hq
      have hza : za = a := by simpa using hq
      refine ⟨(keepsFrom_below hb5).trans (((KeepsOthers.setCell _ _ _).from _).trans (((KeepsOthers.setCell _ _ _).from _).trans ((KeepsOthers.setCell _ _ _).from _))), ⟨rfl, pre, (zi, ⟨za, zb⟩), rfl, hp1, hza, ?_, ?_⟩, ?_⟩
      · have := ((b15.set_ 0 (.int .i64 za)).set_ 1 (.int .i64 zb)).far (p := ⟨w.heap.size + 1 + 1, 0, none⟩) (by show w.heap.size + 1 ≠ w.heap.size + 1 + 1; omega) (.bool true)
        simpa using this
      · have := ((b25.far (p := ⟨w.heap.size + 1, 0, none⟩) (by show w.heap.size + 1 + 1 ≠ _; simp) (.int .i64 za)).far (p := ⟨w.heap.size + 1, 1, none⟩) (by show w.heap.size + 1 + 1 ≠ _; simp) (.int .i64 zb)).set_ 0 (.bool true)
        simpa using this
      · have hBw := hB0.trans (hB1.mono hB0.size)
        exact (((hBw.trans (hb5.mono hBw.size)).setCell (p := ⟨w.heap.size + 1, 0, none⟩) (by show w.heap.size ≤ w.heap.size + 1; omega) _).setCell (p := ⟨w.heap.size + 1, 1, none⟩) (by show w.heap.size ≤ w.heap.size + 1; omega) _).setCell (p := ⟨w.heap.size + 1 + 1, 0, none⟩) (by show w.heap.size ≤ w.heap.size + 1 + 1; omega) _
    · rename_i hq
      have hza : za ≠ a := by simpa using hq
      refine ⟨keepsFrom_below hb5, hb5.mono hsW, fun y hy => (List.mem_append.1 hy).elim (hp1 y) (fun e => by simp at e; subst e; exact hza), hB1.trans (hb5.mono hsW)⟩
  case done =>
    rintro D ys W hD rfl ⟨hne, hB1⟩ hK
    have b1W := b1.below hB1 b1.lt
    have b2W := b2.below hB1 b2.lt
    have b1A := b1W.alloc (.cells #[.int .i64 0, .int .i64 0] 94)
    have b2A := b2W.alloc (.cells #[.int .i64 0, .int .i64 0] 94)
    obtain ⟨e0, f0⟩ := b1A.at_ 0 (x := .int .i64 0) rfl
    obtain ⟨e1, f1⟩ := b1A.at_ 1 (x := .int .i64 0) rfl
    obtain ⟨e2, f2⟩ := b2A.at_ 0 (x := .bool false) rfl
    have HN : Hid (newR xs a = (⟨0, 0⟩, false)) := Lib.hid (by unfold newR; rw [newest_none hne])
    clear hne
    gi_wp2
    have hKA := ((KeepsOthers.alloc W (.cells #[.int .i64 0, .int .i64 0] 94)).trans ((KeepsOthers.setCell _ ⟨w.heap.size + 1, 0, none⟩ (.int .i64 0)).trans ((KeepsOthers.setCell _ ⟨w.heap.size + 1, 1, none⟩ (.int .i64 0)).trans (KeepsOthers.setCell _ ⟨w.heap.size + 1 + 1, 0, none⟩ (.bool false))))).same D _ hK rfl
    refine ⟨by simp, .inl ⟨_, _, rfl, run_takeDeferred hKA, ?_⟩⟩
    have q1 := ((b1A.set_ 0 (.int .i64 0)).set_ 1 (.int .i64 0)).far (p := ⟨w.heap.size + 1 + 1, 0, none⟩) (by show w.heap.size + 1 ≠ w.heap.size + 1 + 1; omega) (.bool false)
    have q2 := ((b2A.far (p := ⟨w.heap.size + 1, 0, none⟩) (by show w.heap.size + 1 + 1 ≠ w.heap.size + 1; omega) (.int .i64 0)).far (p := ⟨w.heap.size + 1, 1, none⟩) (by show w.heap.size + 1 + 1 ≠ w.heap.size + 1; omega) (.int .i64 0)).set_ 0 (.bool false)
    have r1 := bk_own _ _ _ () _ _ _ q1 (grownBy_putObj' _ D (.deferred none)) (fun r e => by cases e; exact ⟨_, hKA, rfl⟩)
    have r2 := bk_own _ _ _ () _ _ _ q2 (grownBy_putObj' _ D (.deferred none)) (fun r e => by cases e; exact ⟨_, hKA, rfl⟩)
    obtain ⟨s0, -⟩ := r1.at_ 0 (x := .int .i64 0) rfl
    obtain ⟨s1, -⟩ := r1.at_ 1 (x := .int .i64 0) rfl
    obtain ⟨s2, -⟩ := r2.at_ 0 (x := .bool false) rfl
    have hBw := hB0.trans (hB1.mono hB0.size)
    have hBA := (((hBw.alloc hBw.size (.cells #[.int .i64 0, .int .i64 0] 94)).setCell (p := ⟨w.heap.size + 1, 0, none⟩) (by show w.heap.size ≤ w.heap.size + 1; omega) (.int .i64 0)).setCell (p := ⟨w.heap.size + 1, 1, none⟩) (by show w.heap.size ≤ w.heap.size + 1; omega) (.int .i64 0)).setCell (p := ⟨w.heap.size + 1 + 1, 0, none⟩) (by show w.heap.size ≤ w.heap.size + 1 + 1; omega) (.bool false)
    refine ⟨.tuple #[.agg #[.int .i64 0, .int .i64 0], .bool false], ?_, by rw [HN.out], hBA.trans (belowK_b (w := w) (Nat.le_refl _) _ D _ _ (by omega) hKA rfl rfl)⟩
    simp [results, Try.results169, go_sem, s0, s1, s2]
  case stop =>
    rintro D c pre W hD ⟨k, hk, rfl⟩ ⟨⟨rfl, p, z, e, h1, h2, k1, k2⟩, hB1⟩ hK
    have HN : Hid (newR xs a = (z.2, true)) := Lib.hid (by unfold newR; rw [newest_some hk e h1 h2])
    obtain ⟨e0, f0⟩ := k1.at_ 0 (x := .int .i64 z.2.a) rfl
    obtain ⟨e1, f1⟩ := k1.at_ 1 (x := .int .i64 z.2.b) rfl
    obtain ⟨e2, f2⟩ := k2.at_ 0 (x := .bool true) rfl
    gi_wp2
    refine ⟨by simp, .inl ⟨_, _, rfl, run_takeDeferred hK, ?_⟩⟩
    have r1 := bk_own _ _ _ () _ _ _ k1 (grownBy_putObj' _ D (.deferred none)) (fun r e => by cases e; exact ⟨_, hK, rfl⟩)
    have r2 := bk_own _ _ _ () _ _ _ k2 (grownBy_putObj' _ D (.deferred none)) (fun r e => by cases e; exact ⟨_, hK, rfl⟩)
    obtain ⟨s0, -⟩ := r1.at_ 0 (x := .int .i64 z.2.a) rfl
    obtain ⟨s1, -⟩ := r1.at_ 1 (x := .int .i64 z.2.b) rfl
    obtain ⟨s2, -⟩ := r2.at_ 0 (x := .bool true) rfl
    refine ⟨.tuple #[.agg #[.int .i64 z.2.a, .int .i64 z.2.b], .bool true], ?_, by rw [HN.out], hB1.trans (belowK_b (w := w) (Nat.le_refl _) _ D _ _ (by omega) hK rfl rfl)⟩
    simp [results, Try.results169, go_sem, s0, s1, s2]
end
end Go.Proofs.Ytiflooopfpcelaa
