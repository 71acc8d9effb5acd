/- Contracts of atomic counters and of impl's counted bench: making it, reading a count; CountOf and ZeroLeft of package impl. Conditions: the bench's rows can be read; it is valid, or its numbers have 64 bits; lengths that a law bounds. -/
import Derived.Test.YtiamkgkhamnaeaaVC
import Derived.Laws.LoneSync
namespace Go.Proofs.Ytiamkgkhamnaeaa
set_option maxRecDepth 20000
set_option linter.unusedSimpArgs false
set_option linter.unusedVariables false
open Go.ChangeShapes Go.WideShapes Go.ChangeAt Go.RowKit
set_option linter.unusedVariables false
theorem ok_BnR {B : Bn} (h : bnOk B = true) : BnR B := by
  have := held_range h
  intro x hx
  have := this.1 x hx
  simp only [Lit.wf, Bool.and_eq_true, decide_eq_true_eq]
  exact ⟨by simp [IntKind.min, IntKind.signed, IntKind.bits]; omega, by simp [IntKind.max, IntKind.signed, IntKind.bits]; omega⟩
theorem ok_sz {B : Bn} (h : bnOk B = true) : szBn B ≤ 480 := by
  have h1 := bnOk_small (bnOk_iff.1 h)
  have h2 := bnOk_held (bnOk_iff.1 h)
  unfold szBn
  omega
/-- the cells of a counted bench -/
def cdA (a b c d : Value) (n : Int) (R : List Int) : Array Value := (a :: b :: c :: d :: .int .i64 n :: ints R).toArray
theorem cdA_ref {a b c d : Value} {n : Int} {R : List Int} {k : Nat} {x : Int} (h : R[k]? = some x) : (cdA a b c d n R)[5 + k]? = some (.int .i64 x) := by
  simp [cdA, ints, h, Nat.add_comm 5 k]
theorem cdA_set {a b c d : Value} {n : Int} {R : List Int} {k : Nat} {x : Int} : (cdA a b c d n R).setIfInBounds (5 + k) (.int .i64 x) = cdA a b c d n (R.set k x) := by
  simp [cdA, ints, Nat.add_comm 5 k, List.map_set]
theorem cdA_set5 {a b c d a' b' c' d' : Value} {n n' : Int} {R : List Int} : (((((cdA a b c d n R).setIfInBounds 0 a').setIfInBounds 1 b').setIfInBounds 2 c').setIfInBounds 3 d').setIfInBounds 4 (.int .i64 n') = cdA a' b' c' d' n' R := by
  simp [cdA]
theorem cdA_five {w : World} {g : Nat} {t : TypeId} {a b c d : Value} {n : Int} {R : List Int} (h : Bk w g (cdA a b c d n R) t) :
    (w.cell? ⟨g, 0, none⟩ = some a ∧ w.cell? ⟨g, 1, none⟩ = some b ∧ w.cell? ⟨g, 2, none⟩ = some c ∧ w.cell? ⟨g, 3, none⟩ = some d ∧ w.cell? ⟨g, 4, none⟩ = some (.int .i64 n)) ∧
    (w.frozen? ⟨g, 0, none⟩ = false ∧ w.frozen? ⟨g, 1, none⟩ = false ∧ w.frozen? ⟨g, 2, none⟩ = false ∧ w.frozen? ⟨g, 3, none⟩ = false ∧ w.frozen? ⟨g, 4, none⟩ = false) :=
  ⟨⟨(h.at_ 0 rfl).1, (h.at_ 1 rfl).1, (h.at_ 2 rfl).1, (h.at_ 3 rfl).1, (h.at_ 4 rfl).1⟩, (h.at_ 0 rfl).2, (h.at_ 1 rfl).2, (h.at_ 2 rfl).2, (h.at_ 3 rfl).2, (h.at_ 4 rfl).2⟩
theorem zero_cd : Try.zeroCells85 = cdA (.slice none 0 0) (.slice none 0 0) (.slice none 0 0) (.slice none 0 0) 0 (refsOf fun _ => 0) := by kernel_rfl
theorem five {w : World} {g : Nat} {t : TypeId} {a b c d e : Value} (h : Bk w g #[a, b, c, d, e] t) :
    (w.cell? ⟨g, 0, none⟩ = some a ∧ w.cell? ⟨g, 1, none⟩ = some b ∧ w.cell? ⟨g, 2, none⟩ = some c ∧ w.cell? ⟨g, 3, none⟩ = some d ∧ w.cell? ⟨g, 4, none⟩ = some e) ∧
    (w.frozen? ⟨g, 0, none⟩ = false ∧ w.frozen? ⟨g, 1, none⟩ = false ∧ w.frozen? ⟨g, 2, none⟩ = false ∧ w.frozen? ⟨g, 3, none⟩ = false ∧ w.frozen? ⟨g, 4, none⟩ = false) :=
  ⟨⟨(h.at_ 0 rfl).1, (h.at_ 1 rfl).1, (h.at_ 2 rfl).1, (h.at_ 3 rfl).1, (h.at_ 4 rfl).1⟩, (h.at_ 0 rfl).2, (h.at_ 1 rfl).2, (h.at_ 2 rfl).2, (h.at_ 3 rfl).2, (h.at_ 4 rfl).2⟩
theorem owns_neC {w : World} {base size n b : Nat} {e t : TypeId} {v : Value} {xs : List Value} {cs : Array Value} (h : w.ownsRow base e size v n xs) (k : Bk w b cs t) (he : e ≠ t) : ∀ q, v.ownBlock = some q → b ≠ q := by
  intro q hq hh
  subst hh
  rcases h.2 with ⟨rfl, _⟩ | ⟨g, cap, cur, rfl, e2, e3, e4⟩
  · cases hq
  · simp only [Value.ownBlock, Option.some.injEq] at hq
    subst hq
    unfold Bk at k
    rw [e3] at k
    simp only [Option.some.injEq, Obj.cells.injEq] at k
    exact he k.2.1
/-- a counted bench at block g, its rows above lo -/
def CdR (w : World) (g lo : Nat) (B : Bn) (R : List Int) : Prop := ∃ a b c d bs, Bk w g (cdA a b c d B.n R) 85 ∧ OwnBn w a b c d B bs ∧ ∀ x ∈ bs, lo ≤ x ∧ x ≠ g
def Cd (w : World) (g lo : Nat) (B : Bn) : Prop := CdR w g lo B (refsF B)
theorem CdR.below {w w' : World} {g lo : Nat} {B : Bn} {R : List Int} (h : CdR w g lo B R) (hb : Below w.heap.size w w') : CdR w' g lo B R := by
  obtain ⟨a, b, c, d, bs, h1, h2, h3⟩ := h
  exact ⟨a, b, c, d, bs, h1.below hb h1.lt, h2.below hb, h3⟩
theorem CdR.lt {w : World} {g lo : Nat} {B : Bn} {R : List Int} (h : CdR w g lo B R) : g < w.heap.size := by
  obtain ⟨a, b, c, d, bs, h1, h2, h3⟩ := h
  exact h1.lt
theorem atomic_add (g o : Nat) (x y : Int) (w : World) (hc : w.cell? ⟨g, o, none⟩ = some (.int .i64 x)) (hf : w.frozen? ⟨g, o, none⟩ = false) (h1 : -1000 ≤ x) (h2 : x ≤ 1000) (h3 : -1000 ≤ y) (h4 : y ≤ 1000) :
    Calls Try.prog 99 #[.pointer (some ⟨g, o, none⟩), .int .i64 y] w fun e w' => e = .returned (.int .i64 (x + y)) ∧ w' = w.setCell ⟨g, o, none⟩ (.int .i64 (x + y)) := by
  have hadd := run_call_add (P := Try.prog) Try.func115 (by kernel_rfl) (by kernel_rfl) (by kernel_rfl) .i64 (by kernel_rfl) (x := x) (y := y) (s := x + y) hc hf (by show (pure (Value.int .i64 (IntKind.i64.wrap (x + y))) : Sem Value).run _ _ = _; rw [IntWalk.i64_in _ (by omega)]; rfl)
  go_enter Try.func99, Try.ntmps99
  go_wp2
  go_ret
  exact ⟨rfl, rfl⟩
theorem atomic_load (g o : Nat) (x : Int) (w : World) (hc : w.cell? ⟨g, o, none⟩ = some (.int .i64 x)) :
    Calls Try.prog 105 #[.pointer (some ⟨g, o, none⟩)] w fun e w' => e = .returned (.int .i64 x) ∧ w = w' := by
  have hld := run_call_load (P := Try.prog) Try.func117 (by kernel_rfl) (by kernel_rfl) (by kernel_rfl) .i64 (by kernel_rfl) (x := x) hc
  go_enter Try.func105, Try.ntmps105
  go_wp2
  go_ret
  exact ⟨rfl, rfl⟩
theorem impl_count (g : Nat) (a b c d : Value) (m : Int) (B : Bn) (x : Nat) (hx : x < 61) (w : World) (h1 : Bk w g (cdA a b c d m (refsF B)) 85) :
    Calls Try.prog 69 #[.pointer (some ⟨g, 0, none⟩), .int .i64 x] w fun e w' => e = .returned (.int .i64 (cntR B x)) ∧ w = w' := by
  obtain ⟨hr, -⟩ := h1.at_ (5 + x) (cdA_ref (refsOf_at _ hx))
  go_enter Try.func69, Try.ntmps69
  go_wp2_with (go_at_call 105; refine (atomic_load _ _ _ _ hr).mono ?_; rintro e w1 ⟨rfl, rfl⟩)
  go_ret
  exact ⟨rfl, rfl⟩
/-! counts of the first k -/
def lN (B : Bn) (k i : Nat) : Int := (((B.l.take k).filter fun y => y == (i : Int)).length : Int)
def hN (B : Bn) (k i : Nat) : Int := (linkN B i : Int) + (((B.h.take k).filter fun e => e.b == (i : Int)).length : Int)
theorem lN_zero (B : Bn) : lN B 0 = fun _ => 0 := by funext i; simp [lN]
theorem lN_all (B : Bn) : lN B B.l.length = hN B 0 := by funext i; simp [lN, hN, linkN]
theorem hN_all (B : Bn) : hN B B.h.length = fun i : Nat => cntR B i := by funext i; simp [hN, cntR, holdN]
theorem lN_le (B : Bn) (k i : Nat) : 0 ≤ lN B k i ∧ lN B k i ≤ B.l.length := by
  have := List.length_filter_le (fun y => y == (i : Int)) (B.l.take k)
  rw [List.length_take] at this
  unfold lN
  omega
theorem hN_le (B : Bn) (k i : Nat) : 0 ≤ hN B k i ∧ hN B k i ≤ B.l.length + B.h.length := by
  have := List.length_filter_le (fun e : P2 => e.b == (i : Int)) (B.h.take k)
  have := List.length_filter_le (fun y => y == (i : Int)) B.l
  rw [List.length_take] at *
  unfold hN linkN
  omega
theorem lN_step {B : Bn} {k n : Nat} (h : B.l[k]? = some (n : Int)) (i : Nat) : lN B (k + 1) i = if i = n then lN B (k + 1) n else lN B k i := by
  unfold lN
  rw [List.take_add_one, h]
  split
  · rename_i e; rw [e]
  · rename_i e
    rw [Option.toList_some, List.filter_append, List.length_append, List.filter_cons_of_neg (by simp; omega)]
    simp
theorem lN_one {B : Bn} {k n : Nat} (h : B.l[k]? = some (n : Int)) : lN B k n + 1 = lN B (k + 1) n := by
  unfold lN
  rw [List.take_add_one, h, Option.toList_some, List.filter_append, List.length_append, List.filter_cons_of_pos (by simp)]
  simp
theorem hN_step {B : Bn} {k n : Nat} {e : P2} (h : B.h[k]? = some e) (hn : e.b = n) (i : Nat) : hN B (k + 1) i = if i = n then hN B (k + 1) n else hN B k i := by
  unfold hN
  rw [List.take_add_one, h]
  split
  · rename_i e; rw [e]
  · rename_i e
    rw [Option.toList_some, List.filter_append, List.length_append, List.filter_cons_of_neg (by simp; omega)]
    simp
theorem hN_one {B : Bn} {k n : Nat} {e : P2} (h : B.h[k]? = some e) (hn : e.b = n) : hN B k n + 1 = hN B (k + 1) n := by
  unfold hN
  rw [List.take_add_one, h, Option.toList_some, List.filter_append, List.length_append, List.filter_cons_of_pos (by simp [hn])]
  simp
  omega
set_option maxHeartbeats 3200000 in
theorem impl_newCounted (a b c d : Value) (B : Bn) (w : World) (r : RdBn w a b c d B) (hok : bnOk B = true) :
    Calls Try.prog 60 #[.agg #[a, b, c, d, .int .i64 B.n]] w fun e w' => ∃ g, e = .returned (.pointer (some ⟨g, 0, none⟩)) ∧ Cd w' g w.heap.size B ∧ w.heap.size ≤ g ∧ Below w.heap.size w w' := by
  obtain ⟨A1, c1, A2, c2, A3, c3, A4, c4, ⟨rfl, rfl, rfl, rfl⟩, -, -⟩ := r.slices
  have hsz := ok_sz hok
  have hsm := bnOk_small (bnOk_iff.1 hok)
  have hsh := bnOk_held (bnOk_iff.1 hok)
  obtain ⟨W0, hW0⟩ : ∃ W0, W0 = w.alloc (.cells #[.slice A1 B.l.length c1, .slice A2 B.h.length c2, .slice A3 B.w.length c3, .slice A4 B.f.length c4, .int .i64 B.n] 31) := ⟨_, rfl⟩
  have hB0 := (Below.refl w.heap.size w).alloc (Nat.le_refl _) (.cells #[.slice A1 B.l.length c1, .slice A2 B.h.length c2, .slice A3 B.w.length c3, .slice A4 B.f.length c4, .int .i64 B.n] 31)
  have k0 := Bk.new w #[.slice A1 B.l.length c1, .slice A2 B.h.length c2, .slice A3 B.w.length c3, .slice A4 B.f.length c4, .int .i64 B.n] 31
  have hs0 : W0.heap.size = w.heap.size + 1 := by rw [hW0]; simp
  rw [← hW0] at hB0 k0
  have HC := Lib.hid (copyBenchT _ _ _ _ B W0 (r.below hB0) (by omega))
  have HR := Lib.hid (r.below hB0)
  have HW0 := Lib.hid hW0
  have HB0 := Lib.hid hB0
  have hz0 : w.heap.size + 1 ≤ W0.heap.size := by omega
  have HO := Lib.hid hok
  clear hW0 hs0 hB0 r hok
  go_enter Try.func60, Try.ntmps60
  go_upto_region 2 with (go_at_call 59; rw [← HW0.out]; refine HC.out.mono ?_; rintro e w1 ⟨u1, u2, u3, u4, rfl, hO, hb1⟩; obtain ⟨D1, d1, rfl⟩ := owns_form' hO.l; obtain ⟨D2, d2, rfl⟩ := owns_form' hO.h; obtain ⟨D3, d3, rfl⟩ := owns_form' hO.q; obtain ⟨D4, d4, rfl⟩ := owns_form' hO.f; have k1 := k0.below hb1 k0.lt; obtain ⟨⟨e0, e1, e2, e3, e4⟩, -⟩ := five k1)
  rw [zero_cd, cdA_set5]
  obtain ⟨W1, hW1⟩ : ∃ W1, W1 = w1.alloc (.cells (cdA (.slice D1 B.l.length d1) (.slice D2 B.h.length d2) (.slice D3 B.w.length d3) (.slice D4 B.f.length d4) B.n (refsOf fun _ => 0)) 85) := ⟨_, rfl⟩
  have hbA := hb1.alloc hb1.size (.cells (cdA (.slice D1 B.l.length d1) (.slice D2 B.h.length d2) (.slice D3 B.w.length d3) (.slice D4 B.f.length d4) B.n (refsOf fun _ => 0)) 85)
  have hOA : ∃ bs, OwnBn (w1.alloc (.cells (cdA (.slice D1 B.l.length d1) (.slice D2 B.h.length d2) (.slice D3 B.w.length d3) (.slice D4 B.f.length d4) B.n (refsOf fun _ => 0)) 85)) (.slice D1 B.l.length d1) (.slice D2 B.h.length d2) (.slice D3 B.w.length d3) (.slice D4 B.f.length d4) B bs ∧ (∀ x ∈ bs, W0.heap.size ≤ x) ∧ ∀ x ∈ bs, x < w1.heap.size := by
    obtain ⟨bs, h1, h2⟩ := hO.own
    exact ⟨bs, h1.below ((Below.refl _ _).alloc (Nat.le_refl _) _), h2, h1.lt⟩
  have kC := Bk.new w1 (cdA (.slice D1 B.l.length d1) (.slice D2 B.h.length d2) (.slice D3 B.w.length d3) (.slice D4 B.f.length d4) B.n (refsOf fun _ => 0)) 85
  rw [← hW1] at hbA hOA kC
  rw [← hW1]
  have hz1 := hb1.size
  have kA := k0.below hbA k0.lt
  have HRA := Lib.hid (HR.out.below hb1)
  have HX : Hid (Below w1.heap.size w1 W1) := Lib.hid (by rw [hW1]; exact (Below.refl _ _).alloc (Nat.le_refl _) _)
  have HBA := Lib.hid (HB0.out.trans (hbA.mono HB0.out.size))
  have hrng := held_range HO.out
  have HOA := Lib.hid hOA
  obtain ⟨⟨t0, t1, t2, t3, t4⟩, -⟩ := five kA
  have hzn : w.heap.size < w1.heap.size := by omega
  clear hW1 hbA hOA e0 e1 e2 e3 e4 k1 k0 hO hb1
  go_wp2_with fail
  go_loopw [15] (fun iv wr => ∃ k : Nat, k ≤ B.l.length ∧ iv = .int .i64 k ∧ Bk wr w1.heap.size (cdA (.slice D1 B.l.length d1) (.slice D2 B.h.length d2) (.slice D3 B.w.length d3) (.slice D4 B.f.length d4) B.n (refsOf (lN B k))) 85 ∧ Only [w1.heap.size] W1 wr) (fun iv _ => B.l.length - (intOf iv).toNat)
  case atStart => exact ⟨0, Nat.zero_le _, rfl, by rw [lN_zero]; exact kC, Only.refl _ _⟩
  case round =>
    obtain ⟨k, hk, rfl, kv, hon⟩ := hrel
    clear kC t0 t1 t2 t3 t4
    by_cases hlt : k < B.l.length
    · obtain ⟨A, cc, he, -, -, -, hr⟩ := HRA.out.l
      injection he with e1 e3 e2
      subst e1 e2
      clear e3
      obtain ⟨b, o, rfl, hb, hcell⟩ := hr (by omega)
      have hbr : Below w1.heap.size w1 wr := HX.out.trans (hon.below (B := w1.heap.size) HX.out.size (by simp))
      obtain ⟨y, hyk, hy⟩ := int_at (fun j u hu => (hbr.cell (p := ⟨b, o + j, none⟩) hb).trans (hcell j u hu)) hlt
      have hyr := hrng.1 y (by unfold allBn; exact List.mem_append.2 (.inl (List.mem_of_getElem? hyk.out)))
      obtain ⟨n, rfl⟩ : ∃ n : Nat, y = n := ⟨y.toNat, by omega⟩
      have hll := lN_le B k n
      have HST := Lib.hid (lN_step hyk.out)
      have HS1 := Lib.hid (lN_one hyk.out)
      obtain ⟨p0, pf0⟩ := kv.at_ (5 + n) (cdA_ref (refsOf_at _ (by omega)))
      have hkvl := kv.lt
      clear hcell hr
      go_wp2_with (go_at_call 99; (refine (atomic_add _ _ _ _ _ p0 pf0 (by omega) (by omega) (by omega) (by omega)).mono ?_; rintro e w2 ⟨rfl, rfl⟩))
      have k2 := kv.set_ (5 + n) (.int .i64 (lN B k n + 1))
      rw [cdA_set, HS1.out, refsOf_set (fun i _ => HST.out i)] at k2
      exact ⟨⟨k + 1, by omega, by go_num, by rw [HS1.out]; exact k2, hon.trans (Only.setCell _ _)⟩, by simp [intOf]; omega⟩
    · obtain rfl : k = B.l.length := by omega
      rw [lN_all] at kv
      have hbr : Below w1.heap.size w1 wr := HX.out.trans (hon.below (B := w1.heap.size) HX.out.size (by simp))
      have HBR := Lib.hid hbr
      obtain ⟨⟨t0, t1, t2, t3, t4⟩, -⟩ := five (kA.only hon (by simp; omega))
      clear hbr
      go_wp2_with fail
      clear t0 t1 t2 t3 t4
      have HON := Lib.hid hon
      go_loopw [29] (fun iv wz => ∃ k : Nat, k ≤ B.h.length ∧ iv = .int .i64 k ∧ Bk wz w1.heap.size (cdA (.slice D1 B.l.length d1) (.slice D2 B.h.length d2) (.slice D3 B.w.length d3) (.slice D4 B.f.length d4) B.n (refsOf (hN B k))) 85 ∧ Only [w1.heap.size] wr wz) (fun iv _ => B.h.length - (intOf iv).toNat)
      case atStart => exact ⟨0, Nat.zero_le _, rfl, kv, Only.refl _ _⟩
      case round =>
        obtain ⟨k, hk, rfl, kz, hoz⟩ := hrel
        clear kv
        have hbz : Below w1.heap.size w1 wr := HBR.out.trans (hoz.below (B := w1.heap.size) HBR.out.size (by simp))
        by_cases hlt : k < B.h.length
        · obtain ⟨A, cc, he, -, -, -, hr⟩ := HRA.out.h
          injection he with e1 e3 e2
          subst e1 e2
          clear e3
          obtain ⟨b, o, rfl, hb, hcell⟩ := hr (by omega)
          obtain ⟨e, hek, hx0, hx1⟩ := p2_at (fun j u hu => (hbz.cell (p := ⟨b, o + j, none⟩) hb).trans (hcell j u hu)) hlt
          have hyr := hrng.2 e (List.mem_of_getElem? hek.out)
          obtain ⟨ea, eb⟩ := e
          simp only at hx0 hx1 hyr
          obtain ⟨n, rfl⟩ : ∃ n : Nat, eb = n := ⟨eb.toNat, by omega⟩
          have hll := hN_le B k n
          have HST := Lib.hid (hN_step hek.out rfl)
          have HS1 := Lib.hid (hN_one hek.out rfl)
          have hkl := kz.lt
          have hnn : (n : Int) < 61 := by omega
          have hnz : (0 : Int) ≤ n := by omega
          clear hcell hr hyr
          go_upto_region 10 with (fail)
          have kzA := kz.alloc (.cells #[.int .i64 ea, .int .i64 n] 92)
          have hoA := hoz.trans (Only.of_below ((Below.refl wr.heap.size wr).alloc (Nat.le_refl _) (.cells #[.int .i64 ea, .int .i64 n] 92)) _)
          have qA := Bk.new wr #[.int .i64 ea, .int .i64 n] 92
          obtain ⟨WA, hWA⟩ : ∃ WA, WA = wr.alloc (.cells #[.int .i64 ea, .int .i64 n] 92) := ⟨_, rfl⟩
          rw [← hWA] at kzA hoA qA
          rw [← hWA]
          clear hWA
          have hqA := qA.lt
          have p1 := fun q : Past WA => Past.cell hqA (qA.at_ 1 (x := .int .i64 n) rfl).1 q
          refine wp_region_two 6 6 (fun w' => ∃ q : Past WA, w' = q.v) (fun _ => True) (by kernel_rfl) ?_
          obtain ⟨w0, hw0⟩ : ∃ w0, w0 = WA.drew := ⟨_, rfl⟩
          have T0 : Hid (Below WA.heap.size WA w0) := Lib.hid (by rw [hw0]; exact (Below.refl _ _).drew)
          rw [← hw0]
          clear hw0
          refine wpAnyX_pass (C := (fun w' => ∃ q : Past WA, w' = q.v)) (some false) [true, true, true, true, true, true] rfl (by kernel_rfl) (fun _ _ t _ _ h => by cases t <;> exact h) ⟨fun _ => ⟨⟨w0, T0.out⟩, rfl⟩, fun _ => trivial⟩ ?_
          simp only [keepOps]
          repeat (go_big_quiet_step (fail))
          refine wpQuiet_nil ?_
          clear p1
          refine wpAnyX_one 6 rfl (by kernel_rfl) (by kernel_rfl) ?_
          have kz0 := kzA.below T0.out kzA.lt
          have ho0 := hoA.trans (Only.of_below T0.out [w1.heap.size])
          obtain ⟨p0, pf0⟩ := kz0.at_ (5 + n) (cdA_ref (refsOf_at _ (by omega)))
          go_wp2_with (go_at_call 99; refine (atomic_add _ _ _ _ _ p0 pf0 (by omega) (by omega) (by omega) (by omega)).mono ?_; rintro e w2 ⟨rfl, rfl⟩)
          refine ⟨⟨fun h => absurd (show true = false from h) (by decide), fun _ => trivial⟩, ?_⟩
          refine wpAnyX_done (by kernel_rfl) ?_
          try dsimp only
          go_wp2_with fail
          have k2 := kz0.set_ (5 + n) (.int .i64 (hN B k n + 1))
          rw [cdA_set, HS1.out, refsOf_set (fun i _ => HST.out i)] at k2
          exact ⟨⟨k + 1, by omega, by go_num, by rw [HS1.out]; exact k2, ho0.trans (Only.setCell _ _)⟩, by simp [intOf]; omega⟩
        · obtain rfl : k = B.h.length := by omega
          rw [hN_all] at kz
          have HBZ := Lib.hid hbz
          clear hbz
          go_wp2_with fail
          go_ret
          obtain ⟨bs, hOw, hlo, hlt2⟩ := HOA.out
          have hwx : Only [w1.heap.size] W1 wr := HON.out.trans hoz
          have hne : ∀ x ∈ bs, x ≠ w1.heap.size := fun x hx => by have := hlt2 x hx; omega
          exact ⟨w1.heap.size, rfl, ⟨_, _, _, _, bs, kz, hOw.only hwx (fun x hx hm => hne x hx (by simpa using hm)), fun x hx => ⟨by have := hlo x hx; omega, hne x hx⟩⟩, by omega,
            HBA.out.trans (hwx.below (B := w.heap.size) HBA.out.size (by simp; omega))⟩
def countF (B : Bn) (x : Int) : Int := if bnOk B && crB B.n x then cntR B x else -1
set_option maxHeartbeats 800000 in
theorem impl_CountOf (a b c d : Value) (B : Bn) (x : Int) (w : World) (r : RdBn w a b c d B) (hw : BnR B) (hsz : szBn B ≤ 16777216) :
    Calls Try.prog 27 #[.agg #[a, b, c, d, .int .i64 B.n], .int .i64 x] w fun e w' => e = .returned (.int .i64 (countF B x)) ∧ Below w.heap.size w w' := by
  obtain ⟨A1, c1, A2, c2, A3, c3, A4, c4, ⟨rfl, rfl, rfl, rfl⟩, -, -⟩ := r.slices
  have hB0 := (Below.refl w.heap.size w).alloc (Nat.le_refl _) (.cells #[.slice A1 B.l.length c1, .slice A2 B.h.length c2, .slice A3 B.w.length c3, .slice A4 B.f.length c4, .int .i64 B.n] 31)
  have k0 := Bk.new w #[.slice A1 B.l.length c1, .slice A2 B.h.length c2, .slice A3 B.w.length c3, .slice A4 B.f.length c4, .int .i64 B.n] 31
  have hC := impl_BenchOk _ _ _ _ B _ (r.below hB0) hw hsz
  cases hok : bnOk B
  · rw [hok] at hC
    have HC := Lib.hid hC
    have HF : Hid (countF B x = -1) := Lib.hid (by simp [countF, hok])
    clear hC hok
    go_enter Try.func27, Try.ntmps27
    go_wp2_with (go_at_call 58; refine HC.out.mono ?_; rintro e w1 ⟨rfl, hb1⟩)
    go_ret
    exact ⟨ret_int HF.out.symm, hB0.trans (hb1.mono hB0.size)⟩
  · rw [hok] at hC
    have HC := Lib.hid hC
    have HR := Lib.hid r
    have HO := Lib.hid hok
    clear hC hok
    cases hcr : crB B.n x
    · have HF : Hid (countF B x = -1) := Lib.hid (by simp [countF, hcr])
      have HCR := Lib.hid hcr
      clear hcr
      go_enter Try.func27, Try.ntmps27
      go_wp2_with (first
        | (go_at_call 58; refine HC.out.mono ?_; rintro e w1 ⟨rfl, hb1⟩; obtain ⟨⟨e0, e1, e2, e3, e4⟩, -⟩ := five (k0.below hb1 k0.lt))
        | (go_at_call 68; refine (impl_created _ _ _ _ _ _ _ _ _ _ _ _ _ _ _).mono ?_; rw [HCR.out]; rintro e w2 ⟨rfl, hb2⟩))
      go_ret
      exact ⟨ret_int HF.out.symm, (hB0.trans (hb1.mono hB0.size)).trans (hb2.mono (hB0.trans (hb1.mono hB0.size)).size)⟩
    · have HF : Hid (countF B x = cntR B x) := Lib.hid (by simp [countF, HO.out, hcr])
      have hxr : 1 ≤ x ∧ x < 61 := by
        have := (bnOk_iff.1 HO.out).1
        unfold crB at hcr
        simp at hcr
        omega
      obtain ⟨n, rfl⟩ : ∃ n : Nat, x = n := ⟨x.toNat, by omega⟩
      have HCR := Lib.hid hcr
      have HXR := Lib.hid hxr
      clear hcr hxr
      go_enter Try.func27, Try.ntmps27
      go_wp2_with (first
        | (go_at_call 58; refine HC.out.mono ?_; rintro e w1 ⟨rfl, hb1⟩; have k1 := k0.below hb1 k0.lt; obtain ⟨⟨e0, e1, e2, e3, e4⟩, -⟩ := five k1)
        | (go_at_call 68; refine (impl_created _ _ _ _ _ _ _ _ _ _ _ _ _ _ _).mono ?_; rw [HCR.out]; rintro e w2 ⟨rfl, hb2⟩; have k2 := k1.below hb2 k1.lt; obtain ⟨⟨f0, f1, f2, f3, f4⟩, -⟩ := five k2; have hB2 := (hB0.trans (hb1.mono hB0.size)).trans (hb2.mono (hB0.trans (hb1.mono hB0.size)).size))
        | (go_at_call 60; refine (impl_newCounted _ _ _ _ B _ (HR.out.below hB2) HO.out).mono ?_; rintro e w3 ⟨g, rfl, hcd, hg, hb3⟩; obtain ⟨_, _, _, _, _, hcb, -, -⟩ := hcd)
        | (go_at_call 69; refine (impl_count _ _ _ _ _ _ B n (by have := HXR.out; omega) _ hcb).mono ?_; rintro e w4 ⟨rfl, rfl⟩))
      go_ret
      exact ⟨ret_int HF.out.symm, hB2.trans (hb3.mono hB2.size)⟩
def zeroF (B : Bn) : List Int := if bnOk B then B.w.filter fun x => cntR B x == 0 else []
set_option maxHeartbeats 1600000 in
theorem impl_ZeroLeft (a b c d : Value) (B : Bn) (w : World) (r : RdBn w a b c d B) (hw : BnR B) (hsz : szBn B ≤ 16777216) :
    Calls Try.prog 29 #[.agg #[a, b, c, d, .int .i64 B.n]] w (RetInts (zeroF B) w) := by
  obtain ⟨A1, c1, A2, c2, A3, c3, A4, c4, ⟨rfl, rfl, rfl, rfl⟩, -, -⟩ := r.slices
  obtain ⟨i, hi, hiz0, hiz1, hiz2⟩ := info_parts infoInt
  have hB0 := (Below.refl w.heap.size w).alloc (Nat.le_refl _) (.cells #[.slice A1 B.l.length c1, .slice A2 B.h.length c2, .slice A3 B.w.length c3, .slice A4 B.f.length c4, .int .i64 B.n] 31)
  have k0 := Bk.new w #[.slice A1 B.l.length c1, .slice A2 B.h.length c2, .slice A3 B.w.length c3, .slice A4 B.f.length c4, .int .i64 B.n] 31
  have hC := impl_BenchOk _ _ _ _ B _ (r.below hB0) hw hsz
  cases hok : bnOk B
  · rw [hok] at hC
    have HC := Lib.hid hC
    have HF : Hid (zeroF B = []) := Lib.hid (by simp [zeroF, hok])
    clear hC hok
    go_enter Try.func29, Try.ntmps29
    go_wp2_with (go_at_call 58; refine HC.out.mono ?_; rintro e w1 ⟨rfl, hb1⟩)
    go_ret
    exact ⟨_, [], rfl, by rw [HF.out]; exact Own.nil _ _, by simp, hB0.trans (hb1.mono hB0.size)⟩
  · rw [hok] at hC
    have HC := Lib.hid hC
    have HR := Lib.hid r
    have HO := Lib.hid hok
    have HF : Hid (zeroF B = B.w.filter fun x => cntR B x == 0) := Lib.hid (by simp [zeroF, hok])
    have hsm := bnOk_small (bnOk_iff.1 hok)
    clear hC hok r
    go_enter Try.func29, Try.ntmps29
    go_wp2_with (first
      | (go_at_call 58; refine HC.out.mono ?_; rintro e w1 ⟨rfl, hb1⟩; have k1 := k0.below hb1 k0.lt; obtain ⟨⟨e0, e1, e2, e3, e4⟩, -⟩ := five k1; have hB1 := hB0.trans (hb1.mono hB0.size))
      | (go_at_call 60; refine (impl_newCounted _ _ _ _ B _ (HR.out.below hB1) HO.out).mono ?_; rintro e w3 ⟨g, rfl, hcd, hg, hb3⟩; obtain ⟨x1, x2, x3, x4, _, hcb, -, -⟩ := hcd; have k3 := k1.below hb3 k1.lt; obtain ⟨⟨f0, f1, f2, f3, f4⟩, -⟩ := five k3))
    have hB3 := hB1.trans (hb3.mono hB1.size)
    clear hB1 hb1 hb3 k0 k1 k3 e0 e1 e2 e3 e4 f0 f1 f2 f3 f4
    go_loopw [4, 15] (fun v iv wr => ∃ k m : Nat, k ≤ B.w.length ∧ iv = .int .i64 k ∧ (wr.ownsRow w.heap.size 3 1 v m (ints ((B.w.take k).filter fun x => cntR B x == 0)) ∧ Below w.heap.size w wr) ∧ m ≤ k ∧ Bk wr g (cdA x1 x2 x3 x4 B.n (refsF B)) 85) (fun _ iv _ => B.w.length - (intOf iv).toNat)
    case atStart => exact ⟨0, 0, Nat.zero_le _, rfl, ⟨⟨rfl, .inl ⟨rfl, rfl⟩⟩, hB3⟩, Nat.le_refl _, hcb⟩
    case round =>
      obtain ⟨k, m, hk, rfl, ⟨hO, hB⟩, hm, kC⟩ := hrel
      clear hB3 hcb
      by_cases hlt : k < B.w.length
      · obtain ⟨A, cc, he, -, -, -, hr⟩ := HR.out.q
        injection he with e1 _ e2
        subst e1 e2
        obtain ⟨b, o, rfl, hb, hcell⟩ := hr (by omega)
        obtain ⟨y, hyk, hy⟩ := int_at (fun j u hu => (hB.cell (p := ⟨b, o + j, none⟩) hb).trans (hcell j u hu)) hlt
        have hyr := (held_range HO.out).1 y (by unfold allBn; have := List.mem_of_getElem? hyk.out; simp [this])
        obtain ⟨n, rfl⟩ : ∃ n : Nat, y = n := ⟨y.toNat, by omega⟩
        have HCT := Lib.hid (impl_count g _ _ _ _ _ B n (by omega) wr kC)
        have hne : ∀ q, u4.ownBlock = some q → g ≠ q := owns_neC hO kC (by decide)
        by_cases hz : cntR B n = 0
        · have HT : Hid ((B.w.take k).filter (fun x => cntR B x == 0) ++ [(n : Int)] = (B.w.take (k + 1)).filter fun x => cntR B x == 0) := Lib.hid (by rw [List.take_add_one, hyk.out, Option.toList_some, List.filter_append, List.filter_cons_of_pos (by simp [hz])]; rfl)
          rw [hz] at HCT
          clear hz hcell hr
          go_wp2_with (first
            | (go_at_call 69; refine HCT.out.mono ?_; rintro e w4 ⟨rfl, rfl⟩)
            | (at_builtin; refine wpList_append_own _ rfl _ _ 22 rfl w.heap.size 3 i (.int .i64 0) 1 8 Try.underlying22 hi hiz0 hiz1 hiz2 rfl (by decide) _ _ _ rfl (hO.alloc _) ⟨wr.heap.size, 0, none⟩ 1 1 [.int .i64 n] rfl rfl (new_cells _ _ _) (by simp [Value.oneCell']) (by unfold maxLen; omega) (by omega) (by have := hB.size; simp; omega) ?_; intro v' w2 hown' hgrow _))
          have hB' := (hB.alloc hB.size _).grown hgrow (by have := hB.size; simp; omega) (fun k hk => by have := (hO.lt k hk).1; omega)
          have kC' := (kC.alloc (.cells #[.int .i64 n] 3)).grown hgrow hne
          rw [show ints ((B.w.take k).filter fun x => cntR B x == 0) ++ [Value.int .i64 n] = ints ((B.w.take (k + 1)).filter fun x => cntR B x == 0) by rw [← HT.out]; simp [ints]] at hown'
          clear hgrow
          go_wp2_with fail
          exact ⟨⟨k + 1, m + 1, by omega, by go_num, ⟨hown', hB'⟩, by omega, kC'⟩, by simp [intOf]; omega⟩
        · have HT : Hid ((B.w.take (k + 1)).filter (fun x => cntR B x == 0) = (B.w.take k).filter fun x => cntR B x == 0) := Lib.hid (by rw [List.take_add_one, hyk.out, Option.toList_some, List.filter_append, List.filter_cons_of_neg (by simp [hz])]; simp)
          have hq : (cntR B n == 0) = false := by simp [hz]
          clear hz hcell hr
          go_wp2_with (go_at_call 69; refine HCT.out.mono ?_; rintro e w4 ⟨rfl, rfl⟩)
          exact ⟨⟨k + 1, m, by omega, by go_num, ⟨by rw [HT.out]; exact hO, hB⟩, by omega, kC⟩, by simp [intOf]; omega⟩
      · obtain rfl : k = B.w.length := by omega
        rw [List.take_length] at hO
        have HOO := Lib.hid hO
        have hm2 : m = (zeroF B).length := by have := hO.1; rw [HF.out]; simpa [ints] using this.symm
        go_wp2_with fail
        go_ret
        obtain ⟨bs, h1, h2⟩ := Own.of_owns HOO.out
        rw [hm2, ← HF.out] at h1
        exact ⟨_, bs, rfl, h1, h2, hB⟩
end Go.Proofs.Ytiamkgkhamnaeaa
