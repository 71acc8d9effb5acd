/- Contracts of the drawing helpers (package spec): a cursor over bytes; what a draw may give. Conditions: the bytes can be read. -/
import Derived.Test.YtiamkgkhamnaeaaSteps
import Derived.Test.YtiamkgkhamnaeaaInts
import Derived.Deep.DeepCutAuto
import Derived.ChangeSlices
import Derived.Deep.RegionLaw
import Derived.Deep.RegionHeld3
namespace Go.Proofs.Ytiamkgkhamnaeaa
set_option maxRecDepth 20000
set_option linter.unusedSimpArgs false
set_option linter.unusedVariables false
open Go.ChangeShapes Go.WideShapes Go.ChangeAt Go.RowKit
set_option linter.unusedVariables false
/-- the bytes behind a slice can be read -/
def Byt (w : World) (A : Option Addr) (n : Nat) : Prop :=
  0 < n → ∃ ad, A = some ad ∧ ad.block < w.heap.size ∧ ∀ j, j < n → ∃ x : Int, 0 ≤ x ∧ x ≤ 255 ∧ w.cell? (ad.add j) = some (.int .u8 x)
theorem Byt.keep {w w' : World} {A : Option Addr} {n B : Nat} (h : Byt w A n) (hB : ∀ ad, A = some ad → 0 < n → w'.heap[ad.block]? = w.heap[ad.block]?) (hs : w.heap.size ≤ w'.heap.size) : Byt w' A n := by
  intro hn
  obtain ⟨ad, rfl, hb, hc⟩ := h hn
  refine ⟨ad, rfl, by omega, fun j hj => ?_⟩
  obtain ⟨x, h0, h1, hx⟩ := hc j hj
  exact ⟨x, h0, h1, (World.cell?_of_block (a := ad.add j) (by rw [add_block]; exact hB ad rfl hn)).trans hx⟩
/-- block g is a cursor -/
def Cur (lo : Nat) (w : World) (g : Nat) : Prop :=
  ∃ (A : Option Addr) (n c : Nat) (i h : Int), Bk w g #[.slice A n c, .int .i64 i, .int .i64 h] 136 ∧ n ≤ c ∧ c ≤ 9223372036854775807 ∧ 0 ≤ i ∧ i ≤ n ∧ Byt w A n ∧ ∀ ad, A = some ad → 0 < n → ad.block < min lo g
theorem Cur.lt {w : World} {g : Nat} {lo : Nat} (h : Cur lo w g) : g < w.heap.size := by
  obtain ⟨A, n, c, i, h, hb, _⟩ := h
  exact hb.lt
theorem Cur.only {w w' : World} {g : Nat} {bs : List Nat} {lo : Nat} (h : Cur lo w g) (ho : Only bs w w') (hg : ∀ b ∈ bs, g < b) : Cur lo w' g := by
  obtain ⟨A, n, c, i, x, hb, h1, h2, h3, h4, h5, h6⟩ := h
  refine ⟨A, n, c, i, x, hb.only ho (fun hm => by have := hg _ hm; omega), h1, h2, h3, h4, h5.keep (B := 0) (fun ad ha hn => ?_) ho.size, h6⟩
  have := h6 ad ha hn
  have := hb.lt
  exact ho.block _ (by omega) (fun hm => by have := hg _ hm; omega)
theorem Cur.below {w w' : World} {g : Nat} {lo : Nat} (h : Cur lo w g) (hb : Below w.heap.size w w') : Cur lo w' g := h.only (Only.of_below hb []) (by simp)
theorem Cur.belowB {w w' : World} {g B : Nat} {lo : Nat} (h : Cur lo w g) (hb : Below B w w') (hg : g < B) : Cur lo w' g := by
  obtain ⟨A, n, c, i, x, hk, h1, h2, h3, h4, h5, h6⟩ := h
  exact ⟨A, n, c, i, x, hk.below hb hg, h1, h2, h3, h4, h5.keep (B := 0) (fun ad ha hn => hb.block _ (by have := h6 ad ha hn; omega)) hb.size, h6⟩
theorem Only.thenBelow {w w1 w2 : World} {bs : List Nat} {B : Nat} (h : Only bs w w1) (hb : Below B w1 w2) (hB : w.heap.size ≤ B) : Only bs w w2 :=
  ⟨hb.os.trans h.os, hb.tape.trans h.tape, hb.output.trans h.output, Nat.le_trans h.size hb.size, fun k hk hn => (hb.block k (by omega)).trans (h.block k hk hn)⟩
theorem and_255 (x : Int) : 0 ≤ bits .and .i64 x 255 ∧ bits .and .i64 x 255 ≤ 255 := by
  have h1 : (BitVec.ofInt 64 x &&& BitVec.ofInt 64 255).toNat ≤ 255 := by
    rw [BitVec.toNat_and]
    exact Nat.le_trans Nat.and_le_right (by decide)
  have e : bits .and .i64 x 255 = ((BitVec.ofInt 64 x &&& BitVec.ofInt 64 255).toNat : Int) := by
    show IntKind.i64.wrap ((BitVec.ofInt 64 x &&& BitVec.ofInt 64 255).toNat : Int) = _
    rw [IntKind.wrap_i64]
    omega
  rw [e]
  omega
-- 136
theorem read_bytes {H : Type} {enc : TypeId × Value → H} {P : Program} {w : World} {base : Nat} {r : Reach} {t e : TypeId} {v : Value} {d : DataW H} {p : List MemPlace} (ht : P.underlying t = some (.slice e)) (he : P.underlying e = some (.int .u8)) (hc : P.cellsOf e = 1)
    (hv : Value.okWide P w r base t v) (h : DataW.Trod enc P w 0 (fun _ => true) true t v d p) : ∃ (A : Option Addr) (n c : Nat), v = .slice A n c ∧ Byt w A n ∧ n ≤ c ∧ c ≤ 9223372036854775807 := by
  obtain ⟨a1, len, cap, rfl⟩ := okWide_slice ht hv
  obtain ⟨fuel, hf⟩ := h
  rcases open_ints ht he hc hf with ⟨hcs, _⟩ | ⟨a, len', cap', zs, hcs, _, hl, hm, hz, _, hcell, hw⟩
  · simp [Value.cells] at hcs
    obtain ⟨rfl, rfl, rfl⟩ := hcs
    exact ⟨none, 0, 0, rfl, fun h => absurd h (by omega), Nat.le_refl _, by omega⟩
  · simp [Value.cells] at hcs
    obtain ⟨rfl, rfl, rfl⟩ := hcs
    simp only [if_true] at hz
    refine ⟨_, _, _, rfl, fun hn => ⟨a, rfl, ?_, fun j hj => ?_⟩, hl, by simpa [maxLen] using hm⟩
    · have := block_lt_of_cell (hcell 0 (by omega))
      rwa [add_block] at this
    · have hj' : j < zs.length := by omega
      have hb := bounds_u8 (hw (zs[j]) (List.getElem_mem hj'))
      exact ⟨zs[j], hb.1, hb.2, by rw [hcell j hj']; simp [List.getD_eq_getElem?_getD, hj']⟩
/-- a draw's answer -/
def Drawn (lo g : Nat) (P : Int → Prop) (w : World) (e : Ending) (w' : World) : Prop := ∃ x : Int, P x ∧ e = .returned (.int .i64 x) ∧ Cur lo w' g ∧ Only [g] w w'
set_option maxHeartbeats 1000000 in
theorem l01Byte (g : Nat) (w : World) {lo : Nat} (h : Cur lo w g) : Calls Try.prog 111 #[.pointer (some ⟨g, 0, none⟩)] w (Drawn lo g (fun x => 0 ≤ x ∧ x ≤ 255) w) := by
  obtain ⟨A, n, c, i, x, hb, h1, h2, h3, h4, h5, h6⟩ := h
  obtain ⟨hc0, hf0⟩ := hb.at_ 0 (x := .slice A n c) rfl
  obtain ⟨hc1, hf1⟩ := hb.at_ 1 (x := .int .i64 i) rfl
  obtain ⟨hc2, hf2⟩ := hb.at_ 2 (x := .int .i64 x) rfl
  go_enter Try.func111, Try.ntmps111
  go_wp2_with fail
  generalize wrap64 (wrap64 (x * 6364136223846793005) + 1442695040888963407) = y
  have k1 : Bk (w.setCell ⟨g, 2, none⟩ (.int .i64 y)) g #[.slice A n c, .int .i64 i, .int .i64 y] 136 := hb.set_ 2 (.int .i64 y)
  have o1 : Only [g] w (w.setCell ⟨g, 2, none⟩ (.int .i64 y)) := Only.setCell w _
  have b1 : Byt (w.setCell ⟨g, 2, none⟩ (.int .i64 y)) A n := h5.keep (B := 0) (fun ad ha hn => o1.block _ (by have := h6 ad ha hn; have := hb.lt; omega) (by have := h6 ad ha hn; simp; omega)) o1.size
  generalize w.setCell ⟨g, 2, none⟩ (.int .i64 y) = w1 at k1 o1 b1 ⊢
  clear hc0 hf0 hc1 hf1 hc2 hf2 hb h5
  obtain ⟨hc0, hf0⟩ := k1.at_ 0 (x := .slice A n c) rfl
  obtain ⟨hc1, hf1⟩ := k1.at_ 1 (x := .int .i64 i) rfl
  obtain ⟨hc2, hf2⟩ := k1.at_ 2 (x := .int .i64 y) rfl
  go_quiet (fail)
  go_wp2_with fail
  obtain ⟨q0, q1⟩ := and_255 (bits BinOp.xor IntKind.i64 (y / 8589934592) (y / 35184372088832))
  generalize bits BinOp.and IntKind.i64 (bits BinOp.xor IntKind.i64 (y / 8589934592) (y / 35184372088832)) 255 = z at q0 q1 ⊢
  by_cases hin : i < n
  · have BB := Lib.hid b1
    obtain ⟨ad, rfl, hadb, hbyte⟩ := b1 (by omega)
    obtain ⟨k, rfl⟩ := Int.eq_ofNat_of_zero_le h3
    obtain ⟨u, u0, u1, hu⟩ := hbyte k (by omega)
    clear hbyte
    go_quiet (fail)
    go_wp2_with fail
    go_quiet (fail)
    obtain ⟨r0, r1⟩ := and_255 (z + u)
    go_wp2_with fail
    generalize bits BinOp.and IntKind.i64 (z + u) 255 = r at r0 r1 ⊢
    go_ret
    have o2 : ∀ W : World, W.heap = w1.heap → W.os = w1.os → W.tape = w1.tape → W.output = w1.output → Drawn lo g (fun x => 0 ≤ x ∧ x ≤ 255) w (.returned (.int .i64 r)) (W.setCell ⟨g, 1, none⟩ (.int .i64 ((k : Int) + 1))) := by
      intro W e1 e2 e3 e4
      have kW : Bk W g #[.slice (some ad) n c, .int .i64 k, .int .i64 y] 136 := by unfold Bk; rw [e1]; exact k1
      have oW : Only [g] w1 W := ⟨e2, e3, e4, by rw [e1]; exact Nat.le_refl _, fun _ _ _ => by rw [e1]⟩
      have oS : Only [g] W (W.setCell ⟨g, 1, none⟩ (.int .i64 ((k : Int) + 1))) := Only.setCell W _
      refine ⟨r, ⟨r0, r1⟩, rfl, ⟨some ad, n, c, k + 1, y, kW.set_ 1 _, h1, h2, by omega, by omega, ?_, h6⟩, (o1.trans oW).trans oS⟩
      have o12 := oW.trans oS
      exact BB.out.keep (B := 0) (fun ad' ha hn => o12.block _ (by have := h6 ad' ha hn; have := k1.lt; omega) (by have := h6 ad' ha hn; simp; omega)) o12.size
    exact o2 _ rfl rfl rfl rfl
  · go_quiet (fail)
    go_wp2_with fail
    go_ret
    exact ⟨z, ⟨q0, q1⟩, rfl, ⟨A, n, c, i, y, k1, h1, h2, h3, h4, b1, h6⟩, o1.trans ⟨rfl, rfl, rfl, Nat.le_refl _, fun _ _ _ => rfl⟩⟩
set_option maxHeartbeats 1000000 in
theorem l01Below (g : Nat) (n : Int) (w : World) {lo : Nat} (h : Cur lo w g) (hn : (Lit.int .i64 n).wf = true) :
    Calls Try.prog 73 #[.pointer (some ⟨g, 0, none⟩), .int .i64 n] w (Drawn lo g (fun x => 0 ≤ x ∧ (x < n ∨ x = 0)) w) := by
  have hn' := bounds_i64 hn
  by_cases h0 : n ≤ 0
  · go_enter Try.func73, Try.ntmps73
    go_wp2_with fail
    go_ret
    exact ⟨0, ⟨by omega, .inr rfl⟩, rfl, h, Only.refl _ _⟩
  · by_cases h1 : n ≤ 256
    · go_enter Try.func73, Try.ntmps73
      go_wp2_with fail
      refine (l01Byte g _ h).mono ?_
      rintro e w1 ⟨x, ⟨x0, x1⟩, rfl, hc, ho⟩
      go_wp2_with fail
      go_ret
      exact ⟨x % n, ⟨Int.emod_nonneg _ (by omega), .inl (Int.emod_lt_of_pos _ (by omega))⟩, rfl, hc, ho⟩
    · go_enter Try.func73, Try.ntmps73
      go_wp2_with fail
      refine (l01Byte g _ h).mono ?_
      rintro e w1 ⟨x, ⟨x0, x1⟩, rfl, hc1, ho1⟩
      go_wp2_with fail
      refine (l01Byte g _ hc1).mono ?_
      rintro e w2 ⟨y, ⟨y0, y1⟩, rfl, hc2, ho2⟩
      go_wp2_with fail
      refine (l01Byte g _ hc2).mono ?_
      rintro e w3 ⟨z, ⟨z0, z1⟩, rfl, hc3, ho3⟩
      go_wp2_with fail
      go_ret
      exact ⟨(x * 65536 + y * 256 + z) % n, ⟨Int.emod_nonneg _ (by omega), .inl (Int.emod_lt_of_pos _ (by omega))⟩, rfl, hc3, (ho1.trans ho2).trans ho3⟩
/-- a draw of yes or no -/
def DrawnB (lo g : Nat) (w : World) (e : Ending) (w' : World) : Prop := ∃ b : Bool, e = .returned (.bool b) ∧ Cur lo w' g ∧ Only [g] w w'
set_option maxHeartbeats 1000000 in
theorem l01Once (g : Nat) (n : Int) (w : World) {lo : Nat} (h : Cur lo w g) (hn : (Lit.int .i64 n).wf = true) :
    Calls Try.prog 109 #[.pointer (some ⟨g, 0, none⟩), .int .i64 n] w (DrawnB lo g w) := by
  go_enter Try.func109, Try.ntmps109
  go_wp2_with fail
  refine (l01Below g n _ h hn).mono ?_
  rintro e w1 ⟨x, ⟨x0, x1⟩, rfl, hc, ho⟩
  clear x1
  go_wp2_with fail
  all_goals (go_ret; exact ⟨_, rfl, hc, ho⟩)
set_option maxHeartbeats 1000000 in
theorem l01PickInt (g : Nat) (v : Value) (xs : List Int) (w : World) {lo : Nat} (h : Cur lo w g) (hr : Rd w v 1 xs.length (ints xs)) (hp : 0 < xs.length) (hg : ∀ A n c, v = .slice A n c → ∀ ad, A = some ad → ad.block ≠ g) :
    Calls Try.prog 72 #[.pointer (some ⟨g, 0, none⟩), v] w (Drawn lo g (fun x => x ∈ xs) w) := by
  obtain ⟨A, c, rfl, -, hnc, hc, hr'⟩ := hr
  unfold maxLen at hc
  obtain ⟨b, o, rfl, hb, hcell⟩ := hr' hp
  have hbg := hg _ _ _ rfl _ rfl
  go_enter Try.func72, Try.ntmps72
  go_wp2_with fail
  refine (l01Below g xs.length _ h (WalkArith.wf_i64 (by omega))).mono ?_
  rintro e w1 ⟨x, ⟨x0, x1⟩, rfl, hc1, ho⟩
  obtain ⟨k, rfl⟩ := Int.eq_ofNat_of_zero_le x0
  have hk : k < xs.length := by omega
  have hx1 : w1.cell? ⟨b, o + k, none⟩ = some (.int .i64 (xs.getD k 0)) :=
    (World.cell?_of_block (a := ⟨b, o + k, none⟩) (ho.block b hb (by simpa using hbg))).trans (hcell k _ (ints_at hk))
  obtain ⟨y, hy⟩ : ∃ y, y = xs.getD k 0 := ⟨_, rfl⟩
  rw [← hy] at hx1
  have HY := Lib.hid hy
  clear hy hcell hr' x1
  go_wp2_with fail
  go_ret
  exact ⟨y, by rw [HY.out, List.getD_eq_getElem?_getD, List.getElem?_eq_getElem hk]; simp, rfl, hc1, ho⟩
set_option maxHeartbeats 1000000 in
theorem l01New (A : Option Addr) (n c lo : Nat) (w : World) (h : Byt w A n) (hlo : ∀ ad, A = some ad → 0 < n → ad.block < lo) (hnc : n ≤ c) (hc : c ≤ 9223372036854775807) (hn : n ≤ 1048576) :
    Calls Try.prog 106 #[.slice A n c] w fun e w' => ∃ g, e = .returned (.pointer (some ⟨g, 0, none⟩)) ∧ Cur lo w' g ∧ w.heap.size ≤ g ∧ Below w.heap.size w w' := by
  go_enter Try.func106, Try.ntmps106
  go_wp2_with fail
  go_loop [3, 4] (fun hh i => ∃ (k : Nat) (x : Int), k ≤ n ∧ i = .int .i64 k ∧ hh = .int .i64 x) (fun _ i => n - (intOf i).toNat)
  case atStart => exact ⟨0, _, Nat.zero_le _, rfl, rfl⟩
  case round =>
    obtain ⟨k, x, hk, rfl, rfl⟩ := hrel
    have HLO := Lib.hid hlo
    have fin : ∀ y : Int, Cur lo (w.alloc (.cells #[.slice A n c, .int .i64 0, .int .i64 y] 136)) w.heap.size := fun y =>
      ⟨A, n, c, 0, y, Bk.new w _ _, hnc, hc, by omega, by omega, h.keep (B := 0) (fun ad ha hn => by obtain ⟨ad', e1, e2, _⟩ := h hn; rw [ha] at e1; injection e1 with e1; subst e1; exact Below.heap_alloc w _ _ e2) (by simp),
        fun ad ha hn => by obtain ⟨ad', e1, e2, _⟩ := h hn; rw [ha] at e1; injection e1 with e1; subst e1; have := HLO.out _ ha hn; omega⟩
    by_cases hlt : k < n
    · by_cases h4 : (k : Int) < 4000
      · obtain ⟨ad, rfl, hadb, hbyte⟩ := h (by omega)
        obtain ⟨u, u0, u1, hu⟩ := hbyte k hlt
        clear hbyte
        have FI := Lib.hid fin
        clear fin
        go_wp2_with fail
        exact ⟨⟨k + 1, _, by omega, by go_num, rfl⟩, by simp [intOf]; omega⟩
      · have FI := Lib.hid fin
        clear fin
        go_wp2_with fail
        go_ret
        exact ⟨_, rfl, FI.out _, Nat.le_refl _, (Below.refl _ _).alloc (Nat.le_refl _) _⟩
    · have FI := Lib.hid fin
      clear fin
      go_wp2_with fail
      go_ret
      exact ⟨_, rfl, FI.out _, Nat.le_refl _, (Below.refl _ _).alloc (Nat.le_refl _) _⟩
-- 136
theorem rd_lit (w : World) (xs : List Int) (t : TypeId) (hs : xs.length ≤ 9223372036854775807) : Rd (w.alloc (.cells (ints xs).toArray t)) (.slice (some ⟨w.heap.size, 0, none⟩) xs.length xs.length) 1 xs.length (ints xs) :=
  ⟨_, _, rfl, by simp [ints], Nat.le_refl _, by simpa [maxLen] using hs, fun _ => ⟨_, _, rfl, by simp, fun j u hu => by rw [Nat.zero_add, World.cell?_alloc_new]; simpa using hu⟩⟩
theorem Only.alloc {bs : List Nat} {w w1 : World} (h : Only bs w w1) (o : Obj) : Only bs w (w1.alloc o) := h.trans (Only.of_below ((Below.refl _ _).alloc (Nat.le_refl _) o) bs)
end Go.Proofs.Ytiamkgkhamnaeaa
