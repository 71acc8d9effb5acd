/- Words on memory that every text of this seat shares: a slice that reads as a list of cells, a slice of the call's own with its block, worlds that differ at given blocks alone. Plain lemmas, no condition. -/
import Derived.WalkKit
import Derived.ProofKit
import Derived.OpenShut
import Derived.Deep.QuietTactic
import Derived.BigQuiet
import Derived.Lib.Hide
namespace Go.Proofs.Ytkpgjeeofghldaa
set_option maxRecDepth 20000
set_option linter.unusedSimpArgs false
set_option linter.unusedVariables false
open Go.RowKit

/-- the slice value v of n elements (size cells each) can be read as the cells cs -/
def Rd (w : World) (v : Value) (size n : Nat) (cs : List Value) : Prop :=
  ∃ (A : Option Addr) (c : Nat), v = .slice A n c ∧ cs.length = n * size ∧ n ≤ c ∧ c ≤ maxLen ∧
    (0 < n → ∃ b o, A = some ⟨b, o, none⟩ ∧ b < w.heap.size ∧ ∀ j u, cs[j]? = some u → w.cell? ⟨b, o + j, none⟩ = some u)

/-- the same of a slice that came in: its address may be any -/
def RdA (w : World) (v : Value) (size n : Nat) (cs : List Value) : Prop :=
  ∃ (A : Option Addr) (c : Nat), v = .slice A n c ∧ cs.length = n * size ∧ n ≤ c ∧ c ≤ maxLen ∧
    (0 < n → ∃ ad, A = some ad ∧ ad.block < w.heap.size ∧ ∀ j u, cs[j]? = some u → w.cell? (ad.add j) = some u)

/-- cells of a block from o on, none of them frozen -/
def At (w : World) (b o : Nat) (cs : List Value) : Prop :=
  ∀ j u, cs[j]? = some u → w.cell? ⟨b, o + j, none⟩ = some u ∧ w.frozen? ⟨b, o + j, none⟩ = false

/-- the slice value v of n elements lies in a block of its own (bs: that block, or none), may be written, and reads as cs -/
def Own (w : World) (v : Value) (size n : Nat) (cs : List Value) (bs : List Nat) : Prop :=
  ∃ (A : Option Addr) (c : Nat), v = .slice A n c ∧ cs.length = n * size ∧ n ≤ c ∧ c ≤ maxLen ∧
    ((n = 0 ∧ bs = []) ∨ (0 < n ∧ ∃ b o, A = some ⟨b, o, none⟩ ∧ bs = [b] ∧ b < w.heap.size ∧ At w b o cs))

/-- w' is w but for new blocks and the blocks bs -/
structure Only (bs : List Nat) (w w' : World) : Prop where
  os : w'.os = w.os
  tape : w'.tape = w.tape
  output : w'.output = w.output
  size : w.heap.size ≤ w'.heap.size
  block : ∀ k, k < w.heap.size → k ∉ bs → w'.heap[k]? = w.heap[k]?

theorem add_block (a : Addr) (n : Nat) : (a.add n).block = a.block := by unfold Addr.add; split <;> rfl

section
variable {w w' w1 w2 : World} {v : Value} {size n : Nat} {cs : List Value} {bs : List Nat}

theorem At.read {b o : Nat} (h : At w b o cs) : ∀ j u, cs[j]? = some u → w.cell? ⟨b, o + j, none⟩ = some u := fun j u hu => (h j u hu).1
theorem At.of_block {b o : Nat} (h : At w b o cs) (hb : w'.heap[b]? = w.heap[b]?) : At w' b o cs := fun j u hu =>
  ⟨(World.cell?_of_block (a := ⟨b, o + j, none⟩) hb).trans (h j u hu).1, (World.frozen?_of_block (a := ⟨b, o + j, none⟩) hb).trans (h j u hu).2⟩
theorem At.set_ {b o : Nat} (h : At w b o cs) (k : Nat) (u : Value) : At (w.setCell ⟨b, o + k, none⟩ u) b o (cs.set k u) := by
  intro j x hx
  by_cases hj : j = k
  · subst hj
    rw [List.getElem?_set] at hx
    simp only [if_true] at hx
    split at hx
    · rename_i hl
      obtain ⟨h1, h2⟩ := h j cs[j] (List.getElem?_eq_getElem hl)
      injection hx with hx
      subst hx
      exact ⟨World.cell?_setCell_same w _ _ h1, by rw [World.frozen?_setCell]; exact h2⟩
    · cases hx
  · rw [List.getElem?_set_ne (by omega)] at hx
    obtain ⟨h1, h2⟩ := h j x hx
    exact ⟨(World.cell?_setCell_other w _ _ _ (fun e => by injection e; omega)).trans h1, by rw [World.frozen?_setCell]; exact h2⟩

theorem Rd.a (h : Rd w v size n cs) : RdA w v size n cs := by
  obtain ⟨A, c, rfl, hl, hc, hm, hr⟩ := h
  refine ⟨A, c, rfl, hl, hc, hm, fun hn => ?_⟩
  obtain ⟨b, o, rfl, hb, hcell⟩ := hr hn
  refine ⟨_, rfl, hb, fun j u hu => ?_⟩
  have := hcell j u hu
  unfold Addr.add
  split
  · rename_i h0
    subst h0
    exact this
  · exact this
theorem Rd.of_below {B : Nat} (h : Rd w v size n cs) (hb : Below B w w') (hB : w.heap.size ≤ B) : Rd w' v size n cs := by
  obtain ⟨A, c, rfl, hl, hc, hm, hr⟩ := h
  refine ⟨A, c, rfl, hl, hc, hm, fun hn => ?_⟩
  obtain ⟨b, o, rfl, hlt, hcell⟩ := hr hn
  exact ⟨b, o, rfl, Nat.lt_of_lt_of_le hlt hb.size, fun j u hu => (hb.cell (p := ⟨b, o + j, none⟩) (by show b < B; omega)).trans (hcell j u hu)⟩
theorem Rd.below (h : Rd w v size n cs) (hb : Below w.heap.size w w') : Rd w' v size n cs := h.of_below hb (Nat.le_refl _)
theorem RdA.below (h : RdA w v size n cs) (hb : Below w.heap.size w w') : RdA w' v size n cs := by
  obtain ⟨A, c, rfl, hl, hc, hm, hr⟩ := h
  refine ⟨A, c, rfl, hl, hc, hm, fun hn => ?_⟩
  obtain ⟨ad, rfl, hlt, hcell⟩ := hr hn
  exact ⟨ad, rfl, Nat.lt_of_lt_of_le hlt hb.size, fun j u hu => (hb.cell (p := ad.add j) (by rw [add_block]; exact hlt)).trans (hcell j u hu)⟩
theorem RdA.only (h : RdA w v size n cs) {B : Nat} (hB : ∀ A c ad, v = .slice A n c → A = some ad → ad.block < B) (hb : Below B w w') : RdA w' v size n cs := by
  obtain ⟨A, c, rfl, hl, hc, hm, hr⟩ := h
  refine ⟨A, c, rfl, hl, hc, hm, fun hn => ?_⟩
  obtain ⟨ad, rfl, hlt, hcell⟩ := hr hn
  exact ⟨ad, rfl, Nat.lt_of_lt_of_le hlt hb.size, fun j u hu => (hb.cell (p := ad.add j) (by rw [add_block]; exact hB _ _ _ rfl rfl)).trans (hcell j u hu)⟩

theorem Own.rd (h : Own w v size n cs bs) : Rd w v size n cs := by
  obtain ⟨A, c, rfl, hl, hc, hm, hr⟩ := h
  refine ⟨A, c, rfl, hl, hc, hm, fun hn => ?_⟩
  rcases hr with ⟨h0, _⟩ | ⟨_, b, o, rfl, _, hb, hat⟩
  · omega
  · exact ⟨b, o, rfl, hb, hat.read⟩
theorem Own.lt (h : Own w v size n cs bs) : ∀ b ∈ bs, b < w.heap.size := by
  obtain ⟨A, c, rfl, hl, hc, hm, ⟨_, rfl⟩ | ⟨_, b, o, rfl, rfl, hb, hat⟩⟩ := h
  · simp
  · simpa using hb
theorem Own.of_blocks (h : Own w v size n cs bs) (hs : w.heap.size ≤ w'.heap.size) (hk : ∀ b ∈ bs, w'.heap[b]? = w.heap[b]?) : Own w' v size n cs bs := by
  obtain ⟨A, c, rfl, hl, hc, hm, ⟨h0, rfl⟩ | ⟨hn, b, o, rfl, rfl, hb, hat⟩⟩ := h
  · exact ⟨A, c, rfl, hl, hc, hm, .inl ⟨h0, rfl⟩⟩
  · exact ⟨_, c, rfl, hl, hc, hm, .inr ⟨hn, b, o, rfl, rfl, by omega, hat.of_block (hk b (by simp))⟩⟩
theorem Own.below (h : Own w v size n cs bs) (hb : Below w.heap.size w w') : Own w' v size n cs bs := h.of_blocks hb.size fun b hm => hb.block b (h.lt b hm)
theorem Own.only {ks : List Nat} (h : Own w v size n cs bs) (hb : Only ks w w') (hd : ∀ b ∈ bs, b ∉ ks) : Own w' v size n cs bs := h.of_blocks hb.size fun b hm => hb.block b (h.lt b hm) (hd b hm)

theorem Only.refl (bs : List Nat) (w : World) : Only bs w w := ⟨rfl, rfl, rfl, Nat.le_refl _, fun _ _ _ => rfl⟩
theorem Only.trans (h : Only bs w w1) (k : Only bs w1 w2) : Only bs w w2 :=
  ⟨k.os.trans h.os, k.tape.trans h.tape, k.output.trans h.output, Nat.le_trans h.size k.size, fun i hi hn => (k.block i (Nat.lt_of_lt_of_le hi h.size) hn).trans (h.block i hi hn)⟩
theorem Only.mono {bs' : List Nat} (h : Only bs w w1) (hs : ∀ b ∈ bs, b ∈ bs') : Only bs' w w1 :=
  ⟨h.os, h.tape, h.output, h.size, fun i hi hn => h.block i hi fun hm => hn (hs i hm)⟩
theorem Only.of_below (h : Below w.heap.size w w1) (bs : List Nat) : Only bs w w1 := ⟨h.os, h.tape, h.output, h.size, fun i hi _ => h.block i hi⟩
theorem Only.below {B : Nat} (h : Only bs w w1) (hB : B ≤ w.heap.size) (hk : ∀ b ∈ bs, B ≤ b) : Below B w w1 :=
  ⟨h.os, h.tape, h.output, h.size, fun i hi => h.block i (by omega) fun hm => by have := hk i hm; omega⟩
theorem Only.setCell {b i : Nat} (w : World) (u : Value) : Only [b] w (w.setCell ⟨b, i, none⟩ u) :=
  ⟨rfl, rfl, rfl, by simp [World.setCell], fun k _ hn => Below.heap_setCell _ _ _ _ (by simpa using hn)⟩
theorem Only.nil_below (h : Only [] w w1) : Below w.heap.size w w1 := h.below (Nat.le_refl _) (by simp)

theorem Own.of_owns {base : Nat} {e : TypeId} (h : w.ownsRow base e size v n cs) : ∃ bs, Own w v size n cs bs ∧ ∀ b ∈ bs, base ≤ b := by
  obtain ⟨hl, ⟨rfl, rfl⟩ | ⟨g, cap, cur, rfl, hb, hg, hn, hm, hc, ht⟩⟩ := h
  · exact ⟨[], ⟨none, 0, rfl, hl, Nat.le_refl _, by simp [maxLen], .inl ⟨rfl, rfl⟩⟩, by simp⟩
  · by_cases h0 : n = 0
    · exact ⟨[], ⟨_, cap, rfl, hl, hn, hm, .inl ⟨h0, rfl⟩⟩, by simp⟩
    · refine ⟨[g], ⟨_, cap, rfl, hl, hn, hm, .inr ⟨by omega, g, 0, rfl, rfl, (Array.getElem?_eq_some_iff.1 hg).1, fun j u hu => ?_⟩⟩, by simpa using hb⟩
      rw [Nat.zero_add, cell_of_row w g j cur e (0, 0) hg]
      refine ⟨?_, by simp [World.frozen?, hg]⟩
      rw [← ht, List.getElem?_take] at hu
      split at hu
      · simpa using hu
      · cases hu
/-- block g is known whole, none of it frozen -/
def Bk (w : World) (g : Nat) (cs : Array Value) (t : TypeId) : Prop := w.heap[g]? = some (.cells cs t (0, 0))
theorem Bk.lt {g : Nat} {ds : Array Value} {t : TypeId} (h : Bk w g ds t) : g < w.heap.size := by
  unfold Bk at h
  exact (Array.getElem?_eq_some_iff.1 h).1
theorem Bk.new (w : World) (ds : Array Value) (t : TypeId) : Bk (w.alloc (.cells ds t)) w.heap.size ds t := heap_alloc_new w _
theorem Bk.alloc {g : Nat} {ds : Array Value} {t : TypeId} (h : Bk w g ds t) (o : Obj) : Bk (w.alloc o) g ds t := (Below.heap_alloc w o g h.lt).trans h
theorem Bk.below {B g : Nat} {ds : Array Value} {t : TypeId} (h : Bk w g ds t) (hb : Below B w w') (hg : g < B) : Bk w' g ds t := (hb.block g hg).trans h
theorem Bk.only {g : Nat} {ds : Array Value} {t : TypeId} (h : Bk w g ds t) (hb : Only bs w w') (hg : g ∉ bs) : Bk w' g ds t := (hb.block g h.lt hg).trans h
theorem Bk.grown {g : Nat} {ds : Array Value} {t : TypeId} {row : Option Nat} (h : Bk w g ds t) (hb : w.grownBy w' row) (hg : ∀ k, row = some k → g ≠ k) : Bk w' g ds t :=
  (hb.block g h.lt fun e => hg g e.symm rfl).trans h
theorem Bk.drewN {g : Nat} {ds : Array Value} {t : TypeId} (h : Bk w g ds t) (n : Nat) : Bk (w.drewN n) g ds t := h
theorem Bk.set_ {g : Nat} {ds : Array Value} {t : TypeId} (h : Bk w g ds t) (i : Nat) (u : Value) : Bk (w.setCell ⟨g, i, none⟩ u) g (ds.setIfInBounds i u) t := by
  unfold Bk at h ⊢
  simp [World.setCell, Array.getElem?_modify, h]
theorem Bk.far {g : Nat} {ds : Array Value} {t : TypeId} (h : Bk w g ds t) {p : Addr} (hp : g ≠ p.block) (u : Value) : Bk (w.setCell p u) g ds t := (Below.heap_setCell w p u g hp).trans h
theorem Bk.at_ {g : Nat} {ds : Array Value} {t : TypeId} (h : Bk w g ds t) (i : Nat) {x : Value} (hx : ds[i]? = some x) : w.cell? ⟨g, i, none⟩ = some x ∧ w.frozen? ⟨g, i, none⟩ = false :=
  ⟨(cell_of_row w g i ds t (0, 0) h).trans hx, by unfold Bk at h; simp [World.frozen?, h]⟩
theorem Bk.load {P : Program} {g : Nat} {ds : Array Value} {t ty : TypeId} {d : TypeDesc} (h : Bk w g ds t) (hu : P.underlying ty = some d) (hd : (match d with | .struct _ | .array _ _ => true | _ => false) = true)
    (hi : (P.info? ty).map (·.size) = some ds.size) : (loadVar ty ⟨g, 0, none⟩).run P w = .ok (.agg ds) w := run_loadVar_row w g t ty ds (0, 0) d h hu hd hi
theorem Bk.row {g : Nat} {ds : Array Value} {t : TypeId} (h : Bk w g ds t) (es : Array Value) : Bk (w.setRow g es) g es t := setRow_heap w g ds es t (0, 0) h
theorem Bk.rowFar {g k : Nat} {ds : Array Value} {t : TypeId} (h : Bk w g ds t) (hk : g ≠ k) (es : Array Value) : Bk (w.setRow k es) g ds t := (setRow_other w k g es hk).trans h
theorem below_row {B : Nat} (h : Below B w w') {g : Nat} (hg : B ≤ g) (es : Array Value) : Below B w (w'.setRow g es) :=
  h.trans ⟨rfl, rfl, rfl, by simp, fun k hk => setRow_other w' g k es (by omega)⟩
theorem Own.rowFar {b : Nat} {es : Array Value} (h : Own w v size n cs bs) (hb : ∀ k ∈ bs, k ≠ b) : Own (w.setRow b es) v size n cs bs :=
  h.of_blocks (by simp) fun k hk => setRow_other w b k es (hb k hk)
/-- a block of w still stands in w' -/
theorem blk_of_below {B g : Nat} {o : Obj} (hb : Below B w w') (h : w.heap[g]? = some o) (hg : g < B) : w'.heap[g]? = some o := (hb.block g hg).trans h
theorem blk_new (w : World) (o : Obj) : (w.alloc o).heap[w.heap.size]? = some o := heap_alloc_new w o
theorem blk_cell {g i : Nat} {cs : Array Value} {t : TypeId} {x : Value} (h : w.heap[g]? = some (.cells cs t (0, 0))) (hx : cs[i]? = some x) : w.cell? ⟨g, i, none⟩ = some x ∧ w.frozen? ⟨g, i, none⟩ = false :=
  ⟨(cell_of_row w g i cs t (0, 0) h).trans hx, by simp [World.frozen?, h]⟩
theorem Own.far {b i : Nat} {u : Value} (h : Own w v size n cs bs) (hb : ∀ k ∈ bs, k ≠ b) : Own (w.setCell ⟨b, i, none⟩ u) v size n cs bs :=
  h.only (Only.setCell w u) fun k hk hm => hb k hk (by simpa using hm)
theorem Own.open_ (h : Own w v size n cs bs) (hn : 0 < n) : ∃ b o c, v = .slice (some ⟨b, o, none⟩) n c ∧ bs = [b] ∧ b < w.heap.size ∧ At w b o cs ∧ n ≤ c ∧ c ≤ 9223372036854775807 := by
  obtain ⟨A, c, rfl, hl, hc, hm, ⟨h0, _⟩ | ⟨_, b, o, rfl, rfl, hb, hat⟩⟩ := h
  · omega
  · exact ⟨b, o, c, rfl, rfl, hb, hat, hc, by simpa [maxLen] using hm⟩
theorem Own.slice (h : Own w v size n cs bs) : ∃ A c, v = .slice A n c ∧ n ≤ c ∧ c ≤ 9223372036854775807 := by
  obtain ⟨A, c, rfl, hl, hc, hm, _⟩ := h
  exact ⟨A, c, rfl, hc, by simpa [maxLen] using hm⟩
theorem Own.set_ {b o c : Nat} (h : Own w (.slice (some ⟨b, o, none⟩) n c) size n cs [b]) (k : Nat) (u : Value) : Own (w.setCell ⟨b, o + k, none⟩ u) (.slice (some ⟨b, o, none⟩) n c) size n (cs.set k u) [b] := by
  obtain ⟨A, c', he, hl, hc, hm, ⟨_, h0⟩ | ⟨hn, b', o', hA, _, hb, hat⟩⟩ := h
  · cases h0
  · injection he with h1 _ h3
    subst h1
    subst h3
    injection hA with hA
    injection hA with e1 e2
    subst e1
    subst e2
    exact ⟨_, _, rfl, by simpa using hl, hc, hm, .inr ⟨hn, b, o, rfl, rfl, by simpa [World.setCell] using hb, hat.set_ k u⟩⟩
theorem below_more {B : Nat} (h : Below B w w') (n : Nat) : Below B w (w'.drewN n) := h.trans ⟨rfl, rfl, rfl, Nat.le_refl _, fun _ _ => rfl⟩
theorem below_drewN (w : World) (n : Nat) : Below w.heap.size w (w.drewN n) := below_more (Below.refl _ _) n
theorem Own.nil (w : World) (size : Nat) : Own w (.slice none 0 0) size 0 [] [] := ⟨none, 0, rfl, by simp, Nat.le_refl _, by simp [maxLen], .inl ⟨rfl, rfl⟩⟩
theorem Own.len (h : Own w v size n cs bs) : cs.length = n * size := by
  obtain ⟨A, c, rfl, hl, _⟩ := h
  exact hl
end

theorem new_cells (w : World) (cs : List Value) (t : TypeId) : ∀ j u, cs[j]? = some u → (w.alloc (.cells cs.toArray t)).cell? ((⟨w.heap.size, 0, none⟩ : Addr).add j) = some u := by
  intro j u hu
  have e : (⟨w.heap.size, 0, none⟩ : Addr).add j = ⟨w.heap.size, j, none⟩ := by unfold Addr.add; split <;> simp_all
  rw [e, World.cell?_alloc_new]
  simpa using hu

abbrev str (l : List UInt8) : Value := .string ⟨l.toArray⟩
def ints (xs : List Int) : List Value := xs.map (Value.int .i64)
theorem ints_at {xs : List Int} {k : Nat} (h : k < xs.length) : (ints xs)[k]? = some (.int .i64 (xs.getD k 0)) := by
  simp [ints, h]
theorem int_at {w : World} {b o k : Nat} {xs : List Int} (hc : ∀ j u, (ints xs)[j]? = some u → w.cell? ⟨b, o + j, none⟩ = some u) (h : k < xs.length) :
    ∃ x, Hid (xs[k]? = some x) ∧ w.cell? ⟨b, o + k, none⟩ = some (.int .i64 x) :=
  ⟨xs[k], Lib.hid (List.getElem?_eq_getElem h), hc k _ (by simp [ints, h])⟩
theorem int_atA {w wr : World} {ad : Addr} {k : Nat} {xs : List Int} (hc : ∀ j u, (ints xs)[j]? = some u → w.cell? (ad.add j) = some u) (h : k < xs.length) {B : Nat} (hB : Below B w wr) (hb : ad.block < B) :
    ∃ x, Hid (xs[k]? = some x) ∧ wr.cell? (ad.add k) = some (.int .i64 x) :=
  ⟨xs[k], Lib.hid (List.getElem?_eq_getElem h), (hB.cell (p := ad.add k) (by rw [add_block]; exact hb)).trans (hc k _ (by simp [ints, h]))⟩
theorem ints_snoc {xs : List Int} {k : Nat} {x : Int} (h : xs[k]? = some x) : ints (xs.take k) ++ [.int .i64 x] = ints (xs.take (k + 1)) := by
  rw [List.take_add_one, h]
  simp [ints]
theorem ints_set (xs : List Int) (k : Nat) (x : Int) : (ints xs).set k (.int .i64 x) = ints (xs.set k x) := by
  simp [ints, List.map_set]
theorem ints_len (xs : List Int) : (ints xs).length = xs.length := by simp [ints]
theorem ints_inj {xs ys : List Int} (h : ints xs = ints ys) : xs = ys := by
  have := congrArg (List.map fun v => intOf v) h
  simpa [ints, intOf, Function.comp_def] using this

theorem results_cell_tmp {P : Program} {fn : Func} {p q : Tmp} {ty : TypeId} (hf : fn.results = #[.cell p ty, .tmp q]) (tmps : Array Value) {w : World} {g : Nat} {t : TypeId} {cs : Array Value} {d : TypeDesc}
    (hb : Bk w g cs t) (hp : tmps.getD p undef = .pointer (some ⟨g, 0, none⟩)) (hu : P.underlying ty = some d) (hd : (match d with | .struct _ | .array _ _ => true | _ => false) = true) (hi : (P.info? ty).map (·.size) = some cs.size) :
    (results fn tmps).run P w = .ok (.tuple #[.agg cs, tmps.getD q undef]) w := by
  have hp' : tmps[p]?.getD undef = .pointer (some ⟨g, 0, none⟩) := by simpa using hp
  simp [results, hf, hp', asAddr, run_loadVar_row w g t ty cs (0, 0) d hb hu hd hi]
theorem toB {P : Program} {f : FuncId} {args : Array Value} {w : World} {x : Ending} (h : Calls P f args w fun e w' => e = x ∧ w = w') : Calls P f args w fun e w' => e = x ∧ Below w.heap.size w w' :=
  h.mono fun _ _ ⟨he, hw⟩ => ⟨he, hw ▸ Below.refl _ _⟩
theorem toBq {P : Program} {f : FuncId} {args : Array Value} {w : World} {x : Ending} (h : Calls P f args w fun e w' => e = x ∧ ∃ n, w' = w.drewN n) : Calls P f args w fun e w' => e = x ∧ Below w.heap.size w w' :=
  h.mono fun _ _ ⟨he, n, hw⟩ => ⟨he, hw ▸ below_drewN w n⟩
theorem ret_bool {a b : Bool} (h : a = b) : Ending.returned (.bool a) = .returned (.bool b) := by rw [h]
theorem ret_int {k : IntKind} {a b : Int} (h : a = b) : Ending.returned (.int k a) = .returned (.int k b) := by rw [h]
theorem take_all_snoc {α : Type} [Inhabited α] (p : α → Bool) (xs : List α) (k : Nat) (h : k < xs.length) : (xs.take (k + 1)).all p = ((xs.take k).all p && p xs[k]) := by
  rw [List.take_succ_eq_append_getElem h, List.all_append]
  simp only [List.all_cons, List.all_nil, Bool.and_true]
theorem Rd.newInts (w : World) (xs : List Int) (t : TypeId) {n : Nat} (hn : n = xs.length) (hm : n ≤ 1048576) : Rd (w.alloc (.cells (ints xs).toArray t)) (.slice (some ⟨w.heap.size, 0, none⟩) n n) 1 n (ints xs) := by
  refine ⟨_, _, rfl, by simp [ints, hn], Nat.le_refl _, by unfold maxLen; omega, fun _ => ⟨_, _, rfl, by simp, fun j u hu => ?_⟩⟩
  rw [Nat.zero_add, World.cell?_alloc_new]
  simpa using hu
end Go.Proofs.Ytkpgjeeofghldaa
