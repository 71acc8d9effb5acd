/- ParseMem, the program's way: strings.SplitN, strconv.Atoi and Itoa. -/
import Derived.Test.YtgbgjlmkmlhefaaGreatDoorP4
namespace Go.Proofs.YtgbgjlmkmlhefaaGreatDoor
set_option maxRecDepth 20000
set_option linter.unusedSimpArgs false
set_option linter.unusedVariables false
open Go.ChangeShapes Go.WideShapes Go.ChangeAt Go.RowKit
set_option linter.unusedVariables false
def pieces (s : List UInt8) : List ByteArray := Lib.splitB ⟨#[32]⟩ 0 (min 17 ((⟨s.toArray⟩ : ByteArray).size + 1) - 1) ⟨s.toArray⟩
def listP (ws : List ByteArray) : Option (List Int) := ws.mapM fun p => parseF p.data.toList
def implParseF (s : List UInt8) : Option (List Int) := memF (listP (pieces s))
def MaxSet (w : World) : Prop := ∃ m, w.cell? ⟨1, 0, none⟩ = some (.int .i64 m)
theorem MaxSet.alloc {w : World} (h : MaxSet w) (o : Obj) : MaxSet (w.alloc o) := by
  obtain ⟨m, h⟩ := h
  have := ((Below.refl w.heap.size w).alloc (Nat.le_refl _) o).cell (p := ⟨1, 0, none⟩) (by have := World.block_lt_of_cell? _ _ h; exact this)
  exact ⟨m, this.trans h⟩
theorem pieces_len (s : List UInt8) : 1 ≤ (pieces s).length ∧ (pieces s).length ≤ min 17 ((⟨s.toArray⟩ : ByteArray).size + 1) := by
  have h := Lib.splitB_length_le ⟨#[32]⟩ 0 (min 17 ((⟨s.toArray⟩ : ByteArray).size + 1) - 1) ⟨s.toArray⟩
  refine ⟨?_, by unfold pieces; omega⟩
  unfold pieces
  cases min 17 ((⟨s.toArray⟩ : ByteArray).size + 1) - 1 with
  | zero => simp [Lib.splitB]
  | succ k =>
    unfold Lib.splitB
    split <;> simp
theorem pieces_part (s : List UInt8) (p : ByteArray) (h : p ∈ pieces s) : p.data.toList.length ≤ s.length := by
  have h1 := Lib.splitB_data ⟨#[32]⟩ 0 (min 17 ((⟨s.toArray⟩ : ByteArray).size + 1) - 1) ⟨s.toArray⟩
  refine splitK_part 32 (min 17 ((⟨s.toArray⟩ : ByteArray).size + 1) - 1) s _ ?_
  have h2 : p.data.toList ∈ (pieces s).map (·.data.toList) := List.mem_map_of_mem h
  unfold pieces at h2
  rw [h1] at h2
  simpa using h2
theorem impl_same (s : List UInt8) : implParseF s = specParseF s := by
  have h1 := Lib.splitB_data ⟨#[32]⟩ 0 (min 17 ((⟨s.toArray⟩ : ByteArray).size + 1) - 1) ⟨s.toArray⟩
  have h2 := parse_same s (min 17 ((⟨s.toArray⟩ : ByteArray).size + 1) - 1) (by show min 17 (s.toArray.size + 1) - 1 = _; simp)
  have h3 : listP (pieces s) = listQ ((pieces s).map (·.data.toList)) := by
    unfold listP listQ
    rw [List.mapM_map]
    rfl
  unfold implParseF
  rw [h3, ← h2]
  unfold pieces
  rw [h1]
theorem split_call (s : List UInt8) (w : World) (hs : s.length ≤ 1048576) (hm : MaxSet w) :
    Calls Tryz.prog 58 #[str s, .string ⟨#[32]⟩, .int .i64 17] w fun e w' => ∃ N, e = .returned (.slice (some ⟨w.heap.size, 0, none⟩) (pieces s).length N) ∧ (pieces s).length ≤ N ∧ N ≤ 17 ∧ w.heap.size < w'.heap.size ∧ Below w.heap.size w w' ∧
      ∀ j p, (pieces s)[j]? = some p → w'.cell? ⟨w.heap.size, j, none⟩ = some (.string p) := by
  obtain ⟨m0, hm0⟩ := hm
  refine (Tryz.strings_SplitN ⟨s.toArray⟩ ⟨#[32]⟩ 17 m0 w (by show s.toArray.size < _; simp; omega) hm0 (by decide) (by decide) (by decide)).mono ?_
  rintro e w' ⟨rfl, rfl⟩
  refine ⟨_, rfl, (pieces_len s).2, by omega, by simp, (Below.refl _ _).alloc (Nat.le_refl _) _, fun j p hp => ?_⟩
  rw [World.cell?_alloc_new]
  unfold pieces at hp
  have hj := (List.getElem?_eq_some_iff.1 hp).1
  unfold Lib.cellsOf
  simp only [List.getElem?_toArray]
  rw [List.getElem?_append_left (by simpa using hj), List.getElem?_map, hp]
  rfl
theorem str_of (p : ByteArray) : str p.data.toList = .string p := rfl
def apart (xs : List Int) (n : Nat) : List Value := ints xs ++ List.replicate (n - xs.length) (.int .i64 0)
theorem apart_at {xs : List Int} {n k : Nat} (h : xs.length = k) (hk : k < n) : (apart xs n)[k]? = some (.int .i64 0) := by
  have hl : (ints xs).length = k := by simp [ints, h]
  unfold apart
  rw [List.getElem?_append_right (by omega), hl, Nat.sub_self, List.getElem?_replicate, if_pos (by omega)]
theorem apart_set {xs : List Int} {n k : Nat} (h : xs.length = k) (hk : k < n) (x : Int) : (apart xs n).set k (.int .i64 x) = apart (xs ++ [x]) n := by
  have hl : (ints xs).length = k := by simp [ints, h]
  unfold apart
  rw [List.set_append, if_neg (by omega), hl, Nat.sub_self, show n - xs.length = (n - (xs ++ [x]).length) + 1 from by simp; omega, List.replicate_succ, List.set_cons_zero]
  simp [ints]
theorem listP_take_succ {ws : List ByteArray} {k : Nat} {xs : List Int} {p : ByteArray} {x : Int} (h : listP (ws.take k) = some xs) (hp : ws[k]? = some p) (hx : parseF p.data.toList = some x) : listP (ws.take (k + 1)) = some (xs ++ [x]) := by
  unfold listP at *
  rw [List.take_add_one, hp, List.mapM_append, h]
  simp [hx]
theorem listP_none {ws : List ByteArray} {k : Nat} {p : ByteArray} (hp : ws[k]? = some p) (hx : parseF p.data.toList = none) : listP ws = none := by
  obtain ⟨hk, he⟩ := List.getElem?_eq_some_iff.1 hp
  unfold listP
  rw [← List.take_append_drop k ws, List.drop_eq_getElem_cons hk, he, List.mapM_append]
  cases (ws.take k).mapM fun p => parseF p.data.toList with
  | none => rfl
  | some xs => simp [hx]
theorem Errs.below {B : Nat} {w w' : World} (h : Errs w) (hb : Below B w w') (hB : w.heap.size ≤ B) : Errs w' := by
  have key : ∀ (n : String) (cs : Array Value), w.var? Tryz.prog n = some cs → w'.var? Tryz.prog n = some cs := by
    intro n cs h
    unfold World.var? at *
    cases hg : Tryz.prog.globalNamed n with
    | none => simp [hg] at h
    | some g =>
      simp only [hg, Option.bind_some] at h ⊢
      have hlt : g < w.heap.size := by
        rcases Nat.lt_or_ge g w.heap.size with h' | h'
        · exact h'
        · rw [Array.getElem?_eq_none h'] at h; simp at h
      rw [hb.block g (by omega)]
      exact h
  obtain ⟨⟨t1, p1, h1⟩, ⟨t2, p2, h2⟩⟩ := h
  exact ⟨⟨t1, p1, key _ _ h1⟩, ⟨t2, p2, key _ _ h2⟩⟩
end Go.Proofs.YtgbgjlmkmlhefaaGreatDoor
