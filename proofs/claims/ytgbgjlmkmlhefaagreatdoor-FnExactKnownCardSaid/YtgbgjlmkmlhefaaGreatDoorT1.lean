/- The text of a memory: the model's and the program's. The program's asks for the library's table of powers of ten. -/
import Derived.Test.YtgbgjlmkmlhefaaGreatDoorNum
import Derived.Test.YtgbgjlmkmlhefaaGreatDoorI1
import Derived.Test.YtgbgjlmkmlhefaaGreatDoorShelf
namespace Go.Proofs.YtgbgjlmkmlhefaaGreatDoor
set_option maxRecDepth 20000
set_option linter.unusedSimpArgs false
set_option linter.unusedVariables false
open Go.ChangeShapes Go.WideShapes Go.ChangeAt Go.RowKit
set_option linter.unusedVariables false
def memTextF (xs : List Int) : List UInt8 := if memOk xs then line xs else []
theorem memOk_parts {xs : List Int} (h : memOk xs = true) : 1 ≤ xs.length ∧ xs.length ≤ 16 ∧ ∀ x ∈ xs, -1000000 ≤ x ∧ x ≤ 1000000 := by
  simp only [memOk, Bool.and_eq_true, List.all_eq_true] at h
  have h1 := inB_true h.1
  exact ⟨by omega, by omega, fun x hx => inB_true (h.2 x hx)⟩
abbrev Tab (w : World) : Prop := Lib.TabIs Tryz.prog w "internal/strconv.uint64pow10" .u64 Lib.pow10Tab
theorem Tab.below {B : Nat} {w w' : World} (h : Tab w) (hb : Below B w w') (hB : w.heap.size ≤ B) : Tab w' := by
  unfold Tab Lib.TabIs World.var? at *
  cases hg : Tryz.prog.globalNamed "internal/strconv.uint64pow10" with
  | none => simp [hg] at h
  | some g =>
    simp only [hg, Option.bind_some] at h ⊢
    have hlt : g < w.heap.size := by
      rcases Nat.lt_or_ge g w.heap.size with h' | h'
      · exact h'
      · rw [Array.getElem?_eq_none h'] at h; simp at h
    rw [hb.block g (by omega)]
    exact h
theorem below_grow (w : World) (q : Nat) (os : Array Obj) : Below w.heap.size w (Go.Sort.grow (w.drewN q) os) :=
  ⟨rfl, rfl, rfl, by simp [Go.Sort.grow], fun i hi => by
    show ((w.drewN q).heap ++ os)[i]? = _
    rw [Array.getElem?_append_left (by show i < w.heap.size; omega)]
    rfl⟩
theorem itoa_call (x : Int) (w : World) (hx : -9223372036854775808 ≤ x ∧ x ≤ 9223372036854775807) (ht : Tab w) :
    Calls Tryz.prog 57 #[.int .i64 x] w fun e w' => e = .returned (str (Lib.itoa x)) ∧ Below w.heap.size w w' := by
  refine (Tryz.strconv_Itoa x hx.1 hx.2 w ht).mono ?_
  rintro e w' ⟨rfl, k, os, rfl⟩
  exact ⟨rfl, below_grow _ _ _⟩
theorem At.set0 {w : World} {b : Nat} {cs : List Value} (h : At w b 0 cs) (k : Nat) (u : Value) : At (w.setCell ⟨b, k, none⟩ u) b 0 (cs.set k u) := by
  have := h.set_ k u
  rwa [Nat.zero_add] at this
theorem own_at {w : World} {g n : Nat} {cs : List Value} {bs : List Nat} (h : Own w (.slice (some ⟨g, 0, none⟩) n n) 1 n cs bs) (hn : 0 < n) : At w g 0 cs ∧ g < w.heap.size := by
  obtain ⟨A, c, he, _, _, _, hr⟩ := h
  rcases hr with ⟨h0, _⟩ | ⟨_, b, o, rfl, _, hb, hat⟩
  · omega
  · injection he with he
    injection he with he
    injection he with h1 h2
    subst h1 h2
    exact ⟨hat, hb⟩
def tpart (xs : List Int) (k : Nat) : List Value := (xs.take k).map (fun x => str (Lib.itoa x)) ++ List.replicate (xs.length - k) (.string ⟨#[]⟩)
theorem tpart_zero (xs : List Int) : List.replicate xs.length (Value.string ⟨#[]⟩) = tpart xs 0 := by simp [tpart]
theorem tpart_at {xs : List Int} {k : Nat} (h : k < xs.length) : (tpart xs k)[k]? = some (.string ⟨#[]⟩) := by
  have hl : ((xs.take k).map (fun x => str (Lib.itoa x))).length = k := by simp; omega
  unfold tpart
  rw [List.getElem?_append_right (by omega), hl, Nat.sub_self, List.getElem?_replicate, if_pos (by omega)]
theorem tpart_set {xs : List Int} {k : Nat} {x : Int} (h : xs[k]? = some x) : (tpart xs k).set k (str (Lib.itoa x)) = tpart xs (k + 1) := by
  obtain ⟨hk, hx⟩ := List.getElem?_eq_some_iff.1 h
  have hl : ((xs.take k).map (fun x => str (Lib.itoa x))).length = k := by simp; omega
  unfold tpart
  rw [List.set_append, if_neg (by omega), hl, Nat.sub_self, show xs.length - k = (xs.length - (k + 1)) + 1 from by omega, List.replicate_succ, List.set_cons_zero,
    List.take_add_one, h]
  simp
theorem tpart_all (xs : List Int) : tpart xs xs.length = xs.map fun x => str (Lib.itoa x) := by simp [tpart]
theorem join_call (g : Nat) (xs : List Int) (w : World) (hA : At w g 0 (tpart xs xs.length)) (hg : g < w.heap.size) (hl : xs.length ≤ 16777216) (hr : ∀ x ∈ xs, -9223372036854775808 ≤ x ∧ x ≤ 9223372036854775807) :
    Calls Tryz.prog 53 #[.slice (some ⟨g, 0, none⟩) xs.length xs.length, .string ⟨#[32]⟩] w fun e w' => e = .returned (str (line xs)) ∧ Below w.heap.size w w' := by
  have he : Lib.join ((xs.map fun x => (⟨(Lib.itoa x).toArray⟩ : ByteArray)).map (·.data.toList)) (⟨#[32]⟩ : ByteArray).data.toList = line xs := by
    simp [line, List.map_map, Function.comp_def]
  have hj := Tryz.strings_Join g 0 xs.length (xs.map fun x => (⟨(Lib.itoa x).toArray⟩ : ByteArray)) ⟨#[32]⟩ w (fun j y hy => by
    rw [tpart_all] at hA
    refine (hA j _ ?_).1
    rw [List.getElem?_map] at hy ⊢
    cases hx : xs[j]? with
    | none => rw [hx] at hy; cases hy
    | some x =>
      rw [hx] at hy
      injection hy with hy
      subst hy
      rfl) hg (by rw [List.length_map]; omega) (by rw [List.length_map]; omega) (by rw [he]; have := line_len _ xs rfl hr; omega)
  rw [he, List.length_map] at hj
  exact hj
theorem infoStr : (Tryz.prog.info? 9).map (fun i => (i.zero, i.size, i.bytes)) = some (some (.string ⟨#[]⟩), 1, 16) := by kernel_rfl
end Go.Proofs.YtgbgjlmkmlhefaaGreatDoor
