/- The text of a memory: the model's and the program's. The program's asks for the library's table of powers of ten. -/
import Derived.Test.YtiflooopfpcelacDoorNum
import Derived.Test.YtiflooopfpcelacDoorI1
import Derived.Test.YtiflooopfpcelacDoorShelf
namespace Go.Proofs.YtiflooopfpcelacDoor
set_option maxRecDepth 20000
set_option linter.unusedSimpArgs false
set_option linter.unusedVariables false
open Go.ChangeShapes Go.WideShapes Go.ChangeAt Go.RowKit
set_option linter.unusedVariables false
def memTextF (xs : List Int) : List UInt8 := if memOk xs then line xs else []
theorem memOk_parts {xs : List Int} (h : memOk xs = true) : 1 ≤ xs.length ∧ xs.length ≤ 16 ∧ ∀ x ∈ xs, -1000000 ≤ x ∧ x ≤ 1000000 := by
  simp only [memOk, Bool.and_eq_true, List.all_eq_true] at h
  have h1 := inB_true h.1
  exact ⟨by omega, by omega, fun x hx => inB_true (h.2 x hx)⟩
set_option maxHeartbeats 400000 in
theorem spec_MemText (v : Value) (xs : List Int) (w : World) (h : Rd w v 1 xs.length (ints xs)) :
    Calls Tryd.prog 59 #[.agg #[v]] w fun e w' => e = .returned (str (memTextF xs)) ∧ Below w.heap.size w w' := by
  obtain ⟨A, c, rfl, -, hnc, hc, hr⟩ := id h
  have HH := Lib.hid h
  clear h
  cases hm : memOk xs
  · go_enter Tryd.func59, Tryd.ntmps59
    go_wp2_with fail
    refine (spec_MemOk _ xs _ (HH.out.below ((Below.refl _ _).alloc (Nat.le_refl _) _))).mono ?_
    rintro e w1 ⟨rfl, hb⟩
    rw [hm]
    go_wp2_with fail
    go_ret
    exact ⟨ret_str (by simp [memTextF, hm]), ((Below.refl _ _).alloc (Nat.le_refl _) _).trans (hb.mono (by simp))⟩
  · have hp := memOk_parts hm
    go_enter Tryd.func59, Tryd.ntmps59
    go_wp2_with fail
    refine (spec_MemOk _ xs _ (HH.out.below ((Below.refl _ _).alloc (Nat.le_refl _) _))).mono ?_
    rintro e w1 ⟨rfl, hb⟩
    rw [hm]
    have k1 := (Bk.new w #[.slice A xs.length c] 49).below hb (by simp)
    obtain ⟨hc1, hf1⟩ := k1.at_ 0 (x := .slice A xs.length c) rfl
    have hB := ((Below.refl w.heap.size w).alloc (Nat.le_refl _) _).trans (hb.mono (by simp))
    go_wp2_with fail
    refine (l01Line _ xs _ (HH.out.below hB) (by omega) (fun x hx => by have := hp.2.2 x hx; omega)).mono ?_
    rintro e w2 ⟨rfl, hb2⟩
    go_wp2_with fail
    go_ret
    exact ⟨ret_str (by simp [memTextF, hm]), hB.trans (hb2.mono hB.size)⟩
abbrev Tab (w : World) : Prop := Lib.TabIs Tryd.prog w "internal/strconv.uint64pow10" .u64 Lib.pow10Tab
theorem Tab.below {B : Nat} {w w' : World} (h : Tab w) (hb : Below B w w') (hB : w.heap.size ≤ B) : Tab w' := by
  unfold Tab Lib.TabIs World.var? at *
  cases hg : Tryd.prog.globalNamed "internal/strconv.uint64pow10" with
  | none => simp [hg] at h
  | some g =>
    simp only [hg, Option.bind_some] at h ⊢
    have hlt : g < w.heap.size := by
      rcases Nat.lt_or_ge g w.heap.size with h' | h'
      · exact h'
      · rw [Array.getElem?_eq_none h'] at h; simp at h
    rw [hb.block g (by omega)]
    exact h
theorem below_grow (w : World) (q : Nat) (os : Array Obj) : Below w.heap.size w (Go.Sort.grow (w.drewN q) os) :=
  ⟨rfl, rfl, rfl, by simp [Go.Sort.grow], fun i hi => by
    show ((w.drewN q).heap ++ os)[i]? = _
    rw [Array.getElem?_append_left (by show i < w.heap.size; omega)]
    rfl⟩
theorem itoa_call (x : Int) (w : World) (hx : -9223372036854775808 ≤ x ∧ x ≤ 9223372036854775807) (ht : Tab w) :
    Calls Tryd.prog 83 #[.int .i64 x] w fun e w' => e = .returned (str (Lib.itoa x)) ∧ Below w.heap.size w w' := by
  refine (Tryd.strconv_Itoa x hx.1 hx.2 w ht).mono ?_
  rintro e w' ⟨rfl, k, os, rfl⟩
  exact ⟨rfl, below_grow _ _ _⟩
theorem At.set0 {w : World} {b : Nat} {cs : List Value} (h : At w b 0 cs) (k : Nat) (u : Value) : At (w.setCell ⟨b, k, none⟩ u) b 0 (cs.set k u) := by
  have := h.set_ k u
  rwa [Nat.zero_add] at this
theorem own_at {w : World} {g n : Nat} {cs : List Value} {bs : List Nat} (h : Own w (.slice (some ⟨g, 0, none⟩) n n) 1 n cs bs) (hn : 0 < n) : At w g 0 cs ∧ g < w.heap.size := by
  obtain ⟨A, c, he, _, _, _, hr⟩ := h
  rcases hr with ⟨h0, _⟩ | ⟨_, b, o, rfl, _, hb, hat⟩
  · omega
  · injection he with he
    injection he with he
    injection he with h1 h2
    subst h1 h2
    exact ⟨hat, hb⟩
def tpart (xs : List Int) (k : Nat) : List Value := (xs.take k).map (fun x => str (Lib.itoa x)) ++ List.replicate (xs.length - k) (.string ⟨#[]⟩)
theorem tpart_zero (xs : List Int) : List.replicate xs.length (Value.string ⟨#[]⟩) = tpart xs 0 := by simp [tpart]
theorem tpart_at {xs : List Int} {k : Nat} (h : k < xs.length) : (tpart xs k)[k]? = some (.string ⟨#[]⟩) := by
  have hl : ((xs.take k).map (fun x => str (Lib.itoa x))).length = k := by simp; omega
  unfold tpart
  rw [List.getElem?_append_right (by omega), hl, Nat.sub_self, List.getElem?_replicate, if_pos (by omega)]
theorem tpart_set {xs : List Int} {k : Nat} {x : Int} (h : xs[k]? = some x) : (tpart xs k).set k (str (Lib.itoa x)) = tpart xs (k + 1) := by
  obtain ⟨hk, hx⟩ := List.getElem?_eq_some_iff.1 h
  have hl : ((xs.take k).map (fun x => str (Lib.itoa x))).length = k := by simp; omega
  unfold tpart
  rw [List.set_append, if_neg (by omega), hl, Nat.sub_self, show xs.length - k = (xs.length - (k + 1)) + 1 from by omega, List.replicate_succ, List.set_cons_zero,
    List.take_add_one, h]
  simp
theorem tpart_all (xs : List Int) : tpart xs xs.length = xs.map fun x => str (Lib.itoa x) := by simp [tpart]
theorem join_call (g : Nat) (xs : List Int) (w : World) (hA : At w g 0 (tpart xs xs.length)) (hg : g < w.heap.size) (hl : xs.length ≤ 16777216) (hr : ∀ x ∈ xs, -9223372036854775808 ≤ x ∧ x ≤ 9223372036854775807) :
    Calls Tryd.prog 54 #[.slice (some ⟨g, 0, none⟩) xs.length xs.length, .string ⟨#[32]⟩] w fun e w' => e = .returned (str (line xs)) ∧ Below w.heap.size w w' := by
  have he : Lib.join ((xs.map fun x => (⟨(Lib.itoa x).toArray⟩ : ByteArray)).map (·.data.toList)) (⟨#[32]⟩ : ByteArray).data.toList = line xs := by
    simp [line, List.map_map, Function.comp_def]
  have hj := Tryd.strings_Join g 0 xs.length (xs.map fun x => (⟨(Lib.itoa x).toArray⟩ : ByteArray)) ⟨#[32]⟩ w (fun j y hy => by
    rw [tpart_all] at hA
    refine (hA j _ ?_).1
    rw [List.getElem?_map] at hy ⊢
    cases hx : xs[j]? with
    | none => rw [hx] at hy; cases hy
    | some x =>
      rw [hx] at hy
      injection hy with hy
      subst hy
      rfl) hg (by rw [List.length_map]; omega) (by rw [List.length_map]; omega) (by rw [he]; have := line_len _ xs rfl hr; omega)
  rw [he, List.length_map] at hj
  exact hj
theorem infoStr : (Tryd.prog.info? 9).map (fun i => (i.zero, i.size, i.bytes)) = some (some (.string ⟨#[]⟩), 1, 16) := by kernel_rfl
set_option maxRecDepth 20000 in
set_option maxHeartbeats 1000000 in
theorem impl_numbersText (v : Value) (xs : List Int) (w : World) (h : Rd w v 1 xs.length (ints xs)) (ht : Tab w) (hl : xs.length ≤ 16777216) (hxr : ∀ x ∈ xs, -9223372036854775808 ≤ x ∧ x ≤ 9223372036854775807) :
    Calls Tryd.prog 68 #[v] w fun e w' => e = .returned (str (line xs)) ∧ Below w.heap.size w w' := by
  obtain ⟨A, c, rfl, -, hnc, hc, hr⟩ := id h
  unfold maxLen at hc
  have HT := Lib.hid ht
  have HP := Lib.hid hxr
  clear h ht hxr
  obtain ⟨i, hi, hz0, hz1, hz2⟩ := info_parts infoStr
  go_enter Tryd.func68, Tryd.ntmps68
  go_wp2_with (at_make; refine wpList_make_full _ rfl _ _ 73 rfl w.heap.size 9 i (.string ⟨#[]⟩) 1 Tryd.underlying73 hi hz0 hz1 _ _ _ _ xs.length rfl rfl rfl rfl (by rw [hz2]; omega) (by unfold maxLen; omega) (Nat.le_refl _) ?_)
  intro w2 hown hg2
  rw [toList_madeCells_one, tpart_zero] at hown
  have hB2 : Below w.heap.size w w2 := (Below.refl _ _).grown hg2 (Nat.le_refl _) (by simp)
  clear hg2
  have hgl : w.heap.size < w2.heap.size := by
    rcases hown.2 with ⟨h0, _⟩ | ⟨g, cap, cur, h0, h1, hg, h2⟩
    · cases h0
    · injection h0 with h0 _ _
      injection h0 with h0
      injection h0 with h0
      subst h0
      exact (Array.getElem?_eq_some_iff.1 hg).1
  have hat : At w2 w.heap.size 0 (tpart xs 0) := by
    by_cases hn : 0 < xs.length
    · obtain ⟨bs, ho, hbs⟩ := Own.of_owns hown
      exact (own_at ho hn).1
    · intro j u hu
      have : xs = [] := List.eq_nil_of_length_eq_zero (by omega)
      subst this
      simp [tpart] at hu
  clear hown
  go_wp2_with fail
  go_loopw [11] (fun i wr => ∃ k : Nat, k ≤ xs.length ∧ i = .int .i64 k ∧ At wr w.heap.size 0 (tpart xs k) ∧ w.heap.size < wr.heap.size ∧ Below w.heap.size w wr) (fun i _ => xs.length - (intOf i).toNat)
  case atStart => exact ⟨0, Nat.zero_le _, rfl, hat, hgl, hB2⟩
  case round =>
    obtain ⟨k, hk, rfl, hA, hg, hBr⟩ := hrel
    clear hat hgl hB2
    by_cases hlt : k < xs.length
    · obtain ⟨b, o, rfl, hbl, hcell⟩ := hr (by omega)
      obtain ⟨x, hxk, hx⟩ := int_at hcell hlt
      have hx' := (hBr.cell (p := ⟨b, o + k, none⟩) hbl).trans hx
      have hxr : -9223372036854775808 ≤ x ∧ x ≤ 9223372036854775807 := HP.out x (List.mem_of_getElem? hxk.out)
      clear hcell hx hr
      have HA := Lib.hid hA
      clear hA
      go_wp2_with fail
      refine (itoa_call x _ hxr (HT.out.below hBr (Nat.le_refl _))).mono ?_
      rintro e w3 ⟨rfl, hb3⟩
      have hA3 := HA.out.of_block (hb3.block _ hg)
      have hg3 := Nat.lt_of_lt_of_le hg hb3.size
      have hB3 := hBr.trans (hb3.mono hBr.size)
      obtain ⟨hcA, hfA⟩ := hA3 k _ (tpart_at hlt)
      rw [Nat.zero_add] at hcA hfA
      go_wp2_with fail
      exact ⟨⟨k + 1, by omega, by go_num, (tpart_set hxk.out) ▸ hA3.set0 k (str (Lib.itoa x)), by simpa [World.setCell] using hg3, hB3.setCell (Nat.le_refl _) _⟩, by simp [intOf]; omega⟩
    · obtain rfl : k = xs.length := by omega
      go_wp2_with fail
      refine (join_call _ xs _ hA hg (by omega) HP.out).mono ?_
      rintro e w3 ⟨rfl, hb3⟩
      go_wp2_with fail
      go_ret
      exact ⟨rfl, hBr.trans (hb3.mono hBr.size)⟩
set_option maxRecDepth 20000 in
set_option maxHeartbeats 1000000 in
theorem impl_MemText (v : Value) (xs : List Int) (w : World) (h : Rd w v 1 xs.length (ints xs)) (ht : Tab w) :
    Calls Tryd.prog 64 #[.agg #[v]] w fun e w' => e = .returned (str (memTextF xs)) ∧ Below w.heap.size w w' := by
  obtain ⟨A, c, rfl, -, hnc, hc, hr⟩ := id h
  unfold maxLen at hc
  have HH := Lib.hid h
  have HT := Lib.hid ht
  clear h ht
  cases hm : memOk xs
  · go_enter Tryd.func64, Tryd.ntmps64
    go_wp2_with fail
    refine (impl_MemOk _ xs _ (HH.out.below ((Below.refl _ _).alloc (Nat.le_refl _) _))).mono ?_
    rintro e w1 ⟨rfl, hb⟩
    rw [hm]
    go_wp2_with fail
    go_ret
    exact ⟨ret_str (by simp [memTextF, hm]), ((Below.refl _ _).alloc (Nat.le_refl _) _).trans (hb.mono (by simp))⟩
  · have hp := memOk_parts hm
    have hp2 := hp.2.1
    have HP := Lib.hid hp.2.2
    clear hp
    go_enter Tryd.func64, Tryd.ntmps64
    go_wp2_with fail
    refine (impl_MemOk _ xs _ (HH.out.below ((Below.refl _ _).alloc (Nat.le_refl _) _))).mono ?_
    rintro e w1 ⟨rfl, hb⟩
    rw [hm]
    have k1 := (Bk.new w #[.slice A xs.length c] 49).below hb (by simp)
    have hB := ((Below.refl w.heap.size w).alloc (Nat.le_refl _) _).trans (hb.mono (by simp))
    clear hb
    obtain ⟨hc1, hf1⟩ := k1.at_ 0 (x := .slice A xs.length c) rfl
    have HM := Lib.hid hm
    clear hm
    go_wp2_with fail
    refine (impl_numbersText _ xs _ (HH.out.below hB) (HT.out.below hB (Nat.le_refl _)) (by omega) (fun x hx => by have := HP.out x hx; omega)).mono ?_
    rintro e w3 ⟨rfl, hb3⟩
    go_wp2_with fail
    go_ret
    exact ⟨ret_str (by simp [memTextF, HM.out]), hB.trans (hb3.mono hB.size)⟩
end Go.Proofs.YtiflooopfpcelacDoor
