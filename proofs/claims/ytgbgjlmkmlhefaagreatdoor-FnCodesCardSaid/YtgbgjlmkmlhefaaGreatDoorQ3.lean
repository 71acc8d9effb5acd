/- Plain: what FnCodes asks of a valid code: its text is read back; fences put in twice are as once; behind each store stands a fence. -/
import Derived.Test.YtgbgjlmkmlhefaaGreatDoorS4
namespace Go.Proofs.YtgbgjlmkmlhefaaGreatDoor
set_option maxRecDepth 20000
set_option linter.unusedSimpArgs false
set_option linter.unusedVariables false
open Go.ChangeShapes Go.WideShapes Go.ChangeAt Go.RowKit
theorem itoa_no32 (v : Int) : ∀ b ∈ Lib.itoa v, b ≠ 32 := itoa_bytes v
theorem wordF_no32 {o : Int} (h : inB o 0 8 = true) : ∀ b ∈ wordF o, b ≠ 32 := by
  rcases op_cases h with rfl | rfl | rfl | rfl | rfl | rfl | rfl | rfl | rfl <;> decide
theorem parts_args (x : Ins) : ∀ (f : List UInt8) (p : List UInt8), (∀ b ∈ p, b ≠ 32) → partsF 32 (p ++ f.flatMap (argF x)) = p :: f.map fun c => Lib.itoa (fldF x c)
  | [], p, h => by simp [partsF_miss 32 p h]
  | c :: f, p, h => by
    have e : p ++ (c :: f).flatMap (argF x) = p ++ 32 :: (Lib.itoa (fldF x c) ++ f.flatMap (argF x)) := by simp [argF]
    rw [e, partsF_hit 32 p _ h, parts_args x f _ (itoa_no32 _)]
    rfl
theorem nz {b : Bool} {v : Int} (hb : b = false) (h : (b || v == 0) = true) : v = 0 := by
  subst hb
  simpa using h
theorem insOk_parts {x : Ins} {cells size : Int} (h : insOk x cells size = true) : inB cells 1 16 = true ∧ inB size 0 16 = true ∧ inB x.o 0 8 = true ∧ inB x.r 0 3 = true ∧ inB x.s 0 3 = true ∧ (namedF x.o 114 || x.r == 0) = true ∧ (namedF x.o 115 || x.s == 0) = true ∧ (namedF x.o 110 || x.n == 0) = true ∧ nOkF x cells size = true := by
  simp only [insOk, Bool.and_eq_true] at h
  obtain ⟨⟨⟨⟨⟨⟨⟨⟨h1, h2⟩, h3⟩, h4⟩, h5⟩, h6⟩, h7⟩, h8⟩, h9⟩ := h
  exact ⟨h1, h2, h3, h4, h5, h6, h7, h8, h9⟩
theorem insOk_n {x : Ins} {cells size : Int} (h : insOk x cells size = true) : -1000 ≤ x.n ∧ x.n ≤ 1000 := by
  obtain ⟨h1, h2, h3, -, -, -, -, h8, h9⟩ := insOk_parts h
  have i1 := inB_true h1
  have i2 := inB_true h2
  obtain ⟨o, r, s, n⟩ := x
  rcases op_cases h3 with h | h | h | h | h | h | h | h | h <;> simp only at h <;> subst h
  · have := inB_true (show inB n (-1000) 1000 = true from h9); exact this
  · have e : n = 0 := nz (show namedF 1 110 = false from rfl) h8; show -1000 ≤ n ∧ n ≤ 1000; omega
  · have := inB_true (show inB n 0 (cells - 1) = true from h9); show -1000 ≤ n ∧ n ≤ 1000; omega
  · have := inB_true (show inB n 0 (cells - 1) = true from h9); show -1000 ≤ n ∧ n ≤ 1000; omega
  · have e : n = 0 := nz (show namedF 4 110 = false from rfl) h8; show -1000 ≤ n ∧ n ≤ 1000; omega
  · have := inB_true (show inB n 0 (cells - 1) = true from h9); show -1000 ≤ n ∧ n ≤ 1000; omega
  · have := inB_true (show inB n 0 size = true from h9); show -1000 ≤ n ∧ n ≤ 1000; omega
  · have := inB_true (show inB n 0 (cells - 1) = true from h9); show -1000 ≤ n ∧ n ≤ 1000; omega
  · have e : n = 0 := nz (show namedF 8 110 = false from rfl) h8; show -1000 ≤ n ∧ n ≤ 1000; omega
theorem fld_small {x : Ins} {cells size : Int} (h : insOk x cells size = true) (c : UInt8) : valB (fldF x c) = true := by
  obtain ⟨h1, h2, h3, h4, h5, -⟩ := insOk_parts h
  have hr := inB_true h4
  have hs := inB_true h5
  have hn := insOk_n h
  unfold fldF valB inB
  split
  · simp; omega
  · split
    · simp; omega
    · simp; omega
theorem valF_itoa {v : Int} (h : valB v = true) : valF (Lib.itoa v) = some v := by
  have h1 := inB_true (show inB v (-1000000) 1000000 = true from h)
  exact valF_some.2 ⟨readF_itoa (by omega), h⟩
theorem build_fields {x : Ins} {cells size : Int} (h : insOk x cells size = true) : buildI x.o (formF x.o) ((formF x.o).map (fldF x)) = x := by
  obtain ⟨-, -, h3, -, -, h6, h7, h8, -⟩ := insOk_parts h
  obtain ⟨o, r, s, n⟩ := x
  rcases op_cases h3 with h | h | h | h | h | h | h | h | h <;> simp only at h <;> subst h
  · have hs : s = 0 := nz (show namedF 0 115 = false from rfl) h7
    subst hs; rfl
  · have hn : n = 0 := nz (show namedF 1 110 = false from rfl) h8
    subst hn; rfl
  · have hs : s = 0 := nz (show namedF 2 115 = false from rfl) h7
    subst hs; rfl
  · have hs : s = 0 := nz (show namedF 3 115 = false from rfl) h7
    subst hs; rfl
  · have hr : r = 0 := nz (show namedF 4 114 = false from rfl) h6
    have hs : s = 0 := nz (show namedF 4 115 = false from rfl) h7
    have hn : n = 0 := nz (show namedF 4 110 = false from rfl) h8
    subst hr hs hn; rfl
  · rfl
  · have hs : s = 0 := nz (show namedF 6 115 = false from rfl) h7
    subst hs; rfl
  · rfl
  · have hn : n = 0 := nz (show namedF 8 110 = false from rfl) h8
    subst hn; rfl
theorem flat_args_len {x : Ins} : ∀ (f : List UInt8), (∀ c, (Lib.itoa (fldF x c)).length ≤ 8) → (f.flatMap (argF x)).length ≤ 9 * f.length
  | [], _ => by simp
  | c :: f, h => by
    have h1 := flat_args_len f h
    have h2 := h c
    simp only [List.flatMap_cons, List.length_append, List.length_cons, argF]
    omega
theorem parse_text {x : Ins} {cells size : Int} (h : insOk x cells size = true) : parseIF (instrTF x) = some x := by
  obtain ⟨-, -, h3, -⟩ := insOk_parts h
  have hk := inB_true h3
  obtain ⟨k, hko⟩ : ∃ k : Nat, x.o = k := ⟨x.o.toNat, by omega⟩
  have hlen : ¬ 60 < (instrTF x).length := by
    have h1 := wordF_len h3
    have h2 := flat_args_len (x := x) (formF x.o) (fun c => itoa_len (by have := inB_true (show inB (fldF x c) (-1000000) 1000000 = true from fld_small h c); omega))
    have h4 := formF_len x.o
    unfold instrTF
    rw [if_pos h3, List.length_append]
    omega
  unfold parseIF
  rw [if_neg hlen]
  unfold instrTF
  rw [if_pos h3, parts_args x _ _ (wordF_no32 h3), parseW_named (k := k) (by omega) (by rw [← hko]), ← hko, if_pos (by simp)]
  have hm : ((formF x.o).map fun c => Lib.itoa (fldF x c)).mapM valF = some ((formF x.o).map (fldF x)) :=
    mapM_get.2 ⟨by simp, fun j a b ha hb => by
      rw [List.getElem?_map] at ha hb
      cases hc : (formF x.o)[j]? with
      | none => rw [hc] at ha; cases ha
      | some c =>
        rw [hc] at ha hb
        injection ha with ha
        injection hb with hb
        subst ha hb
        exact valF_itoa (fld_small h c)⟩
  rw [hm, Option.map_some, build_fields h]
/-- the text of a valid code is read back -/
theorem code_text {xs : List Ins} {cells : Int} (h : codeOkF cells xs = true) : codeTF xs = some (ctext xs) ∧ codeCF (ctext xs) = some xs := by
  unfold codeOkF at h
  rw [Bool.and_eq_true, decide_eq_true_eq, List.all_eq_true] at h
  obtain ⟨hl, hall⟩ := h
  have hop : opsOk xs = true := by
    unfold opsOk
    rw [List.all_eq_true]
    intro x hx
    exact (insOk_parts (hall x hx)).2.2.1
  refine ⟨by unfold codeTF; rw [if_pos ⟨hl, hop⟩], ?_⟩
  cases xs with
  | nil => simp [ctext, Lib.join_nil, codeCF]
  | cons x0 xs =>
    have hp : ∀ p ∈ instrTF x0 :: xs.map instrTF, ∀ b ∈ p, b ≠ 59 := by
      intro p hp
      have : p ∈ (x0 :: xs).map instrTF := hp
      obtain ⟨y, hy, rfl⟩ := List.mem_map.1 this
      exact (parseIF_no59 (parse_text (hall y hy))).1
    have hct : ctext (x0 :: xs) = Lib.join (instrTF x0 :: xs.map instrTF) sepC := rfl
    have hne : ctext (x0 :: xs) ≠ [] := by
      obtain ⟨c, L, hcl⟩ := instrTF_ne (insOk_parts (hall x0 (by simp))).2.2.1
      rw [hct, Lib.join_cons, hcl]
      simp
    have hparts := parts_of_join (xs.map instrTF) (instrTF x0) hp
    have hpl := partsF_len 59 (ctext (x0 :: xs))
    rw [hct, hparts] at hpl
    have hpc : piecesC (ctext (x0 :: xs)) = instrTF x0 :: xs.map instrTF := by
      unfold piecesC
      rw [hct]
      exact splitK_join _ _ _ hp (by simp at hl hpl ⊢; omega)
    unfold codeCF
    rw [if_neg hne, hpc, if_neg (by simp at hl ⊢; omega)]
    refine mapM_get.2 ⟨by simp, fun j a b ha hb => ?_⟩
    have ha' : ((x0 :: xs).map instrTF)[j]? = some a := ha
    rw [List.getElem?_map, hb] at ha'
    injection ha' with ha'
    subst ha'
    exact parse_text (hall b (List.mem_of_getElem? hb))
/-- each store but perhaps the last instruction has a fence behind it -/
def Fenced (L : List Ins) : Prop := ∀ (j : Nat) (x : Ins), L[j]? = some x → x.o = 3 → ∀ y : Ins, L[j + 1]? = some y → y.o = 4
theorem fenced_snoc {L : List Ins} {x : Ins} (h : Fenced L) (hl : ∀ z : Ins, L[L.length - 1]? = some z → z.o = 3 → x.o = 4) : Fenced (L ++ [x]) := by
  intro j a ha ha3 y hy
  have hj : j + 1 < (L ++ [x]).length := (List.getElem?_eq_some_iff.1 hy).1
  rw [List.length_append, List.length_singleton] at hj
  rw [List.getElem?_append_left (by omega)] at ha
  by_cases e : j + 1 < L.length
  · rw [List.getElem?_append_left e] at hy
    exact h j a ha ha3 y hy
  · rw [List.getElem?_append_right (by omega), show j + 1 - L.length = 0 by omega] at hy
    simp at hy
    subst hy
    exact hl a (by rw [show L.length - 1 = j by omega]; exact ha) ha3
theorem last_snoc {L : List Ins} {x z : Ins} (h : (L ++ [x])[(L ++ [x]).length - 1]? = some z) : z = x := by
  rw [List.length_append, List.length_singleton, Nat.add_sub_cancel, List.getElem?_append_right (Nat.le_refl _), Nat.sub_self] at h
  simpa using h.symm
/-- what fences give, instruction by instruction -/
theorem fenAt_fenced (xs : List Ins) : ∀ k, k ≤ xs.length → Fenced (fenAt xs k) ∧ ∀ z : Ins, (fenAt xs k)[(fenAt xs k).length - 1]? = some z → z.o = 3 → ∃ y : Ins, xs[k]? = some y ∧ y.o = 4
  | 0, _ => ⟨by intro j x hx; simp [fenAt] at hx, by intro z hz; simp [fenAt] at hz⟩
  | k + 1, hk => by
    obtain ⟨h1, h2⟩ := fenAt_fenced xs k (by omega)
    have hxk : xs[k]? = some xs[k] := List.getElem?_eq_getElem (by omega)
    rw [fenAt_snoc hxk]
    have hA : Fenced (fenAt xs k ++ [xs[k]]) := fenced_snoc h1 fun z hz hz3 => by
      obtain ⟨y, hy, hy4⟩ := h2 z hz hz3
      rw [hxk] at hy
      injection hy with hy
      rw [hy]
      exact hy4
    cases hlk : lacksB xs k
    · simp only [Bool.false_eq_true, if_false, List.append_nil]
      refine ⟨hA, fun z hz hz3 => ?_⟩
      have e := last_snoc hz
      subst e
      unfold lacksB at hlk
      rw [hxk] at hlk
      simp only [hz3, beq_self_eq_true, Bool.true_and] at hlk
      cases hy : xs[k + 1]? with
      | none => rw [hy] at hlk; cases hlk
      | some y =>
        rw [hy] at hlk
        exact ⟨y, rfl, by simpa using hlk⟩
    · simp only [if_true]
      refine ⟨fenced_snoc hA fun z _ _ => rfl, fun z hz hz3 => ?_⟩
      have e := last_snoc hz
      rw [e] at hz3
      cases hz3
theorem fenced_all (xs : List Ins) : ∀ (j : Nat) (x : Ins), (fenAt xs xs.length)[j]? = some x → x.o = 3 → ∃ y : Ins, (fenAt xs xs.length)[j + 1]? = some y ∧ y.o = 4 := by
  obtain ⟨h1, h2⟩ := fenAt_fenced xs xs.length (Nat.le_refl _)
  intro j x hx hx3
  have hj := (List.getElem?_eq_some_iff.1 hx).1
  by_cases e : j + 1 < (fenAt xs xs.length).length
  · exact ⟨_, List.getElem?_eq_getElem e, h1 j x hx hx3 _ (List.getElem?_eq_getElem e)⟩
  · obtain ⟨y, hy, -⟩ := h2 x (by rw [show (fenAt xs xs.length).length - 1 = j by omega]; exact hx) hx3
    rw [List.getElem?_eq_none (Nat.le_refl _)] at hy
    cases hy
theorem retI_o (M : List Int) (i : Ins) : (retI M i).o = i.o := by unfold retI; split <;> rfl
/-- behind each store of the answer stands a fence -/
theorem wf_fenced {xs ys : List Ins} (h : wfF xs = some ys) {j : Nat} {x : Ins} (hx : ys[j]? = some x) (hx3 : x.o = 3) : ∃ y : Ins, ys[j + 1]? = some y ∧ y.o = 4 := by
  unfold wfF at h
  split at h
  · injection h with h
    subst h
    rw [List.getElem?_map] at hx
    cases ha : (fenAt xs xs.length)[j]? with
    | none => rw [ha] at hx; cases hx
    | some a =>
      rw [ha] at hx
      injection hx with hx
      subst hx
      rw [retI_o] at hx3
      obtain ⟨y, hy, hy4⟩ := fenced_all xs j a ha hx3
      exact ⟨retI _ y, by rw [List.getElem?_map, hy]; rfl, by rw [retI_o]; exact hy4⟩
  · cases h
/-- a code whose stores all have fences behind them stays as it is -/
theorem wf_id {ys : List Ins} (hl : ys.length ≤ 16) (ht : tgtOk ys = true) (hf : ∀ (j : Nat) (x : Ins), ys[j]? = some x → x.o = 3 → ∃ y : Ins, ys[j + 1]? = some y ∧ y.o = 4) : wfF ys = some ys := by
  have hlk : ∀ k, lacksB ys k = false := by
    intro k
    unfold lacksB
    cases hx : ys[k]? with
    | none => rfl
    | some x =>
      by_cases h3 : x.o = 3
      · obtain ⟨y, hy, hy4⟩ := hf k x hx h3
        simp [hy, hy4]
      · simp [h3]
  have hfe : ∀ k, k ≤ ys.length → fenAt ys k = ys.take k := by
    intro k
    induction k with
    | zero => intro _; simp [fenAt]
    | succ k ih =>
      intro hk
      have hx : ys[k]? = some ys[k] := List.getElem?_eq_getElem (by omega)
      rw [fenAt_snoc hx, ih (by omega), hlk k, List.take_add_one, hx]
      simp
  have hall := hfe ys.length (Nat.le_refl _)
  rw [List.take_length] at hall
  unfold wfF
  rw [hall, if_pos ⟨hl, ht, hl⟩]
  congr 1
  apply List.ext_getElem?
  intro j
  rw [List.getElem?_map]
  cases hx : ys[j]? with
  | none => rfl
  | some x =>
    rw [Option.map_some]
    congr 1
    unfold retI
    split
    · rename_i h6
      have ht' := List.all_eq_true.1 ht x (List.mem_of_getElem? hx)
      simp only [tgtB, h6] at ht'
      have hn := inB_true (show inB x.n 0 ys.length = true by simpa using ht')
      have hm : (movAt ys (ys.length + 1)).getD x.n.toNat 0 = x.n := by
        unfold movAt
        rw [List.getD_eq_getElem?_getD, List.getElem?_map, List.getElem?_range (by omega)]
        simp only [Option.map_some, Option.getD_some]
        rw [hfe _ (by omega), List.length_take]
        omega
      rw [hm]
    · rfl
theorem fenAt_mono (xs : List Ins) : ∀ a b, a ≤ b → (fenAt xs a).length ≤ (fenAt xs b).length := by
  intro a b hab
  induction b with
  | zero => simp [show a = 0 by omega]
  | succ b ih =>
    by_cases e : a = b + 1
    · subst e
      exact Nat.le_refl _
    · have := ih (by omega)
      rw [fenAt, List.length_append]
      omega
/-- putting fences in twice is as putting them in once -/
theorem wf_twice {xs ys : List Ins} (h : wfF xs = some ys) : wfF ys = some ys := by
  have h0 := h
  unfold wfF at h
  split at h
  · rename_i hc
    obtain ⟨hl, ht, hl2⟩ := hc
    injection h with h
    refine wf_id (by rw [← h]; simpa using hl2) ?_ (fun j x hx h3 => wf_fenced h0 hx h3)
    unfold tgtOk
    rw [List.all_eq_true]
    intro y hy
    rw [← h] at hy
    obtain ⟨x, hx, rfl⟩ := List.mem_map.1 hy
    unfold tgtB
    rw [retI_o]
    by_cases h6 : x.o = 6
    · have hn := fenAt_tgt ht hx h6
      have hm : (retI (movAt xs (xs.length + 1)) x).n = ((fenAt xs x.n.toNat).length : Int) := by
        unfold retI
        rw [if_pos h6]
        show (movAt xs (xs.length + 1)).getD x.n.toNat 0 = _
        unfold movAt
        rw [List.getD_eq_getElem?_getD, List.getElem?_map, List.getElem?_range (by omega)]
        rfl
      have hle := fenAt_mono xs x.n.toNat xs.length (by omega)
      have hyl : ys.length = (fenAt xs xs.length).length := by rw [← h]; simp
      rw [hm, hyl]
      simp [h6, inB]
      omega
    · simp [h6]
  · cases h
end Go.Proofs.YtgbgjlmkmlhefaaGreatDoor
