import Derived.Test.YtgbgjlmkmlhefaaGreatDoorKF
import Derived.Lib.IndexMore
import Derived.Test.YtgbgjlmkmlhefaaGreatDoorS2e
import Derived.Deep.DeepCutAuto
/- Plain: what text is a code's, by the library's split at "; " and by the model's parts. -/
namespace Go.Proofs.YtgbgjlmkmlhefaaGreatDoor
set_option maxRecDepth 20000
set_option linter.unusedSimpArgs false
set_option linter.unusedVariables false
open Go.ChangeShapes Go.WideShapes Go.ChangeAt Go.RowKit
abbrev sepC : List UInt8 := [59, 32]
def piecesC (s : List UInt8) : List (List UInt8) := Lib.splitK sepC 0 (min 17 (s.length + 1) - 1) s
def codeCF (s : List UInt8) : Option (List Ins) := if s = [] then some [] else if 16 < (piecesC s).length then none else (piecesC s).mapM parseIF
def stepF (j : Nat) (p : List UInt8) : Option Ins := (if j = 0 then some p else if p.head? = some 32 then some p.tail else none).bind parseIF
def Good (ps : List (List UInt8)) (xs : List Ins) : Prop := ps.length = xs.length ∧ ∀ j p x, ps[j]? = some p → xs[j]? = some x → stepF j p = some x
theorem idx_hit (r : List UInt8) : ∀ p : List UInt8, (∀ b ∈ p, b ≠ 59) → Lib.index (p ++ 59 :: 32 :: r) sepC = (p.length : Int)
  | [], _ => by simp [Lib.index, List.isPrefixOf]
  | b :: p, h => by
    have ih := idx_hit r p (fun x hx => h x (by simp [hx]))
    have hb : (59 == b) = false := by simpa using (h b (by simp)).symm
    have hn : ((p.length : Int) == -1) = false := by simp
    rw [List.cons_append, Lib.index, ih]
    simp [List.isPrefixOf, hb]
theorem idx_miss : ∀ p : List UInt8, (∀ b ∈ p, b ≠ 59) → Lib.index p sepC = -1
  | [], _ => by simp [Lib.index]
  | b :: p, h => by
    have ih := idx_miss p (fun x hx => h x (by simp [hx]))
    have hb : (59 == b) = false := by simpa using (h b (by simp)).symm
    rw [Lib.index, ih]
    simp [List.isPrefixOf, hb]
theorem join_cons2 (t u : List UInt8) (l : List (List UInt8)) (sep : List UInt8) : Lib.join (t :: u :: l) sep = t ++ sep ++ Lib.join (u :: l) sep := by
  rw [Lib.join_cons, Lib.join_cons]
  simp [Lib.joinTail]
theorem splitK_join : ∀ (l : List (List UInt8)) (t : List UInt8) (k : Nat), (∀ p ∈ t :: l, ∀ b ∈ p, b ≠ 59) → l.length ≤ k → Lib.splitK sepC 0 k (Lib.join (t :: l) sepC) = t :: l
  | [], t, k, h, _ => by
    rw [Lib.join_one]
    cases k with
    | zero => rfl
    | succ k => rw [Lib.splitK, idx_miss t (h t (by simp))]; rfl
  | u :: l, t, 0, _, hk => by simp at hk
  | u :: l, t, k + 1, h, hk => by
    have hi := idx_hit (Lib.join (u :: l) sepC) t (h t (by simp))
    have e : Lib.join (t :: u :: l) sepC = t ++ 59 :: 32 :: Lib.join (u :: l) sepC := by rw [join_cons2]; simp
    have hn : ((t.length : Int) == -1) = false := by simp
    rw [e, Lib.splitK, hi, hn]
    have ih := splitK_join l u k (fun p hp => h p (by simp at hp ⊢; exact .inr hp)) (by simpa using hk)
    have hd : (t ++ 59 :: 32 :: Lib.join (u :: l) sepC).drop (t.length + 2) = Lib.join (u :: l) sepC := by
      rw [List.drop_append]
      simp
    simp [hd, ih]
theorem join_splitK : ∀ (k : Nat) (s : List UInt8), Lib.join (Lib.splitK sepC 0 k s) sepC = s ∧ Lib.splitK sepC 0 k s ≠ []
  | 0, s => ⟨by rw [Lib.splitK, Lib.join_one], by simp [Lib.splitK]⟩
  | k + 1, s => by
    rw [Lib.splitK]
    rcases Lib.index_spec s sepC with ⟨h, -⟩ | ⟨i, h, hi, ho, -⟩
    · rw [h]
      exact ⟨by simp [Lib.join_one], by simp⟩
    · have hn : ((i : Int) == -1) = false := by simp
      rw [h, hn]
      obtain ⟨ih1, ih2⟩ := join_splitK k (s.drop (i + 2))
      obtain ⟨u, l, hul⟩ := List.exists_cons_of_ne_nil ih2
      have hp : sepC <+: s.drop i := by
        have := ho
        unfold Lib.occAt at this
        exact List.isPrefixOf_iff_prefix.1 this
      obtain ⟨r, hr⟩ := hp
      have hs : s = s.take i ++ (sepC ++ r) := by rw [hr, List.take_append_drop]
      have hdr : s.drop (i + 2) = r := by rw [← List.drop_drop, ← hr]; rfl
      refine ⟨?_, by simp⟩
      have e2 : (if false = true then [s] else s.take ((i : Int).toNat + 0) :: Lib.splitK sepC 0 k (s.drop ((i : Int).toNat + sepC.length))) = s.take i :: u :: l := by
        simp [← hul]
      rw [e2, join_cons2, ← hul, ih1, hdr]
      conv => rhs; rw [hs]
      simp
theorem parts_join (c : UInt8) : ∀ s : List UInt8, Lib.join (partsF c s) [c] = s
  | [] => by simp [partsF, Lib.join_one]
  | b :: s => by
    have ih := parts_join c s
    obtain ⟨p, ps, hp⟩ := List.exists_cons_of_ne_nil (partsF_ne c s)
    rw [partsF, hp]
    rw [hp] at ih
    split
    · rename_i hb
      subst hb
      rw [join_cons2, ih]
      simp
    · cases ps with
      | nil => rw [Lib.join_one] at ih ⊢; rw [ih]
      | cons u l => rw [join_cons2] at ih ⊢; simp [← ih]
theorem parts_of_join : ∀ (l : List (List UInt8)) (t : List UInt8), (∀ p ∈ t :: l, ∀ b ∈ p, b ≠ 59) → partsF 59 (Lib.join (t :: l) sepC) = t :: l.map (32 :: ·)
  | [], t, h => by rw [Lib.join_one, partsF_miss 59 t (h t (by simp))]; rfl
  | u :: l, t, h => by
    have ih := parts_of_join l u (fun p hp => h p (by simp at hp ⊢; exact .inr hp))
    have e : Lib.join (t :: u :: l) sepC = t ++ 59 :: (32 :: Lib.join (u :: l) sepC) := by rw [join_cons2]; simp
    rw [e, partsF_hit 59 t _ (h t (by simp)), partsF, ih]
    simp
theorem mem_join {b : UInt8} {sep : List UInt8} : ∀ {l : List (List UInt8)}, b ∈ Lib.join l sep → b ∈ sep ∨ ∃ p ∈ l, b ∈ p
  | [], h => by simp [Lib.join_nil] at h
  | [p], h => by rw [Lib.join_one] at h; exact .inr ⟨p, by simp, h⟩
  | p :: u :: l, h => by
    rw [join_cons2, List.mem_append, List.mem_append] at h
    rcases h with (h | h) | h
    · exact .inr ⟨p, by simp, h⟩
    · exact .inl h
    · rcases mem_join h with h | ⟨q, hq, h⟩
      · exact .inl h
      · exact .inr ⟨q, by simp at hq ⊢; exact .inr hq, h⟩
theorem itoa_no59 (v : Int) : ∀ b ∈ Lib.itoa v, b ≠ 59 := by
  have hd : ∀ n, ∀ b ∈ Lib.decDigits n, b ≠ 59 := fun n b hb e => by
    obtain ⟨k, hk⟩ := List.getElem?_of_mem hb
    obtain ⟨d, hd⟩ := Lib.digit_of_decFrom _ 0 n (decFrom_digits n) k b hk
    rw [e] at hd
    cases hd
  unfold Lib.itoa
  split
  · intro b hb
    rcases List.mem_cons.1 hb with rfl | hb
    · decide
    · exact hd _ b hb
  · exact hd _
theorem wordF_no59 {k : Nat} (h : k < 9) : ∀ b ∈ wordF k, b ≠ 59 := by
  rcases lt9 h with rfl | rfl | rfl | rfl | rfl | rfl | rfl | rfl | rfl <;> decide
/-- a text that is an instruction holds no semicolon, and is short -/
theorem parseIF_no59 {p : List UInt8} {x : Ins} (h : parseIF p = some x) : (∀ b ∈ p, b ≠ 59) ∧ p.length ≤ 60 := by
  unfold parseIF at h
  split at h
  · cases h
  · rename_i hl
    refine ⟨fun b hb => ?_, by omega⟩
    rw [← parts_join 32 p] at hb
    obtain ⟨p0, ps, hps⟩ := List.exists_cons_of_ne_nil (partsF_ne 32 p)
    rw [hps] at h hb
    unfold parseW at h
    cases hf : (List.range 9).find? (matchB (p0 :: ps)) with
    | none => rw [hf] at h; cases h
    | some k =>
      rw [hf] at h
      have hk : k < 9 := List.mem_range.1 (List.mem_of_find?_eq_some hf)
      have hm := List.find?_some hf
      simp only [matchB, Bool.and_eq_true, List.head?_cons, beq_iff_eq, Option.some.injEq] at hm
      cases hv : (p0 :: ps).tail.mapM valF with
      | none => simp only [hv] at h; cases h
      | some vs =>
        rcases mem_join hb with hb1 | ⟨q, hq, hb2⟩
        · rw [List.mem_singleton] at hb1
          rw [hb1]
          decide
        · rcases List.mem_cons.1 hq with rfl | hq
          · rw [hm.1] at hb2
            exact wordF_no59 hk b hb2
          · obtain ⟨v, -, h2⟩ := mapM_mem hv q hq
            have h3 := (readF_some (valF_some.1 h2).1).1
            rw [← h3] at hb2
            exact itoa_no59 v b hb2
theorem join_len : ∀ (l : List (List UInt8)), (∀ p ∈ l, p.length ≤ 60) → (Lib.join l sepC).length ≤ 62 * l.length
  | [], _ => by simp [Lib.join_nil]
  | [p], h => by rw [Lib.join_one]; have := h p (by simp); simp; omega
  | p :: u :: l, h => by
    rw [join_cons2]
    have h1 := h p (by simp)
    have h2 := join_len (u :: l) (fun q hq => h q (by simp at hq ⊢; exact .inr hq))
    simp only [List.length_append, List.length_cons, List.length_nil] at *
    omega
theorem stepF_zero (p : List UInt8) : stepF 0 p = parseIF p := by simp [stepF]
theorem stepF_succ (j : Nat) (q : List UInt8) : stepF (j + 1) (32 :: q) = parseIF q := by simp [stepF]
theorem stepF_inv {j : Nat} {p : List UInt8} {x : Ins} (h : stepF (j + 1) p = some x) : ∃ q, p = 32 :: q ∧ parseIF q = some x := by
  unfold stepF at h
  rw [if_neg (by omega)] at h
  cases p with
  | nil => simp at h
  | cons c q =>
    by_cases hc : c = 32
    · subst hc
      exact ⟨q, rfl, by simpa using h⟩
    · simp [hc] at h
theorem mapM_get {α β : Type} {f : α → Option β} : ∀ {l : List α} {r : List β}, l.mapM f = some r ↔ l.length = r.length ∧ ∀ (j : Nat) (a : α) (b : β), l[j]? = some a → r[j]? = some b → f a = some b
  | [], r => by
    constructor
    · intro h
      simp at h
      subst h
      simp
    · rintro ⟨h, -⟩
      have : r = [] := List.eq_nil_of_length_eq_zero (by simpa using h.symm)
      subst this
      rfl
  | a :: l, r => by
    rw [List.mapM_cons]
    constructor
    · intro h
      cases ha : f a with
      | none => rw [ha] at h; cases h
      | some b =>
        rw [ha] at h
        cases hl : l.mapM f with
        | none => rw [hl] at h; cases h
        | some bs =>
          rw [hl] at h
          injection h with h
          subst h
          obtain ⟨h1, h2⟩ := mapM_get.1 hl
          refine ⟨by simp [h1], fun j a' b' hj hb => ?_⟩
          cases j with
          | zero => simp at hj hb; subst hj hb; exact ha
          | succ j => exact h2 j a' b' (by simpa using hj) (by simpa using hb)
    · rintro ⟨h1, h2⟩
      cases r with
      | nil => simp at h1
      | cons b bs =>
        have ha := h2 0 a b rfl rfl
        have hl : l.mapM f = some bs := mapM_get.2 ⟨by simpa using h1, fun j a' b' hj hb => h2 (j + 1) a' b' (by simpa using hj) (by simpa using hb)⟩
        rw [ha, hl]
        rfl
theorem code_to {s : List UInt8} {xs : List Ins} (hs : s ≠ []) (h : codeCF s = some xs) : s.length ≤ 992 ∧ xs.length ≤ 16 ∧ Good (partsF 59 s) xs := by
  unfold codeCF at h
  rw [if_neg hs] at h
  split at h
  · cases h
  · rename_i hl
    obtain ⟨h1, h2⟩ := mapM_get.1 h
    obtain ⟨hj, hne⟩ := join_splitK (min 17 (s.length + 1) - 1) s
    have hp : ∀ p ∈ piecesC s, (∀ b ∈ p, b ≠ 59) ∧ p.length ≤ 60 := fun p hp => by
      obtain ⟨x, -, hx⟩ := mapM_mem h p hp
      exact parseIF_no59 hx
    obtain ⟨t, l, htl⟩ := List.exists_cons_of_ne_nil hne
    have hpe : piecesC s = t :: l := htl
    rw [htl] at hj
    have hlen := join_len (t :: l) (fun p hq => (hp p (by rw [hpe]; exact hq)).2)
    rw [hj] at hlen
    rw [hpe] at h1 h2 hl hp
    have hparts := parts_of_join l t (fun p hq => (hp p hq).1)
    rw [hj] at hparts
    simp only [List.length_cons] at hlen hl h1
    refine ⟨by omega, by omega, ?_, ?_⟩
    · rw [hparts]
      simp
      omega
    · rw [hparts]
      intro j p x hj' hx
      cases j with
      | zero =>
        simp at hj'
        subst hj'
        rw [stepF_zero]
        exact h2 0 t x rfl hx
      | succ j =>
        simp only [List.getElem?_cons_succ, List.getElem?_map] at hj'
        cases hq : l[j]? with
        | none => rw [hq] at hj'; cases hj'
        | some q =>
          rw [hq] at hj'
          injection hj' with hj'
          subst hj'
          rw [stepF_succ]
          exact h2 (j + 1) q x (by simpa using hq) hx
theorem code_from {s : List UInt8} {xs : List Ins} (hs : s ≠ []) (hl : xs.length ≤ 16) (h : Good (partsF 59 s) xs) : codeCF s = some xs := by
  obtain ⟨p0, ps, hps⟩ := List.exists_cons_of_ne_nil (partsF_ne 59 s)
  rw [hps] at h
  obtain ⟨h1, h2⟩ := h
  cases xs with
  | nil => simp at h1
  | cons x0 xs =>
    have h0 := h2 0 p0 x0 rfl rfl
    rw [stepF_zero] at h0
    have hrest : ∀ (j : Nat) (p : List UInt8) (x : Ins), ps[j]? = some p → xs[j]? = some x → ∃ q, p = 32 :: q ∧ parseIF q = some x := fun j p x hp hx => stepF_inv (h2 (j + 1) p x (by simpa using hp) (by simpa using hx))
    have hpl : ps.length = xs.length := by simpa using h1
    have hmap : ps = (ps.map List.tail).map (32 :: ·) := by
      apply List.ext_getElem?
      intro j
      simp only [List.getElem?_map]
      cases hp : ps[j]? with
      | none => rfl
      | some p =>
        have hj := (List.getElem?_eq_some_iff.1 hp).1
        obtain ⟨q, rfl, -⟩ := hrest j p _ hp (List.getElem?_eq_getElem (by omega))
        rfl
    have hno : ∀ p ∈ p0 :: ps.map List.tail, ∀ b ∈ p, b ≠ 59 := by
      intro p hp
      rcases List.mem_cons.1 hp with rfl | hp
      · exact (parseIF_no59 h0).1
      · obtain ⟨q, hq, rfl⟩ := List.mem_map.1 hp
        obtain ⟨j, hj⟩ := List.getElem?_of_mem hq
        have hjl := (List.getElem?_eq_some_iff.1 hj).1
        obtain ⟨r, rfl, hr⟩ := hrest j q _ hj (List.getElem?_eq_getElem (by omega))
        exact (parseIF_no59 hr).1
    have hjs : Lib.join (p0 :: ps.map List.tail) sepC = s := by
      have e := parts_of_join (ps.map List.tail) p0 hno
      rw [← hmap, ← hps] at e
      rw [← parts_join 59 s, ← e, parts_join]
    have hle : ps.length ≤ s.length := by
      have := parts_len 59 s
      have h3 := partsF_len 59 s
      rw [hps] at h3
      simp at h3
      omega
    have hpc : piecesC s = p0 :: ps.map List.tail := by
      unfold piecesC
      conv => lhs; arg 4; rw [← hjs]
      exact splitK_join _ _ _ hno (by simp at hl ⊢; omega)
    unfold codeCF
    rw [if_neg hs, hpc, if_neg (by simp at hl ⊢; omega)]
    refine mapM_get.2 ⟨by simp; omega, fun j p x hp hx => ?_⟩
    cases j with
    | zero => simp at hp hx; subst hp hx; exact h0
    | succ j =>
      simp only [List.getElem?_cons_succ, List.getElem?_map] at hp hx
      cases hq : ps[j]? with
      | none => rw [hq] at hp; cases hp
      | some q =>
        rw [hq] at hp
        injection hp with hp
        subst hp
        obtain ⟨r, rfl, hr⟩ := hrest j q x hq hx
        exact hr
end Go.Proofs.YtgbgjlmkmlhefaaGreatDoor

/- Contract of spec.ParseCode: the code that a text is. Condition: the text's length is a string's. -/
namespace Go.Proofs.YtgbgjlmkmlhefaaGreatDoor
set_option maxRecDepth 20000
set_option linter.unusedSimpArgs false
set_option linter.unusedVariables false
open Go.ChangeShapes Go.WideShapes Go.ChangeAt Go.RowKit
set_option linter.unusedVariables false
/-- so far: the instructions of the first k parts -/
def Sofar (ps : List (List UInt8)) (k : Nat) (L : List Ins) : Prop := L.length = k ∧ ∀ j p x, j < k → ps[j]? = some p → L[j]? = some x → stepF j p = some x
theorem Sofar.snoc {ps : List (List UInt8)} {k : Nat} {L : List Ins} {p : List UInt8} {x : Ins} (h : Sofar ps k L) (hp : ps[k]? = some p) (hx : stepF k p = some x) : Sofar ps (k + 1) (L ++ [x]) := by
  obtain ⟨h1, h2⟩ := h
  refine ⟨by simp [h1], fun j q y hj hq hy => ?_⟩
  by_cases e : j = k
  · subst e
    rw [List.getElem?_append_right (by omega), h1, Nat.sub_self] at hy
    simp at hy
    subst hy
    rw [hp] at hq
    injection hq with hq
    subst hq
    exact hx
  · rw [List.getElem?_append_left (by omega)] at hy
    exact h2 j q y (by omega) hq hy
theorem code_none {s : List UInt8} {ps : List (List UInt8)} {k : Nat} {p : List UInt8} (hs : s ≠ []) (hps : partsF 59 s = ps) (hp : ps[k]? = some p) (hx : stepF k p = none) : codeCF s = none := by
  cases h : codeCF s with
  | none => rfl
  | some xs =>
    obtain ⟨-, -, h1, h2⟩ := code_to hs h
    rw [hps] at h1 h2
    have hk := (List.getElem?_eq_some_iff.1 hp).1
    have := h2 k p _ hp (List.getElem?_eq_getElem (by omega))
    rw [hx] at this
    cases this
theorem code_done {s : List UInt8} {ps : List (List UInt8)} {L : List Ins} (hs : s ≠ []) (hps : partsF 59 s = ps) (h : Sofar ps ps.length L) : codeCF s = if L.length ≤ 16 then some L else none := by
  have hg : Good (partsF 59 s) L := by
    rw [hps]
    exact ⟨h.1.symm, fun j p x hp hx => h.2 j p x (List.getElem?_eq_some_iff.1 hp).1 hp hx⟩
  split
  · exact code_from hs (by assumption) hg
  · cases hc : codeCF s with
    | none => rfl
    | some xs =>
      obtain ⟨-, h1, h2, -⟩ := code_to hs hc
      have := hg.1
      omega
set_option maxHeartbeats 6400000 in
theorem spec_ParseCode (s : List UInt8) (w : World) (hs : s.length ≤ 1048576) :
    Calls Tryz.prog 68 #[str s] w (RetCodeB ((codeCF s).getD []) (codeCF s).isSome w) := by
  have hO0 := owns_newCells w 37 4
  have hB0 := (Below.refl w.heap.size w).alloc (Nat.le_refl _) (.cells #[] 37)
  have hsz : (⟨s.toArray⟩ : ByteArray).size = s.length := by show s.toArray.size = _; simp
  cases hsc : s with
  | nil =>
    go_enter Tryz.func68, Tryz.ntmps68
    go_wp2_with fail
    exact bodyPost_ret (v := .tuple #[.slice none 0 0, .bool true]) (by simp [results, Tryz.results68, go_sem]) rfl ⟨_, [], by simp [codeCF], Own.nil _ _, by simp, hB0⟩
  | cons ch s' =>
    have hne : s ≠ [] := by rw [hsc]; simp
    have hsl : s.length = s'.length + 1 := by rw [hsc]; simp
    have HSC := Lib.hid hsc
    by_cases hlen : 992 < s.length
    · have HF : Hid (codeCF s = none) := Lib.hid (by
        cases h : codeCF s with
        | none => rfl
        | some xs => have := (code_to hne h).1; omega)
      rw [hsc] at HF
      have hl2 : (992 : Int) < (s'.length : Int) + 1 := by omega
      clear hsc hne hlen
      go_enter Tryz.func68, Tryz.ntmps68
      go_wp2_with fail
      exact bodyPost_ret (v := .tuple #[.slice none 0 0, .bool false]) (by simp [results, Tryz.results68, go_sem]) rfl ⟨_, [], by rw [HF.out]; rfl, by rw [HF.out]; exact Own.nil _ _, by simp, hB0⟩
    · have hP := l01PartsO s 59 (w.alloc (.cells #[] 37)) hs
      obtain ⟨ps, hps⟩ : ∃ ps, partsF 59 s = ps := ⟨_, rfl⟩
      have hpl := partsF_len 59 s
      have hpp : ∀ p ∈ ps, p.length ≤ 992 := by
        intro p hp
        have h1 := splitK_part 59 (Lib.count s [59]) s p (by rw [(splitK_parts 59 _ s).1 (by have := count_parts 59 s.length s (Nat.le_refl _); omega), hps]; exact hp)
        omega
      rw [hps] at hP hpl
      have hpl2 : ps.length ≤ 993 := by omega
      obtain ⟨s2, hs2⟩ : ∃ s2, codeCF s = s2 := ⟨_, rfl⟩
      have HNo : Hid (∀ k p, ps[k]? = some p → stepF k p = none → s2 = none) := Lib.hid fun k p hp hx => by rw [← hs2]; exact code_none hne hps hp hx
      have HDo : Hid (∀ L, Sofar ps ps.length L → s2 = if L.length ≤ 16 then some L else none) := Lib.hid fun L h => by rw [← hs2]; exact code_done hne hps h
      rw [← hsc, hs2]
      have HP := Lib.hid hP
      have HPP := Lib.hid hpp
      have hl2 : ¬ (992 : Int) < (s'.length : Int) + 1 := by omega
      rw [hsc] at HP ⊢
      obtain ⟨i, hi, hiz0, hiz1, hiz2⟩ := info_parts infoIns
      clear hP hps hpl hsc hne hlen hs2 hpp hsz HSC
      go_enter Tryz.func68, Tryz.ntmps68
      go_wp2_with fail
      refine HP.out.mono ?_
      rintro e w1 ⟨v1, rfl, hO1, hb1⟩
      obtain ⟨A1, c1, rfl, hnc1, hcm1⟩ := owns_slice hO1
      have hW1 := owns_mono hO1 (show w.heap.size ≤ (w.alloc (.cells #[] 37)).heap.size by simp)
      have hO1' := ownsRow_below hO0 hb1
      have hB1 := hB0.trans (hb1.mono hB0.size)
      clear hO1 hO0 hB0 hb1
      go_wp2_with fail
      go_loopw [4, 6] (fun vo j wr => ∃ (k : Nat) (L : List Ins), k ≤ ps.length ∧ j = .int .i64 k ∧ L.length ≤ k ∧ Hid (Sofar ps k L) ∧ wr.ownsRow w.heap.size 37 4 vo L.length (flc L) ∧
        wr.ownsRow w.heap.size 9 1 (.slice A1 ps.length c1) ps.length (strs ps) ∧ Below w.heap.size w wr) (fun _ j _ => ps.length - (intOf j).toNat)
      case atStart => exact ⟨0, [], Nat.zero_le _, rfl, Nat.le_refl _, Lib.hid ⟨rfl, fun j p x hj => by omega⟩, hO1', hW1, hB1⟩
      case round =>
        obtain ⟨k, L, hk, rfl, hL, HL, hO, hW, hB⟩ := hrel
        clear hO1' hW1 hB1
        obtain ⟨AO, cO, rfl, hcO, hcOm⟩ := owns_slice hO
        by_cases hlt : k < ps.length
        · obtain ⟨g1, rfl⟩ := owns_formP hW (by omega)
          obtain ⟨p, hp⟩ := opt_at hlt
          have hpc : wr.cell? ⟨g1, k, none⟩ = some (str p) := (hW.cellAt k (by omega)).trans (by simp [strs, hp])
          have hpl := HPP.out p (List.mem_of_getElem? hp)
          have HPk := Lib.hid hp
          clear hp
          by_cases h0 : k = 0
          · have HST : Hid (stepF k p = parseIF p) := Lib.hid (by rw [h0, stepF_zero])
            have hz : ¬ 0 < k := by omega
            clear h0
            have hPI := spec_ParseInstr p wr (by omega)
            unfold RetInsB at hPI
            cases ho : parseIF p with
            | none =>
              have HNone : Hid (s2 = none) := Lib.hid (HNo.out k p HPk.out (by rw [HST.out]; exact ho))
              rw [ho] at hPI
              have HPI : Hid (Calls Tryz.prog 90 #[str p] wr fun e w' => e = .returned (.tuple #[.agg #[.int .i64 0, .int .i64 0, .int .i64 0, .int .i64 0], .bool false]) ∧ Below wr.heap.size wr w') := Lib.hid hPI
              clear hPI ho
              go_wp2_with fail
              refine HPI.out.mono ?_
              rintro e w5 ⟨rfl, hb5⟩
              have hB5 := hB.trans (hb5.mono hB.size)
              go_wp2_with fail
              exact bodyPost_ret (v := .tuple #[.slice none 0 0, .bool false]) (by simp [results, Tryz.results68, go_sem]) rfl ⟨_, [], by rw [HNone.out]; rfl, by rw [HNone.out]; exact Own.nil _ _, by simp, hB5.alloc hB5.size _⟩
            | some x =>
              have HL' := Lib.hid (HL.out.snoc HPk.out (by rw [HST.out]; exact ho))
              rw [ho] at hPI
              obtain ⟨xo, xr, xsS, xn⟩ := x
              have hPI2 : Calls Tryz.prog 90 #[str p] wr fun e w' => e = .returned (.tuple #[.agg #[.int .i64 xo, .int .i64 xr, .int .i64 xsS, .int .i64 xn], .bool true]) ∧ Below wr.heap.size wr w' := hPI
              have HPI := Lib.hid hPI2
              clear hPI hPI2 ho
              go_wp2_with fail
              refine HPI.out.mono ?_
              rintro e w5 ⟨rfl, hb5⟩
              have hB5 := (hB.trans (hb5.mono hB.size))
              have hB5a := hB5.alloc hB5.size (.cells #[.int .i64 xo, .int .i64 xr, .int .i64 xsS, .int .i64 xn] 37)
              have hO5 := (ownsRow_below hO hb5).alloc (.cells #[.int .i64 xo, .int .i64 xr, .int .i64 xsS, .int .i64 xn] 37)
              have hW5 := (ownsRow_below hW hb5).alloc (.cells #[.int .i64 xo, .int .i64 xr, .int .i64 xsS, .int .i64 xn] 37)
              have k5 := Bk.new w5 #[.int .i64 xo, .int .i64 xr, .int .i64 xsS, .int .i64 xn] 37
              obtain ⟨wv, hwv⟩ : ∃ wv, w5.alloc (.cells #[.int .i64 xo, .int .i64 xr, .int .i64 xsS, .int .i64 xn] 37) = wv := ⟨_, rfl⟩
              rw [hwv] at hB5a hO5 hW5 k5
              have HWV := Lib.hid hwv
              clear hO hW hb5 hwv hpc
              go_upto_region 18 with (fail)
              rw [HWV.out]
              obtain ⟨hk0, -⟩ := k5.at_ 0 rfl
              obtain ⟨hk1, -⟩ := k5.at_ 1 rfl
              obtain ⟨hk2, -⟩ := k5.at_ 2 rfl
              obtain ⟨hk3, -⟩ := k5.at_ 3 rfl
              have hL993 : L.length ≤ 993 := by omega
              go_wp2_with (at_builtin; refine wpList_append_own _ rfl _ _ 31 rfl (w.heap.size) 37 i (.agg #[.int .i64 0, .int .i64 0, .int .i64 0, .int .i64 0]) 4 32 Tryz.underlying31 hi hiz0 hiz1 hiz2 rfl (by decide) _ _ _ rfl (hO5.alloc _) ⟨wv.heap.size, 0, none⟩ 1 1 [.int .i64 xo, .int .i64 xr, .int .i64 xsS, .int .i64 xn] rfl rfl (new_cells _ _ _) (by simp [Value.oneCell']) (by unfold maxLen; omega) (by omega) (by have := hB5a.size; simp; omega) ?_)
              intro vo6 w6 ho6 hg6 _
              have hB6 := (hB5a.alloc hB5a.size _).grown hg6 (by have := hB5a.size; simp; omega) (fun k hk => by have := (hO5.lt k hk).1; omega)
              have hO6 := owns_snocI (x := ⟨xo, xr, xsS, xn⟩) ho6
              have hW6 := (hW5.alloc (.cells #[.int .i64 xo, .int .i64 xr, .int .i64 xsS, .int .i64 xn] 37)).kept hg6 (own_ne (hW5.alloc (.cells #[.int .i64 xo, .int .i64 xr, .int .i64 xsS, .int .i64 xn] 37)) (hO5.alloc (.cells #[.int .i64 xo, .int .i64 xr, .int .i64 xsS, .int .i64 xn] 37)) (by decide))
              go_wp2_with fail
              exact ⟨⟨k + 1, L ++ [⟨xo, xr, xsS, xn⟩], by omega, by go_num, by simp; omega, HL', hO6, hW6, hB6⟩, by simp [intOf]; omega⟩
          · obtain ⟨k', hk'⟩ : ∃ k', k = k' + 1 := ⟨k - 1, by omega⟩
            have hz : 0 < k := by omega
            have HK := Lib.hid hk'
            clear h0 hk'
            cases p with
            | nil =>
              have HNone : Hid (s2 = none) := Lib.hid (HNo.out k [] HPk.out (by rw [HK.out]; simp [stepF]))
              go_wp2_with fail
              exact bodyPost_ret (v := .tuple #[.slice none 0 0, .bool false]) (by simp [results, Tryz.results68, go_sem]) rfl ⟨_, [], by rw [HNone.out]; rfl, by rw [HNone.out]; exact Own.nil _ _, by simp, hB⟩
            | cons cc r =>
              have hel : ((⟨(cc :: r).toArray⟩ : ByteArray)[0]'(by show 0 < (cc :: r).toArray.size; simp)) = cc := rfl
              by_cases h32 : cc = 32
              · subst h32
                have HST : Hid (stepF k (32 :: r) = parseIF r) := Lib.hid (by rw [HK.out, stepF_succ])
                have hq : ((((⟨(32 :: r).toArray⟩ : ByteArray)[0]'(by show 0 < (32 :: r).toArray.size; simp)).toNat : Int) != 32) = false := rfl
                simp only [List.length_cons] at hpl
                clear hel
                have hPI := spec_ParseInstr r wr (by omega)
                unfold RetInsB at hPI
                cases ho : parseIF r with
                | none =>
                  have HNone : Hid (s2 = none) := Lib.hid (HNo.out k (32 :: r) HPk.out (by rw [HST.out]; exact ho))
                  rw [ho] at hPI
                  have HPI : Hid (Calls Tryz.prog 90 #[str r] wr fun e w' => e = .returned (.tuple #[.agg #[.int .i64 0, .int .i64 0, .int .i64 0, .int .i64 0], .bool false]) ∧ Below wr.heap.size wr w') := Lib.hid hPI
                  clear hPI ho
                  go_wp2_with fail
                  rw [ext_tail]
                  refine HPI.out.mono ?_
                  rintro e w5 ⟨rfl, hb5⟩
                  have hB5 := hB.trans (hb5.mono hB.size)
                  go_wp2_with fail
                  exact bodyPost_ret (v := .tuple #[.slice none 0 0, .bool false]) (by simp [results, Tryz.results68, go_sem]) rfl ⟨_, [], by rw [HNone.out]; rfl, by rw [HNone.out]; exact Own.nil _ _, by simp, hB5.alloc hB5.size _⟩
                | some x =>
                  have HL' := Lib.hid (HL.out.snoc HPk.out (by rw [HST.out]; exact ho))
                  rw [ho] at hPI
                  obtain ⟨xo, xr, xsS, xn⟩ := x
                  have hPI2 : Calls Tryz.prog 90 #[str r] wr fun e w' => e = .returned (.tuple #[.agg #[.int .i64 xo, .int .i64 xr, .int .i64 xsS, .int .i64 xn], .bool true]) ∧ Below wr.heap.size wr w' := hPI
                  have HPI := Lib.hid hPI2
                  clear hPI hPI2 ho
                  go_wp2_with fail
                  rw [ext_tail]
                  refine HPI.out.mono ?_
                  rintro e w5 ⟨rfl, hb5⟩
                  have hB5 := (hB.trans (hb5.mono hB.size))
                  have hB5a := hB5.alloc hB5.size (.cells #[.int .i64 xo, .int .i64 xr, .int .i64 xsS, .int .i64 xn] 37)
                  have hO5 := (ownsRow_below hO hb5).alloc (.cells #[.int .i64 xo, .int .i64 xr, .int .i64 xsS, .int .i64 xn] 37)
                  have hW5 := (ownsRow_below hW hb5).alloc (.cells #[.int .i64 xo, .int .i64 xr, .int .i64 xsS, .int .i64 xn] 37)
                  have k5 := Bk.new w5 #[.int .i64 xo, .int .i64 xr, .int .i64 xsS, .int .i64 xn] 37
                  obtain ⟨wv, hwv⟩ : ∃ wv, w5.alloc (.cells #[.int .i64 xo, .int .i64 xr, .int .i64 xsS, .int .i64 xn] 37) = wv := ⟨_, rfl⟩
                  rw [hwv] at hB5a hO5 hW5 k5
                  have HWV := Lib.hid hwv
                  clear hO hW hb5 hwv hpc
                  go_upto_region 18 with (fail)
                  rw [HWV.out]
                  obtain ⟨hk0, -⟩ := k5.at_ 0 rfl
                  obtain ⟨hk1, -⟩ := k5.at_ 1 rfl
                  obtain ⟨hk2, -⟩ := k5.at_ 2 rfl
                  obtain ⟨hk3, -⟩ := k5.at_ 3 rfl
                  have hL993 : L.length ≤ 993 := by omega
                  go_wp2_with (at_builtin; refine wpList_append_own _ rfl _ _ 31 rfl (w.heap.size) 37 i (.agg #[.int .i64 0, .int .i64 0, .int .i64 0, .int .i64 0]) 4 32 Tryz.underlying31 hi hiz0 hiz1 hiz2 rfl (by decide) _ _ _ rfl (hO5.alloc _) ⟨wv.heap.size, 0, none⟩ 1 1 [.int .i64 xo, .int .i64 xr, .int .i64 xsS, .int .i64 xn] rfl rfl (new_cells _ _ _) (by simp [Value.oneCell']) (by unfold maxLen; omega) (by omega) (by have := hB5a.size; simp; omega) ?_)
                  intro vo6 w6 ho6 hg6 _
                  have hB6 := (hB5a.alloc hB5a.size _).grown hg6 (by have := hB5a.size; simp; omega) (fun k hk => by have := (hO5.lt k hk).1; omega)
                  have hO6 := owns_snocI (x := ⟨xo, xr, xsS, xn⟩) ho6
                  have hW6 := (hW5.alloc (.cells #[.int .i64 xo, .int .i64 xr, .int .i64 xsS, .int .i64 xn] 37)).kept hg6 (own_ne (hW5.alloc (.cells #[.int .i64 xo, .int .i64 xr, .int .i64 xsS, .int .i64 xn] 37)) (hO5.alloc (.cells #[.int .i64 xo, .int .i64 xr, .int .i64 xsS, .int .i64 xn] 37)) (by decide))
                  go_wp2_with fail
                  exact ⟨⟨k + 1, L ++ [⟨xo, xr, xsS, xn⟩], by omega, by go_num, by simp; omega, HL', hO6, hW6, hB6⟩, by simp [intOf]; omega⟩
              · have HNone : Hid (s2 = none) := Lib.hid (HNo.out k (cc :: r) HPk.out (by rw [HK.out]; simp [stepF, h32]))
                have hq : ((((⟨(cc :: r).toArray⟩ : ByteArray)[0]'(by show 0 < (cc :: r).toArray.size; simp)).toNat : Int) != 32) = true := by
                  rw [hel]
                  simp only [bne_iff_ne, ne_eq]
                  intro h
                  exact h32 (UInt8.toNat_inj.1 (Int.ofNat.inj h))
                clear hel h32
                go_wp2_with fail
                exact bodyPost_ret (v := .tuple #[.slice none 0 0, .bool false]) (by simp [results, Tryz.results68, go_sem]) rfl ⟨_, [], by rw [HNone.out]; rfl, by rw [HNone.out]; exact Own.nil _ _, by simp, hB⟩
        · obtain rfl : k = ps.length := by omega
          have hD := HDo.out L HL.out
          obtain ⟨bs, h1, h2⟩ := Own.of_owns hO
          by_cases hbig : L.length ≤ 16
          · have HF : Hid (s2 = some L) := Lib.hid (by rw [hD, if_pos hbig])
            clear hD
            go_wp2_with fail
            exact bodyPost_ret (v := .tuple #[.slice AO L.length cO, .bool true]) (by simp [results, Tryz.results68, go_sem]) rfl ⟨_, bs, by rw [HF.out]; rfl, by rw [HF.out]; exact h1, h2, hB⟩
          · have HNone : Hid (s2 = none) := Lib.hid (by rw [hD, if_neg hbig])
            clear hD
            go_wp2_with fail
            exact bodyPost_ret (v := .tuple #[.slice none 0 0, .bool false]) (by simp [results, Tryz.results68, go_sem]) rfl ⟨_, [], by rw [HNone.out]; rfl, by rw [HNone.out]; exact Own.nil _ _, by simp, hB⟩
end Go.Proofs.YtgbgjlmkmlhefaaGreatDoor

/- Contract of impl.ParseCode: it answers as the model does. Conditions: the text's length is a string's; the library's tables, the errors' variables and the table of names stand as written. -/
namespace Go.Proofs.YtgbgjlmkmlhefaaGreatDoor
set_option maxRecDepth 20000
set_option linter.unusedSimpArgs false
set_option linter.unusedVariables false
open Go.ChangeShapes Go.WideShapes Go.ChangeAt Go.RowKit
set_option linter.unusedVariables false
def codePart (L : List Ins) (n : Nat) : List Value := flc L ++ List.replicate ((n - L.length) * 4) (.int .i64 0)
theorem codePart_zero (n : Nat) : (madeCells #[.int .i64 0, .int .i64 0, .int .i64 0, .int .i64 0] (n * 4)).toList = codePart [] n := by
  have h := insPart_zero (List.replicate n (⟨0, 0, 0, 0⟩ : Ins))
  rw [List.length_replicate] at h
  rw [h]
  simp [insPart, codePart]
theorem codePart_at {L : List Ins} {n k : Nat} (h : L.length = k) (hk : k < n) (j : Nat) (hj : j < 4) : (codePart L n)[k * 4 + j]? = some (.int .i64 0) := by
  unfold codePart
  rw [List.getElem?_append_right (by rw [flc_len]; omega), flc_len, List.getElem?_replicate, if_pos (by rw [h]; have : (n - k) * 4 = n * 4 - k * 4 := Nat.sub_mul _ _ _; omega)]
theorem codePart_set {L : List Ins} {n k : Nat} (h : L.length = k) (hk : k < n) (x : Ins) :
    ((((codePart L n).set (k * 4) (.int .i64 x.o)).set (k * 4 + 1) (.int .i64 x.r)).set (k * 4 + 2) (.int .i64 x.s)).set (k * 4 + 3) (.int .i64 x.n) = codePart (L ++ [x]) n := by
  unfold codePart
  obtain ⟨d, hd⟩ : ∃ d, (n - L.length) * 4 = d + 4 ∧ (n - (L ++ [x]).length) * 4 = d := ⟨(n - k - 1) * 4, by
    rw [h, List.length_append, h]
    simp only [List.length_cons, List.length_nil]
    omega⟩
  rw [hd.1, hd.2, show List.replicate (d + 4) (Value.int .i64 0) = .int .i64 0 :: .int .i64 0 :: .int .i64 0 :: .int .i64 0 :: List.replicate d (.int .i64 0) from rfl]
  rw [set4 _ _ _ _ _ _ _ _ (by rw [flc_len, h])]
  rw [flc_append, flc_one]
  simp [insC]
theorem codePart_all {L : List Ins} {n : Nat} (h : L.length = n) : codePart L n = flc L := by simp [codePart, h]
theorem splitC_call (s : List UInt8) (w : World) (hs : s.length ≤ 1048576) (hm : MaxSet w) :
    Calls Tryz.prog 58 #[str s, .string ⟨#[59, 32]⟩, .int .i64 17] w fun e w' => ∃ N, e = .returned (.slice (some ⟨w.heap.size, 0, none⟩) (piecesC s).length N) ∧ (piecesC s).length ≤ N ∧ N ≤ 17 ∧ w.heap.size < w'.heap.size ∧ Below w.heap.size w w' ∧
      ∀ j p, (piecesC s)[j]? = some p → w'.cell? ⟨w.heap.size, j, none⟩ = some (str p) := by
  obtain ⟨m0, hm0⟩ := hm
  refine (Tryz.strings_SplitN ⟨s.toArray⟩ ⟨#[59, 32]⟩ 17 m0 w (by show s.toArray.size < _; simp; omega) hm0 (by decide) (by decide) (by decide)).mono ?_
  rintro e w' ⟨rfl, rfl⟩
  have hsz : (⟨s.toArray⟩ : ByteArray).size = s.length := by show s.toArray.size = _; simp
  have hd := Lib.splitB_data ⟨#[59, 32]⟩ 0 (min 17 ((⟨s.toArray⟩ : ByteArray).size + 1) - 1) ⟨s.toArray⟩
  have hpc : (Lib.splitB ⟨#[59, 32]⟩ 0 (min 17 ((⟨s.toArray⟩ : ByteArray).size + 1) - 1) ⟨s.toArray⟩).map (·.data.toList) = piecesC s := by
    rw [hd, hsz]
    rfl
  have hln : (Lib.splitB ⟨#[59, 32]⟩ 0 (min 17 ((⟨s.toArray⟩ : ByteArray).size + 1) - 1) ⟨s.toArray⟩).length = (piecesC s).length := by rw [← hpc, List.length_map]
  have hle := Lib.splitB_length_le ⟨#[59, 32]⟩ 0 (min 17 ((⟨s.toArray⟩ : ByteArray).size + 1) - 1) ⟨s.toArray⟩
  rw [hln] at hle ⊢
  refine ⟨_, rfl, by omega, by omega, by simp, (Below.refl _ _).alloc (Nat.le_refl _) _, fun j p hp => ?_⟩
  rw [World.cell?_alloc_new]
  have hj := (List.getElem?_eq_some_iff.1 hp).1
  unfold Lib.cellsOf
  simp only [List.getElem?_toArray]
  rw [List.getElem?_append_left (by rw [List.length_map, hln]; exact hj), List.getElem?_map]
  rw [← hpc, List.getElem?_map] at hp
  cases hx : (Lib.splitB ⟨#[59, 32]⟩ 0 (min 17 ((⟨s.toArray⟩ : ByteArray).size + 1) - 1) ⟨s.toArray⟩)[j]? with
  | none => rw [hx] at hp; cases hp
  | some q =>
    rw [hx] at hp
    injection hp with hp
    subst hp
    rfl
theorem piecesC_part (s : List UInt8) : ∀ p ∈ piecesC s, p.length ≤ s.length := by
  have hj := (join_splitK (min 17 (s.length + 1) - 1) s).1
  have key : ∀ (l : List (List UInt8)), ∀ p ∈ l, p.length ≤ (Lib.join l sepC).length := by
    intro l
    induction l with
    | nil => intro p hp; simp at hp
    | cons t l ih =>
      intro p hp
      cases l with
      | nil =>
        rw [Lib.join_one]
        simp at hp
        subst hp
        exact Nat.le_refl _
      | cons u l =>
        rw [join_cons2]
        rcases List.mem_cons.1 hp with rfl | hp
        · simp
        · have := ih p hp
          simp only [List.length_append]
          omega
  intro p hp
  have := key _ p hp
  rw [show Lib.join (piecesC s) sepC = s from hj] at this
  exact this
set_option maxHeartbeats 6400000 in
theorem parseInstrs (s : List UInt8) (w : World) (hs : s.length ≤ 1048576) (hE : EnvP w) :
    Calls Tryz.prog 30 #[str s, .int .i64 16, .string ⟨#[59, 32]⟩, .func (.func 31) #[] #[]] w (RetCodeB ((codeCF s).getD []) (codeCF s).isSome w) := by
  have HE := Lib.hid hE
  clear hE
  cases hsc : s with
  | nil =>
    go_enter Tryz.func30, Tryz.ntmps30
    go_wp2_with fail
    exact bodyPost_ret (v := .tuple #[.slice none 0 0, .bool true]) (by simp [results, Tryz.results30, go_sem]) rfl ⟨_, [], by simp [codeCF], Own.nil _ _, by simp, Below.refl _ _⟩
  | cons ch s' =>
    have hne : s ≠ [] := by rw [hsc]; simp
    have hP := splitC_call s w hs HE.out.env.max
    have hpp : ∀ p ∈ piecesC s, p.length ≤ 1048576 := fun p hp => Nat.le_trans (piecesC_part s p hp) hs
    have hcf : codeCF s = if 16 < (piecesC s).length then none else (piecesC s).mapM parseIF := by unfold codeCF; rw [if_neg hne]
    obtain ⟨ps, hps⟩ : ∃ ps, piecesC s = ps := ⟨_, rfl⟩
    rw [hps] at hP hcf hpp
    obtain ⟨s2, hs2⟩ : ∃ s2, codeCF s = s2 := ⟨_, rfl⟩
    rw [hs2] at hcf
    rw [← hsc, hs2]
    have HP := Lib.hid hP
    have HPP := Lib.hid hpp
    have HCF := Lib.hid hcf
    rw [hsc] at HP ⊢
    obtain ⟨i, hi, hz0, hz1, hz2⟩ := info_parts infoIns
    clear hP hps hsc hne hs2 hpp hcf
    go_enter Tryz.func30, Tryz.ntmps30
    go_wp2_with fail
    refine HP.out.mono ?_
    rintro e w1 ⟨N, rfl, hnN, hN17, hl1, hB1, hc1⟩
    have HC1 := Lib.hid hc1
    clear hc1
    by_cases hlen : 16 < ps.length
    · have HNone : Hid (s2 = none) := Lib.hid (by rw [HCF.out, if_pos hlen])
      go_wp2_with fail
      exact bodyPost_ret (v := .tuple #[.slice none 0 0, .bool false]) (by simp [results, Tryz.results30, go_sem]) rfl ⟨_, [], by rw [HNone.out]; rfl, by rw [HNone.out]; exact Own.nil _ _, by simp, hB1⟩
    · have HCF2 : Hid (s2 = ps.mapM parseIF) := Lib.hid (by rw [HCF.out, if_neg hlen])
      go_wp2_with (at_make; refine wpList_make_full _ rfl _ _ 31 rfl w1.heap.size 37 i (.agg #[.int .i64 0, .int .i64 0, .int .i64 0, .int .i64 0]) 4 Tryz.underlying31 hi hz0 hz1 _ _ _ _ ps.length rfl rfl rfl rfl (by rw [hz2]; omega) (by unfold maxLen; omega) (Nat.le_refl _) ?_)
      intro w2 hown hg2
      rw [codePart_zero] at hown
      have hb2 : Below w1.heap.size w1 w2 := (Below.refl _ _).grown hg2 (Nat.le_refl _) (by simp)
      have hsz1 := hB1.size
      clear hg2
      go_wp2_with fail
      go_loopw [32] (fun j wr => ∃ (k : Nat) (L : List Ins), k ≤ ps.length ∧ j = .int .i64 k ∧ Hid (L.length = k ∧ (ps.take k).mapM parseIF = some L) ∧ wr.ownsRow w1.heap.size 37 4 (.slice (some ⟨w1.heap.size, 0, none⟩) ps.length ps.length) ps.length (codePart L ps.length) ∧ Below w1.heap.size w1 wr) (fun j _ => ps.length - (intOf j).toNat)
      case atStart => exact ⟨0, [], Nat.zero_le _, rfl, Lib.hid ⟨rfl, by simp⟩, hown, hb2⟩
      case round =>
        obtain ⟨k, L, hk, rfl, HL, hO, hB⟩ := hrel
        clear hown hb2
        have hBw := hB1.trans (hB.mono hsz1)
        by_cases hlt : k < ps.length
        · obtain ⟨p, hp⟩ := opt_at hlt
          have hpc := (hB.cell (p := ⟨w.heap.size, k, none⟩) hl1).trans (HC1.out k p hp)
          have hPI := impl_ParseInstr p wr (HPP.out p (List.mem_of_getElem? hp)) (HE.out.below hBw (Nat.le_refl _))
          unfold RetInsB at hPI
          have HPk := Lib.hid hp
          clear hp
          cases ho : parseIF p with
          | none =>
            have HNone : Hid (s2 = none) := Lib.hid (by rw [HCF2.out, mapM_none HPk.out ho])
            rw [ho] at hPI
            have HPI : Hid (Calls Tryz.prog 31 #[str p] wr fun e w' => e = .returned (.tuple #[.agg #[.int .i64 0, .int .i64 0, .int .i64 0, .int .i64 0], .bool false]) ∧ Below wr.heap.size wr w') := Lib.hid hPI
            clear hPI ho
            go_wp2_with fail
            refine HPI.out.mono ?_
            rintro e w5 ⟨rfl, hb5⟩
            have hB5 := hBw.trans (hb5.mono hBw.size)
            go_wp2_with fail
            exact bodyPost_ret (v := .tuple #[.slice none 0 0, .bool false]) (by simp [results, Tryz.results30, go_sem]) rfl ⟨_, [], by rw [HNone.out]; rfl, by rw [HNone.out]; exact Own.nil _ _, by simp, hB5.alloc hB5.size _⟩
          | some x =>
            have HL' : Hid ((L ++ [x]).length = k + 1 ∧ (ps.take (k + 1)).mapM parseIF = some (L ++ [x])) := Lib.hid ⟨by simp [HL.out.1], mapM_snoc HL.out.2 HPk.out ho⟩
            have HPS := Lib.hid fun (y : Ins) => codePart_set HL.out.1 hlt y
            have HPA := Lib.hid fun (j : Nat) (hj : j < 4) => codePart_at HL.out.1 hlt j hj
            rw [ho] at hPI
            obtain ⟨xo, xr, xsS, xn⟩ := x
            have hPI2 : Calls Tryz.prog 31 #[str p] wr fun e w' => e = .returned (.tuple #[.agg #[.int .i64 xo, .int .i64 xr, .int .i64 xsS, .int .i64 xn], .bool true]) ∧ Below wr.heap.size wr w' := hPI
            have HPI := Lib.hid hPI2
            clear hPI hPI2 ho
            go_wp2_with fail
            refine HPI.out.mono ?_
            rintro e w5 ⟨rfl, hb5⟩
            have hB5 := hB.trans (hb5.mono hB.size)
            have hB5a := hB5.alloc hB5.size (.cells #[.int .i64 xo, .int .i64 xr, .int .i64 xsS, .int .i64 xn] 37)
            have hO5 := (ownsRow_below hO hb5).alloc (.cells #[.int .i64 xo, .int .i64 xr, .int .i64 xsS, .int .i64 xn] 37)
            have k5 := Bk.new w5 #[.int .i64 xo, .int .i64 xr, .int .i64 xsS, .int .i64 xn] 37
            obtain ⟨wv, hwv⟩ : ∃ wv, w5.alloc (.cells #[.int .i64 xo, .int .i64 xr, .int .i64 xsS, .int .i64 xn] 37) = wv := ⟨_, rfl⟩
            rw [hwv] at hB5a hO5 k5
            have HWV := Lib.hid hwv
            clear hO hb5 hwv hpc
            go_upto_region 13 with (fail)
            rw [HWV.out]
            obtain ⟨hk0, -⟩ := k5.at_ 0 rfl
            obtain ⟨hk1, -⟩ := k5.at_ 1 rfl
            obtain ⟨hk2, -⟩ := k5.at_ 2 rfl
            obtain ⟨hk3, -⟩ := k5.at_ 3 rfl
            have hc0 := (hO5.cellAt (k * 4) (by omega)).trans (HPA.out 0 (by omega))
            have hc1 := (hO5.cellAt (k * 4 + 1) (by omega)).trans (HPA.out 1 (by omega))
            have hc2 := (hO5.cellAt (k * 4 + 2) (by omega)).trans (HPA.out 2 (by omega))
            have hc3 := (hO5.cellAt (k * 4 + 3) (by omega)).trans (HPA.out 3 (by omega))
            have hf0 := hO5.frozenAt (k * 4)
            have hf1 := hO5.frozenAt (k * 4 + 1)
            have hf2 := hO5.frozenAt (k * 4 + 2)
            have hf3 := hO5.frozenAt (k * 4 + 3)
            go_wp2_with fail
            exact ⟨⟨k + 1, L ++ [⟨xo, xr, xsS, xn⟩], by omega, by go_num, HL', (HPS.out ⟨xo, xr, xsS, xn⟩) ▸ owns_set4 hO5 (k * 4) (k * 4 + 1) (k * 4 + 2) (k * 4 + 3) (.int .i64 xo) (.int .i64 xr) (.int .i64 xsS) (.int .i64 xn), below_set4 hB5a (Nat.le_refl _) _ _ _ _ _ _ _ _⟩, by simp [intOf]; omega⟩
        · obtain rfl : k = ps.length := by omega
          have HSome : Hid (s2 = some L) := Lib.hid (by
            have := HL.out.2
            rw [List.take_length] at this
            rw [HCF2.out, this])
          rw [codePart_all HL.out.1] at hO
          have hLl : Hid (L.length = ps.length) := Lib.hid HL.out.1
          obtain ⟨bs, h1, h2⟩ := Own.of_owns hO
          go_wp2_with fail
          exact bodyPost_ret (v := .tuple #[.slice (some ⟨w1.heap.size, 0, none⟩) ps.length ps.length, .bool true]) (by simp [results, Tryz.results30, go_sem]) rfl ⟨_, bs, by rw [HSome.out]; rfl, by rw [HSome.out]; show Own _ _ 4 L.length (flc L) bs; rw [hLl.out]; exact h1, fun b hb => Nat.le_trans hsz1 (h2 b hb), hBw⟩
set_option maxHeartbeats 800000 in
theorem impl_ParseCode (s : List UInt8) (w : World) (hs : s.length ≤ 1048576) (hE : EnvP w) :
    Calls Tryz.prog 9 #[str s] w (RetCodeB ((codeCF s).getD []) (codeCF s).isSome w) := by
  have HC := Lib.hid (parseInstrs s w hs hE)
  clear hE
  go_enter Tryz.func9, Tryz.ntmps9
  go_wp2_with fail
  refine HC.out.mono ?_
  rintro e w1 ⟨v1, bs1, rfl, h1, h2, h3⟩
  go_wp2_with fail
  go_ret2
  exact ⟨v1, bs1, rfl, h1, h2, h3⟩
theorem codeCF_len (s : List UInt8) : ((codeCF s).getD []).length ≤ 16 := by
  cases h : codeCF s with
  | none => simp
  | some xs =>
    by_cases hs : s = []
    · subst hs
      simp [codeCF] at h
      subst h
      simp
    · exact (code_to hs h).2.1
theorem spec_PC (s : List UInt8) (w : World) (rL : List Ins) (rb : Bool) (hs : s.length ≤ 1048576) (h1 : (codeCF s).getD [] = rL) (h2 : (codeCF s).isSome = rb) :
    Calls Tryz.prog 68 #[str s] w (RetCodeB rL rb w) := by
  have := spec_ParseCode s w hs
  rwa [h1, h2] at this
theorem impl_PC (s : List UInt8) (w : World) (rL : List Ins) (rb : Bool) (hs : s.length ≤ 1048576) (h1 : (codeCF s).getD [] = rL) (h2 : (codeCF s).isSome = rb) (hE : EnvP w) :
    Calls Tryz.prog 9 #[str s] w (RetCodeB rL rb w) := by
  have := impl_ParseCode s w hs hE
  rwa [h1, h2] at this
end Go.Proofs.YtgbgjlmkmlhefaaGreatDoor
