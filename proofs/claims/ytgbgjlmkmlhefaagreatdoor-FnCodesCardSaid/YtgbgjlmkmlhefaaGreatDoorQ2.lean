/- Plain: what text is a code's, by the library's split at "; " and by the model's parts. -/
import Derived.Test.YtgbgjlmkmlhefaaGreatDoorI8b
import Derived.Lib.IndexMore
namespace Go.Proofs.YtgbgjlmkmlhefaaGreatDoor
set_option maxRecDepth 20000
set_option linter.unusedSimpArgs false
set_option linter.unusedVariables false
open Go.ChangeShapes Go.WideShapes Go.ChangeAt Go.RowKit
abbrev sepC : List UInt8 := [59, 32]
def piecesC (s : List UInt8) : List (List UInt8) := Lib.splitK sepC 0 (min 17 (s.length + 1) - 1) s
def codeCF (s : List UInt8) : Option (List Ins) := if s = [] then some [] else if 16 < (piecesC s).length then none else (piecesC s).mapM parseIF
def stepF (j : Nat) (p : List UInt8) : Option Ins := (if j = 0 then some p else if p.head? = some 32 then some p.tail else none).bind parseIF
def Good (ps : List (List UInt8)) (xs : List Ins) : Prop := ps.length = xs.length ∧ ∀ j p x, ps[j]? = some p → xs[j]? = some x → stepF j p = some x
theorem idx_hit (r : List UInt8) : ∀ p : List UInt8, (∀ b ∈ p, b ≠ 59) → Lib.index (p ++ 59 :: 32 :: r) sepC = (p.length : Int)
  | [], _ => by simp [Lib.index, List.isPrefixOf]
  | b :: p, h => by
    have ih := idx_hit r p (fun x hx => h x (by simp [hx]))
    have hb : (59 == b) = false := by simpa using (h b (by simp)).symm
    have hn : ((p.length : Int) == -1) = false := by simp
    rw [List.cons_append, Lib.index, ih]
    simp [List.isPrefixOf, hb]
theorem idx_miss : ∀ p : List UInt8, (∀ b ∈ p, b ≠ 59) → Lib.index p sepC = -1
  | [], _ => by simp [Lib.index]
  | b :: p, h => by
    have ih := idx_miss p (fun x hx => h x (by simp [hx]))
    have hb : (59 == b) = false := by simpa using (h b (by simp)).symm
    rw [Lib.index, ih]
    simp [List.isPrefixOf, hb]
theorem join_cons2 (t u : List UInt8) (l : List (List UInt8)) (sep : List UInt8) : Lib.join (t :: u :: l) sep = t ++ sep ++ Lib.join (u :: l) sep := by
  rw [Lib.join_cons, Lib.join_cons]
  simp [Lib.joinTail]
theorem splitK_join : ∀ (l : List (List UInt8)) (t : List UInt8) (k : Nat), (∀ p ∈ t :: l, ∀ b ∈ p, b ≠ 59) → l.length ≤ k → Lib.splitK sepC 0 k (Lib.join (t :: l) sepC) = t :: l
  | [], t, k, h, _ => by
    rw [Lib.join_one]
    cases k with
    | zero => rfl
    | succ k => rw [Lib.splitK, idx_miss t (h t (by simp))]; rfl
  | u :: l, t, 0, _, hk => by simp at hk
  | u :: l, t, k + 1, h, hk => by
    have hi := idx_hit (Lib.join (u :: l) sepC) t (h t (by simp))
    have e : Lib.join (t :: u :: l) sepC = t ++ 59 :: 32 :: Lib.join (u :: l) sepC := by rw [join_cons2]; simp
    have hn : ((t.length : Int) == -1) = false := by simp
    rw [e, Lib.splitK, hi, hn]
    have ih := splitK_join l u k (fun p hp => h p (by simp at hp ⊢; exact .inr hp)) (by simpa using hk)
    have hd : (t ++ 59 :: 32 :: Lib.join (u :: l) sepC).drop (t.length + 2) = Lib.join (u :: l) sepC := by
      rw [List.drop_append]
      simp
    simp [hd, ih]
theorem join_splitK : ∀ (k : Nat) (s : List UInt8), Lib.join (Lib.splitK sepC 0 k s) sepC = s ∧ Lib.splitK sepC 0 k s ≠ []
  | 0, s => ⟨by rw [Lib.splitK, Lib.join_one], by simp [Lib.splitK]⟩
  | k + 1, s => by
    rw [Lib.splitK]
    rcases Lib.index_spec s sepC with ⟨h, -⟩ | ⟨i, h, hi, ho, -⟩
    · rw [h]
      exact ⟨by simp [Lib.join_one], by simp⟩
    · have hn : ((i : Int) == -1) = false := by simp
      rw [h, hn]
      obtain ⟨ih1, ih2⟩ := join_splitK k (s.drop (i + 2))
      obtain ⟨u, l, hul⟩ := List.exists_cons_of_ne_nil ih2
      have hp : sepC <+: s.drop i := by
        have := ho
        unfold Lib.occAt at this
        exact List.isPrefixOf_iff_prefix.1 this
      obtain ⟨r, hr⟩ := hp
      have hs : s = s.take i ++ (sepC ++ r) := by rw [hr, List.take_append_drop]
      have hdr : s.drop (i + 2) = r := by rw [← List.drop_drop, ← hr]; rfl
      refine ⟨?_, by simp⟩
      have e2 : (if false = true then [s] else s.take ((i : Int).toNat + 0) :: Lib.splitK sepC 0 k (s.drop ((i : Int).toNat + sepC.length))) = s.take i :: u :: l := by
        simp [← hul]
      rw [e2, join_cons2, ← hul, ih1, hdr]
      conv => rhs; rw [hs]
      simp
theorem parts_join (c : UInt8) : ∀ s : List UInt8, Lib.join (partsF c s) [c] = s
  | [] => by simp [partsF, Lib.join_one]
  | b :: s => by
    have ih := parts_join c s
    obtain ⟨p, ps, hp⟩ := List.exists_cons_of_ne_nil (partsF_ne c s)
    rw [partsF, hp]
    rw [hp] at ih
    split
    · rename_i hb
      subst hb
      rw [join_cons2, ih]
      simp
    · cases ps with
      | nil => rw [Lib.join_one] at ih ⊢; rw [ih]
      | cons u l => rw [join_cons2] at ih ⊢; simp [← ih]
theorem parts_of_join : ∀ (l : List (List UInt8)) (t : List UInt8), (∀ p ∈ t :: l, ∀ b ∈ p, b ≠ 59) → partsF 59 (Lib.join (t :: l) sepC) = t :: l.map (32 :: ·)
  | [], t, h => by rw [Lib.join_one, partsF_miss 59 t (h t (by simp))]; rfl
  | u :: l, t, h => by
    have ih := parts_of_join l u (fun p hp => h p (by simp at hp ⊢; exact .inr hp))
    have e : Lib.join (t :: u :: l) sepC = t ++ 59 :: (32 :: Lib.join (u :: l) sepC) := by rw [join_cons2]; simp
    rw [e, partsF_hit 59 t _ (h t (by simp)), partsF, ih]
    simp
theorem mem_join {b : UInt8} {sep : List UInt8} : ∀ {l : List (List UInt8)}, b ∈ Lib.join l sep → b ∈ sep ∨ ∃ p ∈ l, b ∈ p
  | [], h => by simp [Lib.join_nil] at h
  | [p], h => by rw [Lib.join_one] at h; exact .inr ⟨p, by simp, h⟩
  | p :: u :: l, h => by
    rw [join_cons2, List.mem_append, List.mem_append] at h
    rcases h with (h | h) | h
    · exact .inr ⟨p, by simp, h⟩
    · exact .inl h
    · rcases mem_join h with h | ⟨q, hq, h⟩
      · exact .inl h
      · exact .inr ⟨q, by simp at hq ⊢; exact .inr hq, h⟩
theorem itoa_no59 (v : Int) : ∀ b ∈ Lib.itoa v, b ≠ 59 := by
  have hd : ∀ n, ∀ b ∈ Lib.decDigits n, b ≠ 59 := fun n b hb e => by
    obtain ⟨k, hk⟩ := List.getElem?_of_mem hb
    obtain ⟨d, hd⟩ := Lib.digit_of_decFrom _ 0 n (decFrom_digits n) k b hk
    rw [e] at hd
    cases hd
  unfold Lib.itoa
  split
  · intro b hb
    rcases List.mem_cons.1 hb with rfl | hb
    · decide
    · exact hd _ b hb
  · exact hd _
theorem wordF_no59 {k : Nat} (h : k < 9) : ∀ b ∈ wordF k, b ≠ 59 := by
  rcases lt9 h with rfl | rfl | rfl | rfl | rfl | rfl | rfl | rfl | rfl <;> decide
/-- a text that is an instruction holds no semicolon, and is short -/
theorem parseIF_no59 {p : List UInt8} {x : Ins} (h : parseIF p = some x) : (∀ b ∈ p, b ≠ 59) ∧ p.length ≤ 60 := by
  unfold parseIF at h
  split at h
  · cases h
  · rename_i hl
    refine ⟨fun b hb => ?_, by omega⟩
    rw [← parts_join 32 p] at hb
    obtain ⟨p0, ps, hps⟩ := List.exists_cons_of_ne_nil (partsF_ne 32 p)
    rw [hps] at h hb
    unfold parseW at h
    cases hf : (List.range 9).find? (matchB (p0 :: ps)) with
    | none => rw [hf] at h; cases h
    | some k =>
      rw [hf] at h
      have hk : k < 9 := List.mem_range.1 (List.mem_of_find?_eq_some hf)
      have hm := List.find?_some hf
      simp only [matchB, Bool.and_eq_true, List.head?_cons, beq_iff_eq, Option.some.injEq] at hm
      cases hv : (p0 :: ps).tail.mapM valF with
      | none => simp only [hv] at h; cases h
      | some vs =>
        rcases mem_join hb with hb1 | ⟨q, hq, hb2⟩
        · rw [List.mem_singleton] at hb1
          rw [hb1]
          decide
        · rcases List.mem_cons.1 hq with rfl | hq
          · rw [hm.1] at hb2
            exact wordF_no59 hk b hb2
          · obtain ⟨v, -, h2⟩ := mapM_mem hv q hq
            have h3 := (readF_some (valF_some.1 h2).1).1
            rw [← h3] at hb2
            exact itoa_no59 v b hb2
theorem join_len : ∀ (l : List (List UInt8)), (∀ p ∈ l, p.length ≤ 60) → (Lib.join l sepC).length ≤ 62 * l.length
  | [], _ => by simp [Lib.join_nil]
  | [p], h => by rw [Lib.join_one]; have := h p (by simp); simp; omega
  | p :: u :: l, h => by
    rw [join_cons2]
    have h1 := h p (by simp)
    have h2 := join_len (u :: l) (fun q hq => h q (by simp at hq ⊢; exact .inr hq))
    simp only [List.length_append, List.length_cons, List.length_nil] at *
    omega
theorem stepF_zero (p : List UInt8) : stepF 0 p = parseIF p := by simp [stepF]
theorem stepF_succ (j : Nat) (q : List UInt8) : stepF (j + 1) (32 :: q) = parseIF q := by simp [stepF]
theorem stepF_inv {j : Nat} {p : List UInt8} {x : Ins} (h : stepF (j + 1) p = some x) : ∃ q, p = 32 :: q ∧ parseIF q = some x := by
  unfold stepF at h
  rw [if_neg (by omega)] at h
  cases p with
  | nil => simp at h
  | cons c q =>
    by_cases hc : c = 32
    · subst hc
      exact ⟨q, rfl, by simpa using h⟩
    · simp [hc] at h
theorem mapM_get {α β : Type} {f : α → Option β} : ∀ {l : List α} {r : List β}, l.mapM f = some r ↔ l.length = r.length ∧ ∀ (j : Nat) (a : α) (b : β), l[j]? = some a → r[j]? = some b → f a = some b
  | [], r => by
    constructor
    · intro h
      simp at h
      subst h
      simp
    · rintro ⟨h, -⟩
      have : r = [] := List.eq_nil_of_length_eq_zero (by simpa using h.symm)
      subst this
      rfl
  | a :: l, r => by
    rw [List.mapM_cons]
    constructor
    · intro h
      cases ha : f a with
      | none => rw [ha] at h; cases h
      | some b =>
        rw [ha] at h
        cases hl : l.mapM f with
        | none => rw [hl] at h; cases h
        | some bs =>
          rw [hl] at h
          injection h with h
          subst h
          obtain ⟨h1, h2⟩ := mapM_get.1 hl
          refine ⟨by simp [h1], fun j a' b' hj hb => ?_⟩
          cases j with
          | zero => simp at hj hb; subst hj hb; exact ha
          | succ j => exact h2 j a' b' (by simpa using hj) (by simpa using hb)
    · rintro ⟨h1, h2⟩
      cases r with
      | nil => simp at h1
      | cons b bs =>
        have ha := h2 0 a b rfl rfl
        have hl : l.mapM f = some bs := mapM_get.2 ⟨by simpa using h1, fun j a' b' hj hb => h2 (j + 1) a' b' (by simpa using hj) (by simpa using hb)⟩
        rw [ha, hl]
        rfl
theorem code_to {s : List UInt8} {xs : List Ins} (hs : s ≠ []) (h : codeCF s = some xs) : s.length ≤ 992 ∧ xs.length ≤ 16 ∧ Good (partsF 59 s) xs := by
  unfold codeCF at h
  rw [if_neg hs] at h
  split at h
  · cases h
  · rename_i hl
    obtain ⟨h1, h2⟩ := mapM_get.1 h
    obtain ⟨hj, hne⟩ := join_splitK (min 17 (s.length + 1) - 1) s
    have hp : ∀ p ∈ piecesC s, (∀ b ∈ p, b ≠ 59) ∧ p.length ≤ 60 := fun p hp => by
      obtain ⟨x, -, hx⟩ := mapM_mem h p hp
      exact parseIF_no59 hx
    obtain ⟨t, l, htl⟩ := List.exists_cons_of_ne_nil hne
    have hpe : piecesC s = t :: l := htl
    rw [htl] at hj
    have hlen := join_len (t :: l) (fun p hq => (hp p (by rw [hpe]; exact hq)).2)
    rw [hj] at hlen
    rw [hpe] at h1 h2 hl hp
    have hparts := parts_of_join l t (fun p hq => (hp p hq).1)
    rw [hj] at hparts
    simp only [List.length_cons] at hlen hl h1
    refine ⟨by omega, by omega, ?_, ?_⟩
    · rw [hparts]
      simp
      omega
    · rw [hparts]
      intro j p x hj' hx
      cases j with
      | zero =>
        simp at hj'
        subst hj'
        rw [stepF_zero]
        exact h2 0 t x rfl hx
      | succ j =>
        simp only [List.getElem?_cons_succ, List.getElem?_map] at hj'
        cases hq : l[j]? with
        | none => rw [hq] at hj'; cases hj'
        | some q =>
          rw [hq] at hj'
          injection hj' with hj'
          subst hj'
          rw [stepF_succ]
          exact h2 (j + 1) q x (by simpa using hq) hx
theorem code_from {s : List UInt8} {xs : List Ins} (hs : s ≠ []) (hl : xs.length ≤ 16) (h : Good (partsF 59 s) xs) : codeCF s = some xs := by
  obtain ⟨p0, ps, hps⟩ := List.exists_cons_of_ne_nil (partsF_ne 59 s)
  rw [hps] at h
  obtain ⟨h1, h2⟩ := h
  cases xs with
  | nil => simp at h1
  | cons x0 xs =>
    have h0 := h2 0 p0 x0 rfl rfl
    rw [stepF_zero] at h0
    have hrest : ∀ (j : Nat) (p : List UInt8) (x : Ins), ps[j]? = some p → xs[j]? = some x → ∃ q, p = 32 :: q ∧ parseIF q = some x := fun j p x hp hx => stepF_inv (h2 (j + 1) p x (by simpa using hp) (by simpa using hx))
    have hpl : ps.length = xs.length := by simpa using h1
    have hmap : ps = (ps.map List.tail).map (32 :: ·) := by
      apply List.ext_getElem?
      intro j
      simp only [List.getElem?_map]
      cases hp : ps[j]? with
      | none => rfl
      | some p =>
        have hj := (List.getElem?_eq_some_iff.1 hp).1
        obtain ⟨q, rfl, -⟩ := hrest j p _ hp (List.getElem?_eq_getElem (by omega))
        rfl
    have hno : ∀ p ∈ p0 :: ps.map List.tail, ∀ b ∈ p, b ≠ 59 := by
      intro p hp
      rcases List.mem_cons.1 hp with rfl | hp
      · exact (parseIF_no59 h0).1
      · obtain ⟨q, hq, rfl⟩ := List.mem_map.1 hp
        obtain ⟨j, hj⟩ := List.getElem?_of_mem hq
        have hjl := (List.getElem?_eq_some_iff.1 hj).1
        obtain ⟨r, rfl, hr⟩ := hrest j q _ hj (List.getElem?_eq_getElem (by omega))
        exact (parseIF_no59 hr).1
    have hjs : Lib.join (p0 :: ps.map List.tail) sepC = s := by
      have e := parts_of_join (ps.map List.tail) p0 hno
      rw [← hmap, ← hps] at e
      rw [← parts_join 59 s, ← e, parts_join]
    have hle : ps.length ≤ s.length := by
      have := parts_len 59 s
      have h3 := partsF_len 59 s
      rw [hps] at h3
      simp at h3
      omega
    have hpc : piecesC s = p0 :: ps.map List.tail := by
      unfold piecesC
      conv => lhs; arg 4; rw [← hjs]
      exact splitK_join _ _ _ hno (by simp at hl ⊢; omega)
    unfold codeCF
    rw [if_neg hs, hpc, if_neg (by simp at hl ⊢; omega)]
    refine mapM_get.2 ⟨by simp; omega, fun j p x hp hx => ?_⟩
    cases j with
    | zero => simp at hp hx; subst hp hx; exact h0
    | succ j =>
      simp only [List.getElem?_cons_succ, List.getElem?_map] at hp hx
      cases hq : ps[j]? with
      | none => rw [hq] at hp; cases hp
      | some q =>
        rw [hq] at hp
        injection hp with hp
        subst hp
        obtain ⟨r, rfl, hr⟩ := hrest j q x hq hx
        exact hr
end Go.Proofs.YtgbgjlmkmlhefaaGreatDoor
