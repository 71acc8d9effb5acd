import Derived.Test.YtgbgjlmkmlhefaaGreatDoorKE
import Derived.Test.YtgbgjlmkmlhefaaGreatDoorKC
import Derived.Lib.OthersKept
import Derived.Laws.RangeAny
import Derived.Test.YtgbgjlmkmlhefaaGreatDoorShelfW
import Derived.WalkSmall
import Derived.StillTailTactics
import Derived.Test.YtgbgjlmkmlhefaaGreatDoorKN
/- Plain: what text is a query's, by the program's forms and by the model's parts. -/
namespace Go.Proofs.YtgbgjlmkmlhefaaGreatDoor
set_option maxRecDepth 20000
set_option linter.unusedSimpArgs false
set_option linter.unusedVariables false
open Go.ChangeShapes Go.WideShapes Go.ChangeAt Go.RowKit
def isNum (b : UInt8) : Bool := b == 45 || (decide (48 ≤ b.toNat) && decide (b.toNat ≤ 57))
def formRF : List UInt8 → List UInt8 → Option (List Int)
  | [], r => if r = [] then some [] else none
  | c :: f, r =>
    if c = 35 then (valF (r.takeWhile isNum)).bind fun v => (formRF f (r.dropWhile isNum)).map (v :: ·)
    else match r with
      | [] => none
      | d :: r' => if d = c then formRF f r' else none
abbrev formReg : List UInt8 := [35, 58, 35, 61, 35]
abbrev formCell : List UInt8 := [91, 35, 93, 61, 35]
def mkReg : List Int → Option Ins
  | [t, x, v] => some ⟨0, t, x, v⟩
  | _ => none
def mkCell : List Int → Option Ins
  | [x, v] => some ⟨1, 0, x, v⟩
  | _ => none
/-- the program's parseAtom -/
def parseAF (p : List UInt8) : Option Ins := match (formRF formReg p).bind mkReg with | some a => some a | none => (formRF formCell p).bind mkCell
abbrev sepA : List UInt8 := [32, 38, 32]
def piecesA (s : List UInt8) : List (List UInt8) := Lib.splitK sepA 0 (min 9 (s.length + 1) - 1) s
/-- the program's ParseAsk -/
def askCF (s : List UInt8) : Option (List Ins) := if s = [] then some [] else if 8 < (piecesA s).length then none else (piecesA s).mapM parseAF
/-- the model's atom -/
def brB (l : List UInt8) : Bool := decide (2 < l.length) && l.head? == some 91 && l.getLast? == some 93
def specAF (p : List UInt8) : Option Ins :=
  match partsF 61 p with
  | [l, q] => (readF q).bind fun v =>
    if brB l then (readF l.tail.dropLast).map fun x => ⟨1, 0, x, v⟩
    else match partsF 58 l with
      | [a, b] => (readF a).bind fun t => (readF b).map fun x => ⟨0, t, x, v⟩
      | _ => none
  | _ => none
def wordsF : List (List UInt8) → Option (List Ins)
  | [] => some []
  | [p] => (specAF p).map fun a => [a]
  | p :: q :: r => (specAF p).bind fun a => if q = [38] then (wordsF r).map (a :: ·) else none
def specAskF (s : List UInt8) : Option (List Ins) := if s = [] then some [] else if 320 < s.length then none else (wordsF (partsF 32 s)).bind fun L => if askTF L = some s then some L else none
-- numbers
theorem itoa_num (v : Int) : ∀ b ∈ Lib.itoa v, isNum b = true := by
  have hd : ∀ n, ∀ b ∈ Lib.decDigits n, isNum b = true := fun n b hb => by
    obtain ⟨k, hk⟩ := List.getElem?_of_mem hb
    obtain ⟨d, hd⟩ := Lib.digit_of_decFrom _ 0 n (decFrom_digits n) k b hk
    unfold isNum
    by_cases h1 : (b.toNat : Int) < 48 ∨ 57 < (b.toNat : Int)
    · rw [digit_no h1] at hd
      cases hd
    · simp
      omega
  unfold Lib.itoa
  split
  · intro b hb
    rcases List.mem_cons.1 hb with rfl | hb
    · decide
    · exact hd _ b hb
  · exact hd _
theorem itoa_no {c : UInt8} (hc : isNum c = false) (v : Int) : ∀ b ∈ Lib.itoa v, b ≠ c := fun b hb e => by
  have := itoa_num v b hb
  rw [e, hc] at this
  cases this
theorem take_num (v : Int) (c : UInt8) (r : List UInt8) (hc : isNum c = false) : (Lib.itoa v ++ c :: r).takeWhile isNum = Lib.itoa v ∧ (Lib.itoa v ++ c :: r).dropWhile isNum = c :: r := by
  have key : ∀ l : List UInt8, (∀ b ∈ l, isNum b = true) → (l ++ c :: r).takeWhile isNum = l ∧ (l ++ c :: r).dropWhile isNum = c :: r := by
    intro l
    induction l with
    | nil => intro _; simp [hc]
    | cons b l ih =>
      intro h
      have h1 := h b (by simp)
      obtain ⟨i1, i2⟩ := ih fun x hx => h x (by simp [hx])
      rw [List.cons_append, List.takeWhile_cons, List.dropWhile_cons, h1]
      simp [i1, i2]
  exact key _ (itoa_num v)
theorem take_all (v : Int) : (Lib.itoa v).takeWhile isNum = Lib.itoa v ∧ (Lib.itoa v).dropWhile isNum = [] := by
  have key : ∀ l : List UInt8, (∀ b ∈ l, isNum b = true) → l.takeWhile isNum = l ∧ l.dropWhile isNum = [] := by
    intro l
    induction l with
    | nil => intro _; simp
    | cons b l ih =>
      intro h
      have h1 := h b (by simp)
      obtain ⟨i1, i2⟩ := ih fun x hx => h x (by simp [hx])
      rw [List.takeWhile_cons, List.dropWhile_cons, h1]
      simp [i1, i2]
  exact key _ (itoa_num v)
theorem valF_itoa {v : Int} (h : valB v = true) : valF (Lib.itoa v) = some v := by
  have hb := inB_true h
  rw [valF_some]
  exact ⟨readF_itoa (by omega), h⟩
theorem valF_text {p : List UInt8} {v : Int} (h : valF p = some v) : p = Lib.itoa v ∧ valB v = true := by
  rw [valF_parse] at h
  exact ⟨(parseF_some h.1).symm, h.2⟩
-- one hole, one sign
theorem form_hole {f r : List UInt8} {l : List Int} (h : formRF (35 :: f) r = some l) : ∃ v q, l = v :: q ∧ valB v = true ∧ r = Lib.itoa v ++ r.dropWhile isNum ∧ formRF f (r.dropWhile isNum) = some q := by
  unfold formRF at h
  rw [if_pos rfl] at h
  cases hv : valF (r.takeWhile isNum) with
  | none => rw [hv] at h; cases h
  | some v =>
    rw [hv] at h
    obtain ⟨e, hb⟩ := valF_text hv
    cases hq : formRF f (r.dropWhile isNum) with
    | none => rw [Option.bind_some, hq] at h; cases h
    | some q =>
      rw [Option.bind_some, hq] at h
      simp only [Option.map_some, Option.some.injEq] at h
      exact ⟨v, q, h.symm, hb, by rw [← e, List.takeWhile_append_dropWhile], rfl⟩
theorem form_sign {c : UInt8} {f r : List UInt8} {l : List Int} (hc : c ≠ 35) (h : formRF (c :: f) r = some l) : ∃ r', r = c :: r' ∧ formRF f r' = some l := by
  unfold formRF at h
  rw [if_neg hc] at h
  cases r with
  | nil => cases h
  | cons d r' =>
    simp only at h
    split at h
    · rename_i e
      exact ⟨r', by rw [e], h⟩
    · cases h
theorem form_end {r : List UInt8} {l : List Int} (h : formRF [] r = some l) : r = [] ∧ l = [] := by
  unfold formRF at h
  split at h
  · rename_i e
    exact ⟨e, by simpa using h.symm⟩
  · cases h
theorem reg_text {p : List UInt8} {l : List Int} (h : formRF formReg p = some l) : ∃ t x v, l = [t, x, v] ∧ valB t = true ∧ valB x = true ∧ valB v = true ∧ p = Lib.itoa t ++ [58] ++ Lib.itoa x ++ [61] ++ Lib.itoa v := by
  obtain ⟨t, l1, rfl, ht, e1, h⟩ := form_hole h
  obtain ⟨r1, e2, h⟩ := form_sign (by decide) h
  obtain ⟨x, l2, rfl, hx, e3, h⟩ := form_hole h
  obtain ⟨r2, e4, h⟩ := form_sign (by decide) h
  obtain ⟨v, l3, rfl, hv, e5, h⟩ := form_hole h
  obtain ⟨e6, rfl⟩ := form_end h
  refine ⟨t, x, v, rfl, ht, hx, hv, ?_⟩
  rw [e1, e2, e3, e4, e5, e6]
  simp
theorem cell_text {p : List UInt8} {l : List Int} (h : formRF formCell p = some l) : ∃ x v, l = [x, v] ∧ valB x = true ∧ valB v = true ∧ p = [91] ++ Lib.itoa x ++ [93] ++ [61] ++ Lib.itoa v := by
  obtain ⟨r0, e0, h⟩ := form_sign (by decide) h
  obtain ⟨x, l2, rfl, hx, e3, h⟩ := form_hole h
  obtain ⟨r1, e1, h⟩ := form_sign (by decide) h
  obtain ⟨r2, e4, h⟩ := form_sign (by decide) h
  obtain ⟨v, l3, rfl, hv, e5, h⟩ := form_hole h
  obtain ⟨e6, rfl⟩ := form_end h
  refine ⟨x, v, rfl, hx, hv, ?_⟩
  rw [e0, e3, e1, e4, e5, e6]
  simp
theorem form_of_hole {v : Int} {c : UInt8} {f r : List UInt8} {q : List Int} (hv : valB v = true) (hc : isNum c = false) (h : formRF f (c :: r) = some q) : formRF (35 :: f) (Lib.itoa v ++ c :: r) = some (v :: q) := by
  obtain ⟨h1, h2⟩ := take_num v c r hc
  unfold formRF
  rw [if_pos rfl, h1, h2, valF_itoa hv, Option.bind_some, h]
  rfl
theorem form_of_last {v : Int} (hv : valB v = true) : formRF [35] (Lib.itoa v) = some [v] := by
  obtain ⟨h1, h2⟩ := take_all v
  unfold formRF
  rw [if_pos rfl, h1, h2, valF_itoa hv]
  rfl
theorem form_of_sign {c : UInt8} {f r : List UInt8} (hc : c ≠ 35) : formRF (c :: f) (c :: r) = formRF f r := by
  conv => lhs; unfold formRF
  rw [if_neg hc]
  simp
theorem text_reg {t x v : Int} (ht : valB t = true) (hx : valB x = true) (hv : valB v = true) : formRF formReg (Lib.itoa t ++ [58] ++ Lib.itoa x ++ [61] ++ Lib.itoa v) = some [t, x, v] := by
  have e : Lib.itoa t ++ [58] ++ Lib.itoa x ++ [61] ++ Lib.itoa v = Lib.itoa t ++ 58 :: (Lib.itoa x ++ 61 :: Lib.itoa v) := by simp
  rw [e]
  refine form_of_hole ht (by decide) ?_
  rw [form_of_sign (by decide)]
  refine form_of_hole hx (by decide) ?_
  rw [form_of_sign (by decide)]
  exact form_of_last hv
theorem text_cell {x v : Int} (hx : valB x = true) (hv : valB v = true) : formRF formCell ([91] ++ Lib.itoa x ++ [93] ++ [61] ++ Lib.itoa v) = some [x, v] := by
  have e : [91] ++ Lib.itoa x ++ [93] ++ [61] ++ Lib.itoa v = 91 :: (Lib.itoa x ++ 93 :: (61 :: Lib.itoa v)) := by simp
  rw [e, form_of_sign (by decide)]
  refine form_of_hole hx (by decide) ?_
  rw [form_of_sign (by decide), form_of_sign (by decide)]
  exact form_of_last hv
-- atoms
theorem tb_parts {a : Ins} (h : atomTB a = true) : ((a.o = 0) ∨ (a.o = 1 ∧ a.r = 0)) ∧ valB a.r = true ∧ valB a.s = true ∧ valB a.n = true := by
  simp only [atomTB, Bool.and_eq_true, Bool.not_eq_true', knownB, Bool.or_eq_true, beq_iff_eq] at h
  obtain ⟨⟨⟨⟨h1, h2⟩, h3⟩, h4⟩, h5⟩ := h
  refine ⟨?_, h3, h4, h5⟩
  rcases h1 with h1 | h1
  · exact .inl h1
  · exact .inr ⟨h1, by simpa [strayB, h1] using h2⟩
theorem parse_text {a : Ins} (h : atomTB a = true) : parseAF (atomTF a) = some a := by
  obtain ⟨h0, h1, h2, h3⟩ := tb_parts h
  obtain ⟨o, r, s, n⟩ := a
  simp only at h0 h1 h2 h3
  unfold atomTF
  rw [if_pos h]
  rcases h0 with rfl | ⟨rfl, rfl⟩
  · simp only [if_true]
    unfold parseAF
    rw [text_reg h1 h2 h3]
    rfl
  · simp only [show ((1 : Int) = 0) = False from by simp, if_false]
    unfold parseAF
    have hn : (formRF formReg ([91] ++ Lib.itoa s ++ [93] ++ [61] ++ Lib.itoa n)).bind mkReg = none := by
      cases hx : formRF formReg ([91] ++ Lib.itoa s ++ [93] ++ [61] ++ Lib.itoa n) with
      | none => rfl
      | some l =>
        obtain ⟨t, x, v, -, -, -, -, e⟩ := reg_text hx
        have hh := congrArg List.head? e
        exfalso
        cases ht : Lib.itoa t with
        | nil => rw [ht] at hh; simp at hh
        | cons c q =>
          rw [ht] at hh
          simp at hh
          have := itoa_num t c (by rw [ht]; simp)
          rw [← hh] at this
          revert this
          decide
    rw [hn, text_cell h2 h3]
    rfl
theorem text_parse {p : List UInt8} {a : Ins} (h : parseAF p = some a) : atomTB a = true ∧ atomTF a = p := by
  unfold parseAF at h
  split at h
  · rename_i b hb
    cases h
    cases hx : formRF formReg p with
    | none => rw [hx] at hb; cases hb
    | some l =>
      rw [hx] at hb
      obtain ⟨t, x, v, rfl, h1, h2, h3, e⟩ := reg_text hx
      simp only [Option.bind_some, mkReg, Option.some.injEq] at hb
      subst hb
      have hT : atomTB ⟨0, t, x, v⟩ = true := by simp [atomTB, knownB, strayB, h1, h2, h3]
      exact ⟨hT, by unfold atomTF; rw [if_pos hT, e]; rfl⟩
  · cases hx : formRF formCell p with
    | none => rw [hx] at h; cases h
    | some l =>
      rw [hx] at h
      obtain ⟨x, v, rfl, h2, h3, e⟩ := cell_text hx
      simp only [Option.bind_some, mkCell, Option.some.injEq] at h
      subst h
      have hT : atomTB ⟨1, 0, x, v⟩ = true := by
        have : valB 0 = true := rfl
        simp [atomTB, knownB, strayB, h2, h3, this]
      exact ⟨hT, by unfold atomTF; rw [if_pos hT, e]; rfl⟩
theorem spec_text {a : Ins} (h : atomTB a = true) : specAF (atomTF a) = some a := by
  obtain ⟨h0, h1, h2, h3⟩ := tb_parts h
  obtain ⟨o, r, s, n⟩ := a
  simp only at h0 h1 h2 h3
  have b1 := inB_true h1
  have b2 := inB_true h2
  have b3 := inB_true h3
  unfold atomTF
  rw [if_pos h]
  rcases h0 with rfl | ⟨rfl, rfl⟩
  · simp only [if_true]
    have e : Lib.itoa r ++ [58] ++ Lib.itoa s ++ [61] ++ Lib.itoa n = (Lib.itoa r ++ 58 :: Lib.itoa s) ++ 61 :: Lib.itoa n := by simp
    have hno : ∀ b ∈ Lib.itoa r ++ 58 :: Lib.itoa s, b ≠ 61 := fun b hb => by
      rcases List.mem_append.1 hb with h | h
      · exact itoa_no (by decide) r b h
      · rcases List.mem_cons.1 h with rfl | h
        · decide
        · exact itoa_no (by decide) s b h
    have hbr : brB (Lib.itoa r ++ 58 :: Lib.itoa s) = false := by
      have : (Lib.itoa r ++ 58 :: Lib.itoa s).head? ≠ some 91 := by
        cases ht : Lib.itoa r with
        | nil => simp
        | cons c q =>
          simp
          intro hc
          have := itoa_num r c (by rw [ht]; simp)
          rw [hc] at this
          revert this
          decide
      generalize Lib.itoa r ++ 58 :: Lib.itoa s = l at this
      unfold brB
      cases l with
      | nil => simp
      | cons c q =>
        simp only [List.head?_cons, ne_eq, Option.some.injEq] at this
        simp [this]
    unfold specAF
    rw [e, partsF_hit 61 _ _ hno, partsF_miss 61 _ (itoa_no (by decide) n)]
    simp only
    rw [readF_itoa (by omega), hbr, partsF_hit 58 _ _ (itoa_no (by decide) r), partsF_miss 58 _ (itoa_no (by decide) s)]
    simp only [Option.bind_some, Bool.false_eq_true, if_false]
    rw [readF_itoa (by omega), readF_itoa (by omega)]
    rfl
  · simp only [show ((1 : Int) = 0) = False from by simp, if_false]
    have e : [91] ++ Lib.itoa s ++ [93] ++ [61] ++ Lib.itoa n = (91 :: (Lib.itoa s ++ [93])) ++ 61 :: Lib.itoa n := by simp
    have hno : ∀ b ∈ 91 :: (Lib.itoa s ++ [93]), b ≠ 61 := fun b hb => by
      rcases List.mem_cons.1 hb with rfl | h
      · decide
      · rcases List.mem_append.1 h with h | h
        · exact itoa_no (by decide) s b h
        · simp at h; subst h; decide
    have hne : Lib.itoa s ≠ [] := by
      have := (body_itoa s).1
      intro hx
      rw [hx] at this
      exact digits_ne s.natAbs this.symm
    have hbr : brB (91 :: (Lib.itoa s ++ [93])) = true := by
      have hl : 0 < (Lib.itoa s).length := List.length_pos_iff.2 hne
      have h1 : decide (2 < (91 :: (Lib.itoa s ++ [93])).length) = true := by simp; omega
      have h2 : (91 :: (Lib.itoa s ++ [93])).getLast? = some 93 := by
        rw [← List.cons_append, List.getLast?_append]
        rfl
      unfold brB
      rw [h1, h2]
      rfl
    unfold specAF
    rw [e, partsF_hit 61 _ _ hno, partsF_miss 61 _ (itoa_no (by decide) n)]
    simp only
    rw [readF_itoa (by omega), hbr]
    simp only [Option.bind_some, if_true, List.tail_cons, List.dropLast_concat]
    rw [readF_itoa (by omega)]
    rfl
-- the separator
theorem idxA_hit (r : List UInt8) : ∀ p : List UInt8, (∀ b ∈ p, b ≠ 32) → Lib.index (p ++ 32 :: 38 :: 32 :: r) sepA = (p.length : Int)
  | [], _ => by simp [Lib.index, List.isPrefixOf]
  | b :: p, h => by
    have ih := idxA_hit r p (fun x hx => h x (by simp [hx]))
    have hb : (32 == b) = false := by simpa using (h b (by simp)).symm
    have hn : ((p.length : Int) == -1) = false := by simp
    rw [List.cons_append, Lib.index, ih]
    simp [List.isPrefixOf, hb]
theorem idxA_miss : ∀ p : List UInt8, (∀ b ∈ p, b ≠ 32) → Lib.index p sepA = -1
  | [], _ => by simp [Lib.index]
  | b :: p, h => by
    have ih := idxA_miss p (fun x hx => h x (by simp [hx]))
    have hb : (32 == b) = false := by simpa using (h b (by simp)).symm
    rw [Lib.index, ih]
    simp [List.isPrefixOf, hb]
theorem splitA_join : ∀ (l : List (List UInt8)) (t : List UInt8) (k : Nat), (∀ p ∈ t :: l, ∀ b ∈ p, b ≠ 32) → l.length ≤ k → Lib.splitK sepA 0 k (Lib.join (t :: l) sepA) = t :: l
  | [], t, k, h, _ => by
    rw [Lib.join_one]
    cases k with
    | zero => rfl
    | succ k => rw [Lib.splitK, idxA_miss t (h t (by simp))]; rfl
  | u :: l, t, 0, _, hk => by simp at hk
  | u :: l, t, k + 1, h, hk => by
    have hi := idxA_hit (Lib.join (u :: l) sepA) t (h t (by simp))
    have e : Lib.join (t :: u :: l) sepA = t ++ 32 :: 38 :: 32 :: Lib.join (u :: l) sepA := by rw [join_cons2]; simp
    have hn : ((t.length : Int) == -1) = false := by simp
    rw [e, Lib.splitK, hi, hn]
    have ih := splitA_join l u k (fun p hp => h p (by simp at hp ⊢; exact .inr hp)) (by simpa using hk)
    have hd : (t ++ 32 :: 38 :: 32 :: Lib.join (u :: l) sepA).drop (t.length + 3) = Lib.join (u :: l) sepA := by
      rw [List.drop_append]
      simp
    simp [hd, ih]
theorem join_splitA : ∀ (k : Nat) (s : List UInt8), Lib.join (Lib.splitK sepA 0 k s) sepA = s ∧ Lib.splitK sepA 0 k s ≠ []
  | 0, s => ⟨by rw [Lib.splitK, Lib.join_one], by simp [Lib.splitK]⟩
  | k + 1, s => by
    rw [Lib.splitK]
    rcases Lib.index_spec s sepA with ⟨h, -⟩ | ⟨i, h, hi, ho, -⟩
    · rw [h]
      exact ⟨by simp [Lib.join_one], by simp⟩
    · have hn : ((i : Int) == -1) = false := by simp
      rw [h, hn]
      obtain ⟨ih1, ih2⟩ := join_splitA k (s.drop (i + 3))
      obtain ⟨u, l, hul⟩ := List.exists_cons_of_ne_nil ih2
      have hp : sepA <+: s.drop i := by
        have := ho
        unfold Lib.occAt at this
        exact List.isPrefixOf_iff_prefix.1 this
      obtain ⟨r, hr⟩ := hp
      have hs : s = s.take i ++ (sepA ++ r) := by rw [hr, List.take_append_drop]
      have hdr : s.drop (i + 3) = r := by rw [← List.drop_drop, ← hr]; rfl
      refine ⟨?_, by simp⟩
      have e2 : (if false = true then [s] else s.take ((i : Int).toNat + 0) :: Lib.splitK sepA 0 k (s.drop ((i : Int).toNat + sepA.length))) = s.take i :: u :: l := by
        simp [← hul]
      rw [e2, join_cons2, ← hul, ih1, hdr]
      conv => rhs; rw [hs]
      simp
theorem atomTF_no32 (a : Ins) : ∀ b ∈ atomTF a, b ≠ 32 := by
  intro b hb
  unfold atomTF at hb
  split at hb
  · split at hb
    all_goals
      simp only [List.mem_append, List.mem_singleton] at hb
      rcases hb with (((h | h) | h) | h) | h
      all_goals first
        | exact itoa_no (by decide) _ b h
        | (subst h; decide)
  · simp at hb
theorem itoa_len8 {v : Int} (h : valB v = true) : (Lib.itoa v).length ≤ 8 := by
  have := inB_true h
  exact itoa_len (by omega)
theorem atomTF_len26 (a : Ins) : (atomTF a).length ≤ 26 := by
  unfold atomTF
  split
  · rename_i h
    obtain ⟨-, h1, h2, h3⟩ := tb_parts h
    have g1 := itoa_len8 h1
    have g2 := itoa_len8 h2
    have g3 := itoa_len8 h3
    split
    · simp only [List.length_append, List.length_cons, List.length_nil]
      omega
    · simp only [List.length_append, List.length_cons, List.length_nil]
      omega
  · simp
theorem atext_len29 : ∀ L : List Ins, (atext L).length ≤ 29 * L.length
  | [] => by simp [atext, Lib.join_nil]
  | [a] => by
    have := atomTF_len26 a
    simp [atext, Lib.join_one]
    omega
  | a :: b :: L => by
    have h1 := atomTF_len26 a
    have h2 := atext_len29 (b :: L)
    unfold atext at h2 ⊢
    simp only [List.map_cons] at h2 ⊢
    rw [join_cons2]
    simp only [List.length_append, List.length_cons, List.length_nil] at h2 ⊢
    omega
/-- the words of a query's text -/
theorem words_text : ∀ (L : List Ins) (a : Ins), (∀ x ∈ a :: L, atomTB x = true) → wordsF (partsF 32 (atext (a :: L))) = some (a :: L)
  | [], a, h => by
    have e : atext [a] = atomTF a := by simp [atext, Lib.join_one]
    rw [e, partsF_miss 32 _ (atomTF_no32 a), wordsF, spec_text (h a (by simp))]
    rfl
  | b :: L, a, h => by
    have e : atext (a :: b :: L) = atomTF a ++ 32 :: ([38] ++ 32 :: atext (b :: L)) := by
      unfold atext
      simp only [List.map_cons]
      rw [join_cons2]
      simp
    rw [e, partsF_hit 32 _ _ (atomTF_no32 a), partsF_hit 32 [38] _ (by simp), wordsF, spec_text (h a (by simp)), Option.bind_some, if_pos rfl, words_text L b (fun x hx => h x (by simp at hx ⊢; exact .inr hx))]
    rfl
theorem askTF_some {L : List Ins} {s : List UInt8} (h : askTF L = some s) : L.length ≤ 8 ∧ (∀ x ∈ L, atomTB x = true) ∧ atext L = s := by
  unfold askTF at h
  split at h
  · rename_i hc
    exact ⟨hc.1, by simpa [List.all_eq_true] using hc.2, by simpa using h⟩
  · cases h
theorem askCF_of {L : List Ins} {s : List UInt8} (hs : s ≠ []) (h : askTF L = some s) : askCF s = some L := by
  obtain ⟨hl, hb, ht⟩ := askTF_some h
  match L, hl, hb, ht with
  | [], _, _, ht => exact absurd (by rw [← ht]; simp [atext, Lib.join_nil]) hs
  | a :: L, hl, hb, ht =>
    have hk : L.length ≤ min 9 (s.length + 1) - 1 := by
      have : L.length ≤ s.length := by
        rw [← ht]
        clear hl hs h ht
        induction L generalizing a with
        | nil => simp
        | cons b L ih =>
          have := ih b (fun x hx => hb x (by simp at hx ⊢; exact .inr hx))
          unfold atext at this ⊢
          simp only [List.map_cons] at this ⊢
          rw [join_cons2]
          simp only [List.length_append, List.length_cons, List.length_nil] at this ⊢
          omega
      simp only [List.length_cons] at hl
      omega
    have hp : piecesA s = atomTF a :: L.map atomTF := by
      unfold piecesA
      rw [← ht]
      unfold atext
      rw [List.map_cons]
      refine splitA_join _ _ _ (fun p hp b hb' => ?_) (by rw [List.length_map]; rw [← ht] at hk; unfold atext at hk; rw [List.map_cons] at hk; exact hk)
      rcases List.mem_cons.1 hp with rfl | hp
      · exact atomTF_no32 a b hb'
      · obtain ⟨x, -, rfl⟩ := List.mem_map.1 hp
        exact atomTF_no32 x b hb'
    unfold askCF
    rw [if_neg hs, hp, if_neg (by simp only [List.length_cons, List.length_map] at hl ⊢; omega)]
    have : (atomTF a :: L.map atomTF) = (a :: L).map atomTF := rfl
    rw [this, mapM_get]
    refine ⟨by simp, fun j p x hj hx => ?_⟩
    rw [List.getElem?_map, hx] at hj
    simp only [Option.map_some, Option.some.injEq] at hj
    rw [← hj]
    exact parse_text (hb x (List.mem_of_getElem? hx))
theorem of_askCF {L : List Ins} {s : List UInt8} (hs : s ≠ []) (h : askCF s = some L) : askTF L = some s := by
  unfold askCF at h
  rw [if_neg hs] at h
  split at h
  · cases h
  · rename_i hn
    rw [mapM_get] at h
    obtain ⟨hl, hg⟩ := h
    have hm : piecesA s = L.map atomTF := by
      apply List.ext_getElem?
      intro j
      rw [List.getElem?_map]
      cases hx : L[j]? with
      | none =>
        have := List.getElem?_eq_none_iff.1 hx
        exact List.getElem?_eq_none (by omega)
      | some x =>
        have hj : j < (piecesA s).length := by have := (List.getElem?_eq_some_iff.1 hx).1; omega
        have hp : (piecesA s)[j]? = some (piecesA s)[j] := List.getElem?_eq_getElem hj
        rw [hp, (text_parse (hg j _ x hp hx)).2.symm]
        rfl
    have hB : ∀ x ∈ L, atomTB x = true := fun x hx => by
      obtain ⟨j, hj⟩ := List.mem_iff_getElem?.1 hx
      have hjl : j < (piecesA s).length := by have := (List.getElem?_eq_some_iff.1 hj).1; omega
      exact (text_parse (hg j _ x (List.getElem?_eq_getElem hjl) hj)).1
    unfold askTF
    rw [if_pos ⟨by omega, by simpa [List.all_eq_true] using hB⟩]
    have hj := (join_splitA (min 9 (s.length + 1) - 1) s).1
    have : Lib.join (piecesA s) sepA = s := hj
    rw [hm] at this
    exact congrArg some this
/-- both sides parse the same -/
theorem ask_same (s : List UInt8) : askCF s = specAskF s := by
  by_cases hs : s = []
  · simp [askCF, specAskF, hs]
  refine opt_ext fun L => ⟨fun h => ?_, fun h => ?_⟩
  · have ht := of_askCF hs h
    obtain ⟨hl, hb, he⟩ := askTF_some ht
    have hlen := atext_len29 L
    rw [he] at hlen
    unfold specAskF
    rw [if_neg hs, if_neg (by omega)]
    match L, ht, hb, he with
    | [], _, _, he => exact absurd (by rw [← he]; simp [atext, Lib.join_nil]) hs
    | a :: L, ht, hb, he =>
      have hw := words_text L a hb
      rw [he] at hw
      rw [hw, Option.bind_some, if_pos ht]
  · unfold specAskF at h
    rw [if_neg hs] at h
    split at h
    · cases h
    · cases hw : wordsF (partsF 32 s) with
      | none => rw [hw] at h; cases h
      | some L' =>
        rw [hw, Option.bind_some] at h
        split at h
        · rename_i ht
          cases h
          exact askCF_of hs ht
        · cases h
end Go.Proofs.YtgbgjlmkmlhefaaGreatDoor

/- How far a number's signs go in a text. Condition: the text is at most 1048576 bytes long. -/
namespace Go.Proofs.YtgbgjlmkmlhefaaGreatDoor
set_option maxRecDepth 20000
set_option linter.unusedSimpArgs false
set_option linter.unusedVariables false
open Go.ChangeShapes Go.WideShapes Go.ChangeAt Go.RowKit
set_option linter.unusedVariables false
theorem take_run {k : Nat} {s : List UInt8} (h : ∀ j b, j < k → s[j]? = some b → isNum b = true) (hk : k ≤ s.length) (he : ∀ b, s[k]? = some b → isNum b = false) : (s.takeWhile isNum).length = k := by
  induction s generalizing k with
  | nil => simp at hk; subst hk; rfl
  | cons c s ih =>
    cases k with
    | zero => rw [List.takeWhile_cons, he c rfl]; rfl
    | succ k =>
      rw [List.takeWhile_cons, h 0 c (by omega) rfl]
      simp only [if_true, List.length_cons]
      rw [ih (k := k) (fun j b hj hb => h (j + 1) b (by omega) (by simpa using hb)) (by simpa using hk) (fun b hb => he b (by simpa using hb))]
set_option maxHeartbeats 3200000 in
theorem impl_lenNum (s : List UInt8) (w : World) (hs : s.length ≤ 1048576) :
    Calls Tryz.prog 105 #[str s] w fun e w' => e = .returned (.int .i64 (s.takeWhile isNum).length) ∧ Below w.heap.size w w' := by
  obtain ⟨S, hS⟩ : ∃ S : ByteArray, S = ⟨s.toArray⟩ := ⟨_, rfl⟩
  have hsz : S.size = s.length := by rw [hS]; show s.toArray.size = _; simp
  have hat : ∀ k (h : k < S.size), s[k]? = some (S[k]'h) := fun k h => by subst hS; show _ = some (s.toArray[k]'(by simpa using hsz ▸ h)); simp
  show Calls Tryz.prog 105 #[.string ⟨s.toArray⟩] w _
  rw [← hS]
  clear hS
  have hBa := (Below.refl w.heap.size w).alloc (Nat.le_refl _) (.stringIter S 0)
  have hit0 : (w.alloc (.stringIter S 0)).heap[w.heap.size]? = some (.stringIter S 0) := World.iter_heap w S 0
  go_enter Tryz.func105, Tryz.ntmps105
  go_wp2_with fail
  go_loopw [] (fun wr => ∃ k : Nat, k ≤ s.length ∧ wr.heap[w.heap.size]? = some (.stringIter S k) ∧ Below w.heap.size w wr ∧ ∀ j b, j < k → s[j]? = some b → isNum b = true) (fun wr => s.length - wr.iterPos w.heap.size)
  case atStart => exact ⟨0, Nat.zero_le _, hit0, hBa, fun j b h => by omega⟩
  case round =>
    obtain ⟨k, hk, hit, hB, hall⟩ := hrel
    clear hit0 hBa
    by_cases hlt : k < S.size
    · have hb := hat k hlt
      obtain ⟨b, hbd⟩ : ∃ b, b = S[k]'hlt := ⟨_, rfl⟩
      rw [← hbd] at hb
      cases hn : isNum b
      case true =>
        have hnb : b.toNat = 45 ∨ (48 ≤ b.toNat ∧ b.toNat ≤ 57) := by
          unfold isNum at hn
          simp at hn
          rcases hn with rfl | h
          · exact .inl rfl
          · exact .inr h
        have hnx : ∀ ty, (Instr.next (.pointer (some ⟨w.heap.size, 0, none⟩)) true ty).run Tryz.prog wr = .ok (.tuple #[.bool true, .int .i64 k, .int .i32 (b.toNat : Nat)]) (wr.iterAt w.heap.size S (k + 1)) := fun ty => by
          have := Lib.run_next_ascii_at (P := Tryz.prog) wr w.heap.size S k ty hit hlt (by rw [← hbd]; omega)
          rw [← hbd] at this
          exact this
        have hit2 := Lib.iterAt_heap wr w.heap.size S k (k + 1) hit
        have hB2 := Lib.below_iterAt hB (k := w.heap.size) (Nat.le_refl _) S (k + 1)
        have hm : wr.iterPos w.heap.size = k := by simp only [World.iterPos, hit]
        have HM : Hid (∃ j : Nat, j ≤ s.length ∧ (wr.iterAt w.heap.size S (k + 1)).heap[w.heap.size]? = some (.stringIter S j) ∧ Below w.heap.size w (wr.iterAt w.heap.size S (k + 1)) ∧ ∀ i b, i < j → s[i]? = some b → isNum b = true) := Lib.hid ⟨k + 1, by omega, hit2, hB2, fun i b' hi hb' => by
          by_cases e : i = k
          · subst e
            rw [hb] at hb'
            injection hb' with hb'
            subst hb'
            exact hn
          · exact hall i b' (by omega) hb'⟩
        have HL : Hid (s.length - (wr.iterAt w.heap.size S (k + 1)).iterPos w.heap.size < s.length - wr.iterPos w.heap.size) := Lib.hid (by rw [hm]; simp only [World.iterPos, hit2]; omega)
        clear hit2 hB2 hm hall hb hn
        clear hbd
        by_cases h45 : b.toNat = 45
        · have i1 : (b.toNat : Int) = 45 := by omega
          clear hnb h45
          go_wp2_with fail
          exact ⟨HM.out, HL.out⟩
        · have i1 : ¬ (b.toNat : Int) = 45 := by omega
          have i2 : ¬ (b.toNat : Int) < 48 := by omega
          have i3 : ¬ 57 < (b.toNat : Int) := by omega
          clear hnb h45
          go_wp2_with fail
          exact ⟨HM.out, HL.out⟩
      case false =>
        have HF : Hid ((s.takeWhile isNum).length = k) := Lib.hid (take_run hall hk fun b' hb' => by rw [hb] at hb'; injection hb' with hb'; subst hb'; exact hn)
        obtain ⟨r, n, hd, hr⟩ : ∃ r n, Utf8.decode S k = (r, n) ∧ r ≠ 45 ∧ (r < 48 ∨ 57 < r) := by
          by_cases ha : (S[k]'hlt).toNat < 128
          · refine ⟨_, _, decode_ascii S k hlt ha, ?_⟩
            rw [← hbd]
            unfold isNum at hn
            simp at hn
            refine ⟨fun e => hn.1 (UInt8.toNat_inj.1 (by rw [e]; rfl)), ?_⟩
            have := hn.2
            omega
          · have h1 := decode_high S k hlt (by omega)
            exact ⟨(Utf8.decode S k).1, (Utf8.decode S k).2, rfl, by omega, by omega⟩
        have hnx : ∀ ty, (Instr.next (.pointer (some ⟨w.heap.size, 0, none⟩)) true ty).run Tryz.prog wr = .ok (.tuple #[.bool true, .int .i64 k, .int .i32 (r : Nat)]) (wr.iterAt w.heap.size S (k + n)) := fun ty => by
          have := Lib.run_next_any_at (P := Tryz.prog) wr w.heap.size S k ty hit hlt
          rw [hd] at this
          exact this
        have hB2 := Lib.below_iterAt hB (k := w.heap.size) (Nat.le_refl _) S (k + n)
        have i1 : ¬ (r : Int) = 45 := by omega
        clear hd hall hb hn hbd
        by_cases h48 : r < 48
        · have i2 : (r : Int) < 48 := by omega
          have i3 : ¬ 57 < (r : Int) := by omega
          clear hr h48
          go_wp2_with fail
          go_ret
          exact ⟨congrArg (fun n : Nat => Ending.returned (.int .i64 n)) HF.out.symm, hB2⟩
        · have i2 : ¬ (r : Int) < 48 := by omega
          have i3 : 57 < (r : Int) := by omega
          clear hr h48
          go_wp2_with fail
          go_ret
          exact ⟨congrArg (fun n : Nat => Ending.returned (.int .i64 n)) HF.out.symm, hB2⟩
    · have hnx : ∀ ty, (Instr.next (.pointer (some ⟨w.heap.size, 0, none⟩)) true ty).run Tryz.prog wr = .ok (.tuple #[.bool false]) wr := fun ty => Lib.run_next_end_at wr w.heap.size S k ty hit hlt
      have HF : Hid ((s.takeWhile isNum).length = s.length) := Lib.hid (by
        have e : k = S.size := by omega
        rw [take_run hall hk fun b' hb' => by have := (List.getElem?_eq_some_iff.1 hb').1; omega]
        omega)
      clear hall
      go_wp2_with fail
      go_ret
      exact ⟨congrArg (fun n : Nat => Ending.returned (.int .i64 n)) HF.out.symm, hB⟩
end Go.Proofs.YtgbgjlmkmlhefaaGreatDoor

/- A text read by a form: the numbers at its holes. Conditions: the form is of the five signs, the text at most 1048576 bytes long; the library's tables and the errors' variables stand as written. -/
namespace Go.Proofs.YtgbgjlmkmlhefaaGreatDoor
set_option maxRecDepth 20000
set_option linter.unusedSimpArgs false
set_option linter.unusedVariables false
open Go.ChangeShapes Go.WideShapes Go.ChangeAt Go.RowKit
set_option linter.unusedVariables false
def SignF (c : UInt8) : Prop := c = 35 ∨ c = 58 ∨ c = 61 ∨ c = 91 ∨ c = 93
theorem take_long (r : List UInt8) : (r.takeWhile isNum).length ≤ r.length := by
  have := congrArg List.length (List.takeWhile_append_dropWhile (p := isNum) (l := r))
  rw [List.length_append] at this
  omega
theorem take_piece (r : List UInt8) : (⟨r.toArray⟩ : ByteArray).extract 0 (r.takeWhile isNum).length = ⟨(r.takeWhile isNum).toArray⟩ := by
  have h := List.takeWhile_append_dropWhile (p := isNum) (l := r)
  have e : r.take (r.takeWhile isNum).length = r.takeWhile isNum := (congrArg (List.take _) h.symm).trans List.take_left
  rw [ext_piece, List.drop_zero, e]
theorem drop_piece (r : List UInt8) : (⟨r.toArray⟩ : ByteArray).extract (r.takeWhile isNum).length r.length = ⟨(r.dropWhile isNum).toArray⟩ := by
  have h := List.takeWhile_append_dropWhile (p := isNum) (l := r)
  have e : r.drop (r.takeWhile isNum).length = r.dropWhile isNum := (congrArg (List.drop _) h.symm).trans List.drop_left
  rw [ext_piece, List.take_length, e]
theorem form_none {f r : List UInt8} (h : valF (r.takeWhile isNum) = none) : formRF (35 :: f) r = none := by
  unfold formRF
  rw [if_pos rfl, h]
  rfl
theorem form_some {f r : List UInt8} {v : Int} (h : valF (r.takeWhile isNum) = some v) : formRF (35 :: f) r = (formRF f (r.dropWhile isNum)).map (v :: ·) := by
  conv => lhs; unfold formRF
  rw [if_pos rfl, h]
  rfl
theorem form_no {c : UInt8} {f r : List UInt8} (hc : c ≠ 35) (h : ∀ r', r ≠ c :: r') : formRF (c :: f) r = none := by
  cases hx : formRF (c :: f) r with
  | none => rfl
  | some l =>
    obtain ⟨r', e, -⟩ := form_sign hc hx
    exact absurd e (h r')
theorem cut_call (r : List UInt8) (c : UInt8) (w : World) :
    Calls Tryz.prog 104 #[str r, .string ⟨#[c]⟩] w fun e w' => ((∃ r', r = c :: r' ∧ e = .returned (.tuple #[str r', .bool true])) ∨ ((∀ r', r ≠ c :: r') ∧ ∃ v, e = .returned (.tuple #[.string v, .bool false]))) ∧ w = w' := by
  refine (Tryz.strings_CutPrefix ⟨r.toArray⟩ ⟨#[c]⟩ w).mono ?_
  rintro e w' ⟨rfl, rfl⟩
  refine ⟨?_, rfl⟩
  cases r with
  | nil => exact .inr ⟨by simp, ⟨(Lib.trimPrefix [] [c]).toArray⟩, by show Ending.returned (.tuple #[_, .bool (Lib.hasPrefix [] [c])]) = _; rw [show Lib.hasPrefix [] [c] = false from by simp [Lib.hasPrefix]]⟩
  | cons d r' =>
    by_cases hd : d = c
    · subst hd
      exact .inl ⟨r', rfl, by simp [Lib.hasPrefix, Lib.trimPrefix, str]⟩
    · exact .inr ⟨fun x hx => hd (by injection hx), ⟨(Lib.trimPrefix (d :: r') [c]).toArray⟩, by show Ending.returned (.tuple #[_, .bool (Lib.hasPrefix (d :: r') [c])]) = _; rw [show Lib.hasPrefix (d :: r') [c] = false from by simp [Lib.hasPrefix, List.isPrefixOf, hd, Ne.symm hd]]⟩
def RetForm (o : Option (List Int)) (w : World) (e : Ending) (w' : World) : Prop :=
  ∃ v, e = .returned (.tuple #[v, .bool o.isSome]) ∧ Below w.heap.size w w' ∧ ∀ l, o = some l → w'.ownsRow (w.heap.size + 1) 3 1 v l.length (ints l)
set_option maxHeartbeats 6400000 in
theorem impl_readForm (f s : List UInt8) (w : World) (hf : ∀ c ∈ f, SignF c) (hfl : f.length ≤ 100) (hs : s.length ≤ 1048576) (hE : Env w) :
    Calls Tryz.prog 91 #[str f, str s] w (RetForm (formRF f s) w) := by
  have HE := Lib.hid hE
  clear hE
  obtain ⟨S, hS⟩ : ∃ S : ByteArray, S = ⟨f.toArray⟩ := ⟨_, rfl⟩
  have hsz : S.size = f.length := by rw [hS]; show f.toArray.size = _; simp
  have hat : ∀ k (h : k < S.size), f[k]? = some (S[k]'h) := fun k h => by subst hS; show _ = some (f.toArray[k]'(by simpa using hsz ▸ h)); simp
  show Calls Tryz.prog 91 #[.string ⟨f.toArray⟩, str s] w _
  rw [← hS]
  clear hS
  obtain ⟨o, ho⟩ : ∃ o, formRF f s = o := ⟨_, rfl⟩
  have HO0 : Hid ((formRF (f.drop 0) s).map (([] : List Int) ++ ·) = o) := Lib.hid (by rw [List.drop_zero, ho]; cases o <;> simp)
  rw [ho]
  clear ho
  have hBa := (Below.refl w.heap.size w).alloc (Nat.le_refl _) (.stringIter S 0)
  have hit0 : (w.alloc (.stringIter S 0)).heap[w.heap.size]? = some (.stringIter S 0) := World.iter_heap w S 0
  obtain ⟨i, hi, hiz0, hiz1, hiz2⟩ := info_parts infoInt
  go_enter Tryz.func91, Tryz.ntmps91
  go_wp2_with fail
  go_loopw [6, 7] (fun nv rv wr => ∃ (k : Nat) (xs : List Int) (r : List UInt8), k ≤ f.length ∧ wr.heap[w.heap.size]? = some (.stringIter S k) ∧ Below w.heap.size w wr ∧ rv = str r ∧ r.length ≤ 1048576 ∧ wr.ownsRow (w.heap.size + 1) 3 1 nv xs.length (ints xs) ∧ xs.length ≤ k ∧ Hid ((formRF (f.drop k) r).map (xs ++ ·) = o)) (fun _ _ wr => f.length - wr.iterPos w.heap.size)
  case atStart => exact ⟨0, [], s, Nat.zero_le _, hit0, hBa, rfl, hs, World.ownsRow_nil _ _ _ _, Nat.le_refl _, HO0⟩
  case round =>
    obtain ⟨k, xs, r, hk, hit, hB, rfl, hr, hO, hx, HF⟩ := hrel
    clear hit0 hBa HO0
    have hlw : w.heap.size < wr.heap.size := (Array.getElem?_eq_some_iff.1 hit).1
    by_cases hlt : k < S.size
    · have hb := hat k hlt
      obtain ⟨c, hcd⟩ : ∃ c, c = S[k]'hlt := ⟨_, rfl⟩
      rw [← hcd] at hb
      have hsg := hf c (List.mem_of_getElem? hb)
      have hdr : f.drop k = c :: f.drop (k + 1) := by
        rw [List.drop_eq_getElem_cons (by omega)]
        congr 1
        exact (Option.some.inj ((List.getElem?_eq_getElem (by omega)).symm.trans hb))
      have HF1 : Hid ((formRF (c :: f.drop (k + 1)) r).map (xs ++ ·) = o) := Lib.hid (by rw [← hdr]; exact HF.out)
      have hnx0 : ∀ ty, (Instr.next (.pointer (some ⟨w.heap.size, 0, none⟩)) true ty).run Tryz.prog wr = .ok (.tuple #[.bool true, .int .i64 k, .int .i32 (c.toNat : Nat)]) (wr.iterAt w.heap.size S (k + 1)) := fun ty => by
        have := Lib.run_next_ascii_at (P := Tryz.prog) wr w.heap.size S k ty hit hlt (by rw [← hcd]; rcases hsg with rfl | rfl | rfl | rfl | rfl <;> decide)
        rw [← hcd] at this
        exact this
      have hit2 := Lib.iterAt_heap wr w.heap.size S k (k + 1) hit
      have hB2 := Lib.below_iterAt hB (k := w.heap.size) (Nat.le_refl _) S (k + 1)
      have hO2 := ownsRow_iterAt hO (k := w.heap.size) (by omega) S (k + 1)
      have hsz2 : (wr.iterAt w.heap.size S (k + 1)).heap.size = wr.heap.size := Lib.iterAt_size _ _ _ _
      have hm : wr.iterPos w.heap.size = k := by simp only [World.iterPos, hit]
      have HM := Lib.hid hm
      have HIT := Lib.hid hit2
      clear hcd hb hdr hit2 hm
      by_cases hc : c = 35
      · subst hc
        have hnx : ∀ ty, (Instr.next (.pointer (some ⟨w.heap.size, 0, none⟩)) true ty).run Tryz.prog wr = .ok (.tuple #[.bool true, .int .i64 k, .int .i32 35]) (wr.iterAt w.heap.size S (k + 1)) := hnx0
        have hLN := impl_lenNum r (wr.iterAt w.heap.size S (k + 1)) hr
        have hn0 := take_long r
        have hp1 := take_piece r
        have hp2 := drop_piece r
        have hvp : ∀ v, valF (r.takeWhile isNum) = some v ↔ parseF (r.takeWhile isNum) = some v ∧ valB v = true := fun v => valF_parse
        have hfn : valF (r.takeWhile isNum) = none → o = none := fun h => by rw [← HF1.out, form_none h]; rfl
        have hfs : ∀ v, valF (r.takeWhile isNum) = some v → (formRF (f.drop (k + 1)) (r.dropWhile isNum)).map ((xs ++ [v]) ++ ·) = o := fun v h => by
          rw [← HF1.out, form_some h]
          cases formRF (f.drop (k + 1)) (r.dropWhile isNum) <;> simp
        obtain ⟨T, hT⟩ : ∃ T, r.takeWhile isNum = T := ⟨_, rfl⟩
        obtain ⟨D, hD⟩ : ∃ D, r.dropWhile isNum = D := ⟨_, rfl⟩
        have hDl : D.length ≤ 1048576 := by
          have := congrArg List.length (List.takeWhile_append_dropWhile (p := isNum) (l := r))
          rw [List.length_append, hD] at this
          omega
        rw [hT] at hLN hn0 hp1 hp2 hvp hfn hfs
        rw [hD] at hp2 hfs
        have HLN := Lib.hid hLN
        have HP1 := Lib.hid hp1
        have HP2 := Lib.hid hp2
        have HVP := Lib.hid hvp
        have HFN := Lib.hid hfn
        have HFS := Lib.hid hfs
        clear hLN hp1 hp2 hvp hfn hfs hT hD hnx0 HF HF1
        go_wp2_with fail
        refine HLN.out.mono ?_
        rintro e w3 ⟨rfl, hb3⟩
        have hB3 := hB2.trans (hb3.mono (by rw [hsz2]; omega))
        have hO3 := ownsRow_below hO2 hb3
        have hit3 : w3.heap[w.heap.size]? = some (.stringIter S (k + 1)) := (hb3.block _ (by rw [hsz2]; exact hlw)).trans HIT.out
        clear hO2 hb3
        have hPN := impl_parseNumber T w3 (by omega) (HE.out.below hB3 (Nat.le_refl _)).tab (HE.out.below hB3 (Nat.le_refl _)).errs
        go_wp2_with fail
        rw [HP1.out]
        cases hpf : parseF T with
        | none =>
          have HN : Hid (o = none) := Lib.hid (HFN.out (by
            cases hv : valF T with
            | none => rfl
            | some v => have := ((HVP.out v).1 hv).1; rw [hpf] at this; cases this))
          rw [hpf] at hPN
          have HPN : Hid (Calls Tryz.prog 61 #[str T] w3 fun e w' => e = .returned (.tuple #[.int .i64 0, .bool false]) ∧ Below w3.heap.size w3 w') := Lib.hid hPN
          clear hPN hpf
          refine HPN.out.mono ?_
          rintro e w4 ⟨rfl, hb4⟩
          have hB4 := hB3.trans (hb4.mono hB3.size)
          go_wp2_with fail
          exact bodyPost_ret (v := .tuple #[.slice none 0 0, .bool false]) (by simp [results, Tryz.results91, go_sem]) rfl ⟨_, by rw [HN.out]; rfl, hB4, fun l hl => by rw [HN.out] at hl; cases hl⟩
        | some v =>
          rw [hpf] at hPN
          have HPN : Hid (Calls Tryz.prog 61 #[str T] w3 fun e w' => e = .returned (.tuple #[.int .i64 v, .bool true]) ∧ Below w3.heap.size w3 w') := Lib.hid hPN
          have hV := fun W : World => impl_valueOk v W
          clear hPN
          refine HPN.out.mono ?_
          rintro e w4 ⟨rfl, hb4⟩
          have hB4 := hB3.trans (hb4.mono hB3.size)
          have hO4 := ownsRow_below hO3 hb4
          have hit4 : w4.heap[w.heap.size]? = some (.stringIter S (k + 1)) := (hb4.block _ (Array.getElem?_eq_some_iff.1 hit3).1).trans hit3
          clear hO3 hb4 hit3 HPN
          cases hvb : valB v with
          | false =>
            have HN : Hid (o = none) := Lib.hid (HFN.out (by
              cases hv : valF T with
              | none => rfl
              | some u =>
                obtain ⟨h1, h2⟩ := (HVP.out u).1 hv
                rw [hpf] at h1
                injection h1 with h1
                rw [h1, h2] at hvb
                cases hvb))
            rw [hvb] at hV
            have HV := Lib.hid hV
            clear hV hpf hvb
            go_wp2_with (go_at_call 62; refine (HV.out _).mono ?_; rintro e w' ⟨rfl, rfl⟩)
            exact bodyPost_ret (v := .tuple #[.slice none 0 0, .bool false]) (by simp [results, Tryz.results91, go_sem]) rfl ⟨_, by rw [HN.out]; rfl, hB4, fun l hl => by rw [HN.out] at hl; cases hl⟩
          | true =>
            have HNX : Hid ((formRF (f.drop (k + 1)) D).map ((xs ++ [v]) ++ ·) = o) := Lib.hid (HFS.out v ((HVP.out v).2 ⟨hpf, hvb⟩))
            rw [hvb] at hV
            have HV := Lib.hid hV
            have hlw4 := (Array.getElem?_eq_some_iff.1 hit4).1
            have hR := Below.refl (w.heap.size + 1) w4
            clear hV hpf hvb
            go_wp2_with (first | (go_at_call 62; refine (HV.out _).mono ?_; rintro e w' ⟨rfl, rfl⟩) | (at_builtin; refine wpList_append_own _ rfl _ _ 58 rfl (w.heap.size + 1) 3 i (.int .i64 0) 1 8 Tryz.underlying58 hi hiz0 hiz1 hiz2 rfl (by decide) _ _ _ rfl (hO4.alloc _) ⟨w4.heap.size, 0, none⟩ 1 1 [.int .i64 v] rfl rfl ?c1 ?c2 ?c3 ?c4 ?c5 ?_))
            case c1 => exact new_cells _ _ _
            case c2 => simp [Value.oneCell']
            case c3 => unfold maxLen; omega
            case c4 => omega
            case c5 => simp; omega
            intro v2 w5 hown' hgrow _
            have hB5 := (hB4.alloc hB4.size (.cells #[.int .i64 v] 3)).grown hgrow (by simp; omega) (fun k hk => by have := (hO4.lt k hk).1; omega)
            have hR5 := (hR.alloc (by omega) (.cells #[.int .i64 v] 3)).grown hgrow (by simp; omega) (fun k hk => by have := (hO4.lt k hk).1; omega)
            have hit5 : w5.heap[w.heap.size]? = some (.stringIter S (k + 1)) := (hR5.block _ (by omega)).trans hit4
            clear hgrow hR hR5 hit4 hO4
            go_wp2_with fail
            refine ⟨⟨k + 1, xs ++ [v], D, by omega, hit5, hB5, congrArg Value.string HP2.out, hDl, ?_, by simp; omega, HNX⟩, by rw [HM.out]; simp only [World.iterPos, hit5]; omega⟩
            rw [show ints (xs ++ [v]) = ints xs ++ [.int .i64 v] by simp [ints], List.length_append]
            exact hown'
      · obtain ⟨m, hmm, hm35, hcv⟩ : ∃ m : Int, m = (c.toNat : Nat) ∧ ¬ m = 35 ∧ ∀ W : World, (convert 21 9 (.int .i32 m)).run Tryz.prog W = .ok (.string ⟨#[c]⟩) W := by
          rcases hsg with rfl | rfl | rfl | rfl | rfl
          · exact absurd rfl hc
          · exact ⟨58, rfl, by decide, fun _ => by kernel_rfl⟩
          · exact ⟨61, rfl, by decide, fun _ => by kernel_rfl⟩
          · exact ⟨91, rfl, by decide, fun _ => by kernel_rfl⟩
          · exact ⟨93, rfl, by decide, fun _ => by kernel_rfl⟩
        rw [← hmm] at hnx0
        have hCC := Lib.hid fun W : World => cut_call r c W
        have HN1 : Hid ((∀ r', r ≠ c :: r') → o = none) := Lib.hid fun h => by rw [← HF1.out, form_no hc h]; rfl
        have HS1 : Hid (∀ r', r = c :: r' → (formRF (f.drop (k + 1)) r').map (xs ++ ·) = o) := Lib.hid fun r' h => by rw [← HF1.out, h, form_of_sign hc]
        clear hmm HF HF1 hsg hc
        go_wp2_with fail
        refine (hCC.out _).mono ?_
        rintro e w3 ⟨⟨r', hr', rfl⟩ | ⟨hno, vv, rfl⟩, rfl⟩
        · have HS2 := Lib.hid (HS1.out r' hr')
          have hl' : r'.length ≤ 1048576 := by rw [hr'] at hr; simp at hr; omega
          clear hr' HS1 HN1
          go_wp2_with fail
          exact ⟨⟨k + 1, xs, r', by omega, HIT.out, hB2, rfl, hl', hO2, by omega, HS2⟩, by rw [HM.out]; simp only [World.iterPos, HIT.out]; omega⟩
        · have HN := Lib.hid (HN1.out hno)
          clear hno HS1 HN1
          go_wp2_with fail
          exact bodyPost_ret (v := .tuple #[.slice none 0 0, .bool false]) (by simp [results, Tryz.results91, go_sem]) rfl ⟨_, by rw [HN.out]; rfl, hB2, fun l hl => by rw [HN.out] at hl; cases hl⟩
    · have hnx : ∀ ty, (Instr.next (.pointer (some ⟨w.heap.size, 0, none⟩)) true ty).run Tryz.prog wr = .ok (.tuple #[.bool false]) wr := fun ty => Lib.run_next_end_at wr w.heap.size S k ty hit hlt
      have hdr : f.drop k = [] := List.drop_eq_nil_of_le (by omega)
      cases hrc : r with
      | nil =>
        have HS : Hid (o = some xs) := Lib.hid (by rw [← HF.out, hdr, hrc]; simp [formRF])
        clear hrc hdr HF
        go_wp2_with fail
        exact bodyPost_ret (v := .tuple #[_, .bool true]) (by simp [results, Tryz.results91, go_sem]; rfl) rfl ⟨_, by rw [HS.out]; rfl, hB, fun l hl => by rw [HS.out] at hl; injection hl with hl; subst hl; exact hO⟩
      | cons d r' =>
        have HS : Hid (o = none) := Lib.hid (by rw [← HF.out, hdr, hrc]; simp [formRF])
        clear hrc hdr HF
        go_wp2_with fail
        exact bodyPost_ret (v := .tuple #[_, .bool false]) (by simp [results, Tryz.results91, go_sem]; rfl) rfl ⟨_, by rw [HS.out]; rfl, hB, fun l hl => by rw [HS.out] at hl; cases hl⟩
end Go.Proofs.YtgbgjlmkmlhefaaGreatDoor

/- Contract of impl.parseAtom: the atom that a text is. Conditions: the text is at most 1048576 bytes long; the library's tables and the errors' variables stand as written. -/
namespace Go.Proofs.YtgbgjlmkmlhefaaGreatDoor
set_option maxRecDepth 20000
set_option linter.unusedSimpArgs false
set_option linter.unusedVariables false
open Go.ChangeShapes Go.WideShapes Go.ChangeAt Go.RowKit
set_option linter.unusedVariables false
theorem signs_reg : ∀ c ∈ formReg, SignF c := by
  unfold SignF
  decide
theorem signs_cell : ∀ c ∈ formCell, SignF c := by
  unfold SignF
  decide
theorem owned_form {w : World} {base n : Nat} {e : TypeId} {v : Value} {xs : List Value} (h : w.ownsRow base e 1 v n xs) (hn : 0 < n) : ∃ g cap, v = .slice (some ⟨g, 0, none⟩) n cap := by
  obtain ⟨_, ⟨_, h0⟩ | ⟨g, cap, cur, h1, _⟩⟩ := h
  · omega
  · exact ⟨g, cap, h1⟩
set_option maxHeartbeats 3200000 in
theorem impl_parseAtom (s : List UInt8) (w : World) (hs : s.length ≤ 1048576) (hE : Env w) :
    Calls Tryz.prog 70 #[str s] w (RetInsB (parseAF s) w) := by
  have HE := Lib.hid hE
  clear hE
  have hB0 := (Below.refl w.heap.size w).alloc (Nat.le_refl _) (.cells #[.int .i64 0, .int .i64 0, .int .i64 0, .int .i64 0] 78)
  have k0 := Bk.new w #[.int .i64 0, .int .i64 0, .int .i64 0, .int .i64 0] 78
  obtain ⟨w0, hw0⟩ : ∃ w0, w.alloc (.cells #[.int .i64 0, .int .i64 0, .int .i64 0, .int .i64 0] 78) = w0 := ⟨_, rfl⟩
  rw [hw0] at hB0 k0
  have HW0 := Lib.hid hw0
  clear hw0
  have hR1 := impl_readForm formReg s w0 signs_reg (by decide) hs (HE.out.below hB0 (Nat.le_refl _))
  unfold RetForm at hR1
  cases hx : formRF formReg s with
  | some l =>
    obtain ⟨t, x, v, rfl, -, -, -, -⟩ := reg_text hx
    have HF : Hid (parseAF s = some ⟨0, t, x, v⟩) := Lib.hid (by unfold parseAF; rw [hx]; rfl)
    rw [hx] at hR1
    have HR1 : Hid (Calls Tryz.prog 91 #[.string ⟨#[35, 58, 35, 61, 35]⟩, str s] w0 fun e w' => ∃ u, e = .returned (.tuple #[u, .bool true]) ∧ Below w0.heap.size w0 w' ∧ ∀ l, some [t, x, v] = some l → w'.ownsRow (w0.heap.size + 1) 3 1 u l.length (ints l)) := Lib.hid hR1
    clear hR1 hx
    go_enter Tryz.func70, Tryz.ntmps70
    go_wp2_with fail
    rw [HW0.out]
    refine HR1.out.mono ?_
    rintro e w1 ⟨u, rfl, hb0, hO⟩
    have hb1 := hB0.trans (hb0.mono hB0.size)
    have k1 := k0.below hb0 k0.lt
    have hl1 := k1.lt
    obtain ⟨z0, f0⟩ := k1.at_ 0 (x := .int .i64 0) rfl
    obtain ⟨z1, f1⟩ := k1.at_ 1 (x := .int .i64 0) rfl
    obtain ⟨z2, f2⟩ := k1.at_ 2 (x := .int .i64 0) rfl
    obtain ⟨z3, f3⟩ := k1.at_ 3 (x := .int .i64 0) rfl
    have hO1 : w1.ownsRow (w0.heap.size + 1) 3 1 u 3 (ints [t, x, v]) := hO _ rfl
    clear hO
    obtain ⟨g, cap, rfl⟩ := owned_form hO1 (by omega)
    have hc0 : w1.cell? ⟨g, 0, none⟩ = some (.int .i64 t) := hO1.cellAt 0 (by omega)
    have hc1 : w1.cell? ⟨g, 1, none⟩ = some (.int .i64 x) := hO1.cellAt 1 (by omega)
    have hc2 : w1.cell? ⟨g, 2, none⟩ = some (.int .i64 v) := hO1.cellAt 2 (by omega)
    go_wp2_with fail
    refine wp_region_still_tail 10 (by kernel_rfl) (by kernel_rfl) ?_
    simp only [List.take_succ_cons, List.take_zero, List.drop_succ_cons, List.drop_zero]
    rw [show ({ w1 with drawn := w1.drawn + 1 } : World) = w1.drew from rfl]
    repeat still_step
    try refine wpStill_nil ?_
    go_wp2_with fail
    have kF := (((k1.set_ 0 (.int .i64 0)).set_ 1 (.int .i64 t)).set_ 2 (.int .i64 x)).set_ 3 (.int .i64 v)
    obtain ⟨r0, -⟩ := kF.at_ 0 rfl
    obtain ⟨r1, -⟩ := kF.at_ 1 rfl
    obtain ⟨r2, -⟩ := kF.at_ 2 rfl
    obtain ⟨r3, -⟩ := kF.at_ 3 rfl
    exact bodyPost_ret (v := .tuple #[.agg #[.int .i64 0, .int .i64 t, .int .i64 x, .int .i64 v], .bool true]) (by simp [results, Tryz.results70, go_sem, r0, r1, r2, r3]) rfl ⟨by rw [HF.out]; rfl, (((hb1.drew.setCell (p := ⟨w.heap.size, 0, none⟩) (Nat.le_refl _) _).setCell (p := ⟨w.heap.size, 1, none⟩) (Nat.le_refl _) _).setCell (p := ⟨w.heap.size, 2, none⟩) (Nat.le_refl _) _).setCell (p := ⟨w.heap.size, 3, none⟩) (Nat.le_refl _) _⟩
  | none =>
    have HF : Hid (parseAF s = (formRF formCell s).bind mkCell) := Lib.hid (by unfold parseAF; rw [hx]; rfl)
    rw [hx] at hR1
    have HR1 : Hid (Calls Tryz.prog 91 #[.string ⟨#[35, 58, 35, 61, 35]⟩, str s] w0 fun e w' => ∃ u, e = .returned (.tuple #[u, .bool false]) ∧ Below w0.heap.size w0 w' ∧ ∀ l, none = some l → w'.ownsRow (w0.heap.size + 1) 3 1 u l.length (ints l)) := Lib.hid hR1
    clear hR1 hx
    cases hx : formRF formCell s with
    | some l =>
      obtain ⟨x, v, rfl, -, -, -⟩ := cell_text hx
      have HF2 : Hid (parseAF s = some ⟨1, 0, x, v⟩) := Lib.hid (by rw [HF.out, hx]; rfl)
      have HX := Lib.hid hx
      clear HF hx
      go_enter Tryz.func70, Tryz.ntmps70
      go_wp2_with fail
      rw [HW0.out]
      refine HR1.out.mono ?_
      rintro e w1 ⟨u1, rfl, hb0, -⟩
      have hb1 := hB0.trans (hb0.mono hB0.size)
      have k1 := k0.below hb0 k0.lt
      have hR2 := impl_readForm formCell s w1 signs_cell (by decide) hs (HE.out.below hb1 (Nat.le_refl _))
      unfold RetForm at hR2
      rw [HX.out] at hR2
      have HR2 : Hid (Calls Tryz.prog 91 #[.string ⟨#[91, 35, 93, 61, 35]⟩, str s] w1 fun e w' => ∃ u, e = .returned (.tuple #[u, .bool true]) ∧ Below w1.heap.size w1 w' ∧ ∀ l, some [x, v] = some l → w'.ownsRow (w1.heap.size + 1) 3 1 u l.length (ints l)) := Lib.hid hR2
      clear hR2
      go_wp2_with fail
      refine HR2.out.mono ?_
      rintro e w2 ⟨u, rfl, hb2, hO⟩
      have hB2 := hb1.trans (hb2.mono hb1.size)
      have k2 := k1.below hb2 k1.lt
      have hl2 := k2.lt
      obtain ⟨z0, f0⟩ := k2.at_ 0 (x := .int .i64 0) rfl
      obtain ⟨z1, f1⟩ := k2.at_ 1 (x := .int .i64 0) rfl
      obtain ⟨z2, f2⟩ := k2.at_ 2 (x := .int .i64 0) rfl
      obtain ⟨z3, f3⟩ := k2.at_ 3 (x := .int .i64 0) rfl
      have hO1 : w2.ownsRow (w1.heap.size + 1) 3 1 u 2 (ints [x, v]) := hO _ rfl
      clear hO
      obtain ⟨g, cap, rfl⟩ := owned_form hO1 (by omega)
      have hc0 : w2.cell? ⟨g, 0, none⟩ = some (.int .i64 x) := hO1.cellAt 0 (by omega)
      have hc1 : w2.cell? ⟨g, 1, none⟩ = some (.int .i64 v) := hO1.cellAt 1 (by omega)
      go_wp2_with fail
      refine wp_region_still_tail 7 (by kernel_rfl) (by kernel_rfl) ?_
      simp only [List.take_succ_cons, List.take_zero, List.drop_succ_cons, List.drop_zero]
      rw [show ({ w2 with drawn := w2.drawn + 1 } : World) = w2.drew from rfl]
      repeat still_step
      try refine wpStill_nil ?_
      go_wp2_with fail
      have kF := (((k2.set_ 0 (.int .i64 1)).set_ 1 (.int .i64 0)).set_ 2 (.int .i64 x)).set_ 3 (.int .i64 v)
      obtain ⟨r0, -⟩ := kF.at_ 0 rfl
      obtain ⟨r1, -⟩ := kF.at_ 1 rfl
      obtain ⟨r2, -⟩ := kF.at_ 2 rfl
      obtain ⟨r3, -⟩ := kF.at_ 3 rfl
      exact bodyPost_ret (v := .tuple #[.agg #[.int .i64 1, .int .i64 0, .int .i64 x, .int .i64 v], .bool true]) (by simp [results, Tryz.results70, go_sem, r0, r1, r2, r3]) rfl ⟨by rw [HF2.out]; rfl, (((hB2.drew.setCell (p := ⟨w.heap.size, 0, none⟩) (Nat.le_refl _) _).setCell (p := ⟨w.heap.size, 1, none⟩) (Nat.le_refl _) _).setCell (p := ⟨w.heap.size, 2, none⟩) (Nat.le_refl _) _).setCell (p := ⟨w.heap.size, 3, none⟩) (Nat.le_refl _) _⟩
    | none =>
      have HF2 : Hid (parseAF s = none) := Lib.hid (by rw [HF.out, hx]; rfl)
      have HX := Lib.hid hx
      clear HF hx
      go_enter Tryz.func70, Tryz.ntmps70
      go_wp2_with fail
      rw [HW0.out]
      refine HR1.out.mono ?_
      rintro e w1 ⟨u1, rfl, hb0, -⟩
      have hb1 := hB0.trans (hb0.mono hB0.size)
      have k1 := k0.below hb0 k0.lt
      have hR2 := impl_readForm formCell s w1 signs_cell (by decide) hs (HE.out.below hb1 (Nat.le_refl _))
      unfold RetForm at hR2
      rw [HX.out] at hR2
      have HR2 : Hid (Calls Tryz.prog 91 #[.string ⟨#[91, 35, 93, 61, 35]⟩, str s] w1 fun e w' => ∃ u, e = .returned (.tuple #[u, .bool false]) ∧ Below w1.heap.size w1 w' ∧ ∀ l, none = some l → w'.ownsRow (w1.heap.size + 1) 3 1 u l.length (ints l)) := Lib.hid hR2
      clear hR2
      go_wp2_with fail
      refine HR2.out.mono ?_
      rintro e w2 ⟨u, rfl, hb2, -⟩
      have hB2 := hb1.trans (hb2.mono hb1.size)
      have k2 := k1.below hb2 k1.lt
      have hl2 := k2.lt
      obtain ⟨z0, f0⟩ := k2.at_ 0 (x := .int .i64 0) rfl
      obtain ⟨z1, f1⟩ := k2.at_ 1 (x := .int .i64 0) rfl
      obtain ⟨z2, f2⟩ := k2.at_ 2 (x := .int .i64 0) rfl
      obtain ⟨z3, f3⟩ := k2.at_ 3 (x := .int .i64 0) rfl
      go_wp2_with fail
      have kF := (((k2.set_ 0 (.int .i64 0)).set_ 1 (.int .i64 0)).set_ 2 (.int .i64 0)).set_ 3 (.int .i64 0)
      obtain ⟨r0, -⟩ := kF.at_ 0 rfl
      obtain ⟨r1, -⟩ := kF.at_ 1 rfl
      obtain ⟨r2, -⟩ := kF.at_ 2 rfl
      obtain ⟨r3, -⟩ := kF.at_ 3 rfl
      exact bodyPost_ret (v := .tuple #[.agg #[.int .i64 0, .int .i64 0, .int .i64 0, .int .i64 0], .bool false]) (by simp [results, Tryz.results70, go_sem, r0, r1, r2, r3]) rfl ⟨by rw [HF2.out]; rfl, (((hB2.setCell (p := ⟨w.heap.size, 0, none⟩) (Nat.le_refl _) _).setCell (p := ⟨w.heap.size, 1, none⟩) (Nat.le_refl _) _).setCell (p := ⟨w.heap.size, 2, none⟩) (Nat.le_refl _) _).setCell (p := ⟨w.heap.size, 3, none⟩) (Nat.le_refl _) _⟩
end Go.Proofs.YtgbgjlmkmlhefaaGreatDoor

/- Contract of impl.ParseAsk: the atoms that a text is. Conditions: the text is at most 1048576 bytes long; the library's tables and the errors' variables stand as written. -/
namespace Go.Proofs.YtgbgjlmkmlhefaaGreatDoor
set_option maxRecDepth 20000
set_option linter.unusedSimpArgs false
set_option linter.unusedVariables false
open Go.ChangeShapes Go.WideShapes Go.ChangeAt Go.RowKit
set_option linter.unusedVariables false
theorem splitA_call (s : List UInt8) (w : World) (hs : s.length ≤ 1048576) (hm : MaxSet w) :
    Calls Tryz.prog 58 #[str s, .string ⟨#[32, 38, 32]⟩, .int .i64 9] w fun e w' => ∃ N, e = .returned (.slice (some ⟨w.heap.size, 0, none⟩) (piecesA s).length N) ∧ (piecesA s).length ≤ N ∧ N ≤ 9 ∧ w.heap.size < w'.heap.size ∧ Below w.heap.size w w' ∧
      ∀ j p, (piecesA s)[j]? = some p → w'.cell? ⟨w.heap.size, j, none⟩ = some (str p) := by
  obtain ⟨m0, hm0⟩ := hm
  refine (Tryz.strings_SplitN ⟨s.toArray⟩ ⟨#[32, 38, 32]⟩ 9 m0 w (by show s.toArray.size < _; simp; omega) hm0 (by decide) (by decide) (by decide)).mono ?_
  rintro e w' ⟨rfl, rfl⟩
  have hsz : (⟨s.toArray⟩ : ByteArray).size = s.length := by show s.toArray.size = _; simp
  have hd := Lib.splitB_data ⟨#[32, 38, 32]⟩ 0 (min 9 ((⟨s.toArray⟩ : ByteArray).size + 1) - 1) ⟨s.toArray⟩
  have hpc : (Lib.splitB ⟨#[32, 38, 32]⟩ 0 (min 9 ((⟨s.toArray⟩ : ByteArray).size + 1) - 1) ⟨s.toArray⟩).map (·.data.toList) = piecesA s := by
    rw [hd, hsz]
    rfl
  have hln : (Lib.splitB ⟨#[32, 38, 32]⟩ 0 (min 9 ((⟨s.toArray⟩ : ByteArray).size + 1) - 1) ⟨s.toArray⟩).length = (piecesA s).length := by rw [← hpc, List.length_map]
  have hle := Lib.splitB_length_le ⟨#[32, 38, 32]⟩ 0 (min 9 ((⟨s.toArray⟩ : ByteArray).size + 1) - 1) ⟨s.toArray⟩
  rw [hln] at hle ⊢
  refine ⟨_, rfl, by omega, by omega, by simp, (Below.refl _ _).alloc (Nat.le_refl _) _, fun j p hp => ?_⟩
  rw [World.cell?_alloc_new]
  have hj := (List.getElem?_eq_some_iff.1 hp).1
  unfold Lib.cellsOf
  simp only [List.getElem?_toArray]
  rw [List.getElem?_append_left (by rw [List.length_map, hln]; exact hj), List.getElem?_map]
  rw [← hpc, List.getElem?_map] at hp
  cases hx : (Lib.splitB ⟨#[32, 38, 32]⟩ 0 (min 9 ((⟨s.toArray⟩ : ByteArray).size + 1) - 1) ⟨s.toArray⟩)[j]? with
  | none => rw [hx] at hp; cases hp
  | some q =>
    rw [hx] at hp
    injection hp with hp
    subst hp
    rfl
theorem piecesA_part (s : List UInt8) : ∀ p ∈ piecesA s, p.length ≤ s.length := by
  have hj := (join_splitA (min 9 (s.length + 1) - 1) s).1
  have key : ∀ (l : List (List UInt8)), ∀ p ∈ l, p.length ≤ (Lib.join l sepA).length := by
    intro l
    induction l with
    | nil => intro p hp; simp at hp
    | cons t l ih =>
      intro p hp
      cases l with
      | nil =>
        rw [Lib.join_one]
        simp at hp
        subst hp
        exact Nat.le_refl _
      | cons u l =>
        rw [join_cons2]
        rcases List.mem_cons.1 hp with rfl | hp
        · simp
        · have := ih p hp
          simp only [List.length_append]
          omega
  intro p hp
  have := key _ p hp
  rw [show Lib.join (piecesA s) sepA = s from hj] at this
  exact this
set_option maxHeartbeats 6400000 in
theorem parseAtoms (s : List UInt8) (w : World) (hs : s.length ≤ 1048576) (hE : Env w) :
    Calls Tryz.prog 69 #[str s, .int .i64 8, .string ⟨#[32, 38, 32]⟩, .func (.func 70) #[] #[]] w (RetCodeB ((askCF s).getD []) (askCF s).isSome w) := by
  have HE := Lib.hid hE
  clear hE
  cases hsc : s with
  | nil =>
    go_enter Tryz.func69, Tryz.ntmps69
    go_wp2_with fail
    exact bodyPost_ret (v := .tuple #[.slice none 0 0, .bool true]) (by simp [results, Tryz.results69, go_sem]) rfl ⟨_, [], by simp [askCF], Own.nil _ _, by simp, Below.refl _ _⟩
  | cons ch s' =>
    have hne : s ≠ [] := by rw [hsc]; simp
    have hP := splitA_call s w hs HE.out.max
    have hpp : ∀ p ∈ piecesA s, p.length ≤ 1048576 := fun p hp => Nat.le_trans (piecesA_part s p hp) hs
    have hcf : askCF s = if 8 < (piecesA s).length then none else (piecesA s).mapM parseAF := by unfold askCF; rw [if_neg hne]
    obtain ⟨ps, hps⟩ : ∃ ps, piecesA s = ps := ⟨_, rfl⟩
    rw [hps] at hP hcf hpp
    obtain ⟨s2, hs2⟩ : ∃ s2, askCF s = s2 := ⟨_, rfl⟩
    rw [hs2] at hcf
    rw [← hsc, hs2]
    have HP := Lib.hid hP
    have HPP := Lib.hid hpp
    have HCF := Lib.hid hcf
    rw [hsc] at HP ⊢
    obtain ⟨i, hi, hz0, hz1, hz2⟩ := info_parts infoAtom
    clear hP hps hsc hne hs2 hpp hcf
    go_enter Tryz.func69, Tryz.ntmps69
    go_wp2_with fail
    refine HP.out.mono ?_
    rintro e w1 ⟨N, rfl, hnN, hN9, hl1, hB1, hc1⟩
    have HC1 := Lib.hid hc1
    clear hc1
    by_cases hlen : 8 < ps.length
    · have HNone : Hid (s2 = none) := Lib.hid (by rw [HCF.out, if_pos hlen])
      go_wp2_with fail
      exact bodyPost_ret (v := .tuple #[.slice none 0 0, .bool false]) (by simp [results, Tryz.results69, go_sem]) rfl ⟨_, [], by rw [HNone.out]; rfl, by rw [HNone.out]; exact Own.nil _ _, by simp, hB1⟩
    · have HCF2 : Hid (s2 = ps.mapM parseAF) := Lib.hid (by rw [HCF.out, if_neg hlen])
      go_wp2_with (at_make; refine wpList_make_full _ rfl _ _ 38 rfl w1.heap.size 78 i (.agg #[.int .i64 0, .int .i64 0, .int .i64 0, .int .i64 0]) 4 Tryz.underlying38 hi hz0 hz1 _ _ _ _ ps.length rfl rfl rfl rfl (by rw [hz2]; omega) (by unfold maxLen; omega) (Nat.le_refl _) ?_)
      intro w2 hown hg2
      rw [codePart_zero] at hown
      have hb2 : Below w1.heap.size w1 w2 := (Below.refl _ _).grown hg2 (Nat.le_refl _) (by simp)
      have hsz1 := hB1.size
      clear hg2
      go_wp2_with fail
      go_loopw [32] (fun j wr => ∃ (k : Nat) (L : List Ins), k ≤ ps.length ∧ j = .int .i64 k ∧ Hid (L.length = k ∧ (ps.take k).mapM parseAF = some L) ∧ wr.ownsRow w1.heap.size 78 4 (.slice (some ⟨w1.heap.size, 0, none⟩) ps.length ps.length) ps.length (codePart L ps.length) ∧ Below w1.heap.size w1 wr) (fun j _ => ps.length - (intOf j).toNat)
      case atStart => exact ⟨0, [], Nat.zero_le _, rfl, Lib.hid ⟨rfl, by simp⟩, hown, hb2⟩
      case round =>
        obtain ⟨k, L, hk, rfl, HL, hO, hB⟩ := hrel
        clear hown hb2
        have hBw := hB1.trans (hB.mono hsz1)
        by_cases hlt : k < ps.length
        · obtain ⟨p, hp⟩ := opt_at hlt
          have hpc := (hB.cell (p := ⟨w.heap.size, k, none⟩) hl1).trans (HC1.out k p hp)
          have hPI := impl_parseAtom p wr (HPP.out p (List.mem_of_getElem? hp)) (HE.out.below hBw (Nat.le_refl _))
          unfold RetInsB at hPI
          have HPk := Lib.hid hp
          clear hp
          cases ho : parseAF p with
          | none =>
            have HNone : Hid (s2 = none) := Lib.hid (by rw [HCF2.out, mapM_none HPk.out ho])
            rw [ho] at hPI
            have HPI : Hid (Calls Tryz.prog 70 #[str p] wr fun e w' => e = .returned (.tuple #[.agg #[.int .i64 0, .int .i64 0, .int .i64 0, .int .i64 0], .bool false]) ∧ Below wr.heap.size wr w') := Lib.hid hPI
            clear hPI ho
            go_wp2_with fail
            refine HPI.out.mono ?_
            rintro e w5 ⟨rfl, hb5⟩
            have hB5 := hBw.trans (hb5.mono hBw.size)
            go_wp2_with fail
            exact bodyPost_ret (v := .tuple #[.slice none 0 0, .bool false]) (by simp [results, Tryz.results69, go_sem]) rfl ⟨_, [], by rw [HNone.out]; rfl, by rw [HNone.out]; exact Own.nil _ _, by simp, hB5.alloc hB5.size _⟩
          | some x =>
            have HL' : Hid ((L ++ [x]).length = k + 1 ∧ (ps.take (k + 1)).mapM parseAF = some (L ++ [x])) := Lib.hid ⟨by simp [HL.out.1], mapM_snoc HL.out.2 HPk.out ho⟩
            have HPS := Lib.hid fun (y : Ins) => codePart_set HL.out.1 hlt y
            have HPA := Lib.hid fun (j : Nat) (hj : j < 4) => codePart_at HL.out.1 hlt j hj
            rw [ho] at hPI
            obtain ⟨xo, xr, xsS, xn⟩ := x
            have hPI2 : Calls Tryz.prog 70 #[str p] wr fun e w' => e = .returned (.tuple #[.agg #[.int .i64 xo, .int .i64 xr, .int .i64 xsS, .int .i64 xn], .bool true]) ∧ Below wr.heap.size wr w' := hPI
            have HPI := Lib.hid hPI2
            clear hPI hPI2 ho
            go_wp2_with fail
            refine HPI.out.mono ?_
            rintro e w5 ⟨rfl, hb5⟩
            have hB5 := hB.trans (hb5.mono hB.size)
            have hB5a := hB5.alloc hB5.size (.cells #[.int .i64 xo, .int .i64 xr, .int .i64 xsS, .int .i64 xn] 78)
            have hO5 := (ownsRow_below hO hb5).alloc (.cells #[.int .i64 xo, .int .i64 xr, .int .i64 xsS, .int .i64 xn] 78)
            have k5 := Bk.new w5 #[.int .i64 xo, .int .i64 xr, .int .i64 xsS, .int .i64 xn] 78
            obtain ⟨wv, hwv⟩ : ∃ wv, w5.alloc (.cells #[.int .i64 xo, .int .i64 xr, .int .i64 xsS, .int .i64 xn] 78) = wv := ⟨_, rfl⟩
            rw [hwv] at hB5a hO5 k5
            have HWV := Lib.hid hwv
            clear hO hb5 hwv hpc
            go_upto_region 13 with (fail)
            rw [HWV.out]
            obtain ⟨hk0, -⟩ := k5.at_ 0 rfl
            obtain ⟨hk1, -⟩ := k5.at_ 1 rfl
            obtain ⟨hk2, -⟩ := k5.at_ 2 rfl
            obtain ⟨hk3, -⟩ := k5.at_ 3 rfl
            have hc0 := (hO5.cellAt (k * 4) (by omega)).trans (HPA.out 0 (by omega))
            have hc1 := (hO5.cellAt (k * 4 + 1) (by omega)).trans (HPA.out 1 (by omega))
            have hc2 := (hO5.cellAt (k * 4 + 2) (by omega)).trans (HPA.out 2 (by omega))
            have hc3 := (hO5.cellAt (k * 4 + 3) (by omega)).trans (HPA.out 3 (by omega))
            have hf0 := hO5.frozenAt (k * 4)
            have hf1 := hO5.frozenAt (k * 4 + 1)
            have hf2 := hO5.frozenAt (k * 4 + 2)
            have hf3 := hO5.frozenAt (k * 4 + 3)
            go_wp2_with fail
            exact ⟨⟨k + 1, L ++ [⟨xo, xr, xsS, xn⟩], by omega, by go_num, HL', (HPS.out ⟨xo, xr, xsS, xn⟩) ▸ owns_set4 hO5 (k * 4) (k * 4 + 1) (k * 4 + 2) (k * 4 + 3) (.int .i64 xo) (.int .i64 xr) (.int .i64 xsS) (.int .i64 xn), below_set4 hB5a (Nat.le_refl _) _ _ _ _ _ _ _ _⟩, by simp [intOf]; omega⟩
        · obtain rfl : k = ps.length := by omega
          have HSome : Hid (s2 = some L) := Lib.hid (by
            have := HL.out.2
            rw [List.take_length] at this
            rw [HCF2.out, this])
          rw [codePart_all HL.out.1] at hO
          have hLl : Hid (L.length = ps.length) := Lib.hid HL.out.1
          obtain ⟨bs, h1, h2⟩ := Own.of_owns hO
          go_wp2_with fail
          exact bodyPost_ret (v := .tuple #[.slice (some ⟨w1.heap.size, 0, none⟩) ps.length ps.length, .bool true]) (by simp [results, Tryz.results69, go_sem]) rfl ⟨_, bs, by rw [HSome.out]; rfl, by rw [HSome.out]; show Own _ _ 4 L.length (flc L) bs; rw [hLl.out]; exact h1, fun b hb => Nat.le_trans hsz1 (h2 b hb), hBw⟩
set_option maxHeartbeats 800000 in
theorem impl_ParseAsk (s : List UInt8) (w : World) (hs : s.length ≤ 1048576) (hE : Env w) :
    Calls Tryz.prog 41 #[str s] w (RetCodeB ((askCF s).getD []) (askCF s).isSome w) := by
  have HC := Lib.hid (parseAtoms s w hs hE)
  clear hE
  go_enter Tryz.func41, Tryz.ntmps41
  go_wp2_with fail
  refine HC.out.mono ?_
  rintro e w1 ⟨v1, bs1, rfl, h1, h2, h3⟩
  go_wp2_with fail
  go_ret2
  exact ⟨v1, bs1, rfl, h1, h2, h3⟩
end Go.Proofs.YtgbgjlmkmlhefaaGreatDoor

/- Contract of spec.l06Atom: the model's reading of one atom. Condition: the text is at most 1048576 bytes long. -/
namespace Go.Proofs.YtgbgjlmkmlhefaaGreatDoor
set_option maxRecDepth 20000
set_option linter.unusedSimpArgs false
set_option linter.unusedVariables false
open Go.ChangeShapes Go.WideShapes Go.ChangeAt Go.RowKit
set_option linter.unusedVariables false
def RetAtF (o : Option Ins) (w : World) (e : Ending) (w' : World) : Prop := (∃ a : Ins, e = .returned (.tuple #[insV a, .bool o.isSome]) ∧ ∀ x, o = some x → a = x) ∧ Below w.heap.size w w'
theorem specA_not {s : List UInt8} (h : (partsF 61 s).length ≠ 2) : specAF s = none := by
  unfold specAF
  split
  · rename_i e
    rw [e] at h
    exact absurd rfl h
  · rfl
theorem two_of {l : List (List UInt8)} (h : l.length = 2) : ∃ a b, l = [a, b] := by
  match l, h with
  | [a, b], _ => exact ⟨a, b, rfl⟩
theorem parts_le {c : UInt8} {s p : List UInt8} (h : p ∈ partsF c s) : p.length ≤ s.length := splitK_part c (Lib.count s [c]) s p (by rw [(splitK_parts c _ s).1 (by have := count_parts c s.length s (Nat.le_refl _); omega)]; exact h)
theorem br_far {l : List UInt8} {S : ByteArray} (hS : S = ⟨l.toArray⟩) (h0 : 0 < S.size) (h1 : l.length - 1 < S.size) (hn : 2 < l.length) : brB l = ((S[0]'h0).toNat == 91 && (S[l.length - 1]'h1).toNat == 93) := by
  subst hS
  have k1 : ∀ a : UInt8, (a.toNat == 91) = (a == 91) := by
    intro a
    rw [Bool.eq_iff_iff]
    simp [← UInt8.toNat_inj]
  have k2 : ∀ a : UInt8, (a.toNat == 93) = (a == 93) := by
    intro a
    rw [Bool.eq_iff_iff]
    simp [← UInt8.toNat_inj]
  rw [k1, k2]
  unfold brB
  rw [decide_eq_true hn, List.head?_eq_getElem?, List.getLast?_eq_getElem?, List.getElem?_eq_getElem (by omega), List.getElem?_eq_getElem (by omega)]
  rfl
theorem mid_piece (l : List UInt8) : (⟨l.toArray⟩ : ByteArray).extract 1 (l.length - 1) = ⟨(l.tail.dropLast).toArray⟩ := by
  rw [ext_piece, List.drop_take, List.dropLast_eq_take, List.length_tail, List.drop_one]
set_option maxHeartbeats 6400000 in
theorem spec_l06Atom (s : List UInt8) (w : World) (hs : s.length ≤ 1048576) :
    Calls Tryz.prog 66 #[str s] w (RetAtF (specAF s) w) := by
  have hB0 := (Below.refl w.heap.size w).alloc (Nat.le_refl _) (.cells #[.int .i64 0, .int .i64 0, .int .i64 0, .int .i64 0] 78)
  have k0 := Bk.new w #[.int .i64 0, .int .i64 0, .int .i64 0, .int .i64 0] 78
  obtain ⟨w0, hw0⟩ : ∃ w0, w.alloc (.cells #[.int .i64 0, .int .i64 0, .int .i64 0, .int .i64 0] 78) = w0 := ⟨_, rfl⟩
  rw [hw0] at hB0 k0
  have HW0 := Lib.hid hw0
  clear hw0
  have hP := l01PartsO s 61 w0 hs
  by_cases h2 : (partsF 61 s).length = 2
  · obtain ⟨l, q, hps⟩ := two_of h2
    have hll : l.length ≤ 1048576 := Nat.le_trans (parts_le (s := s) (c := 61) (by rw [hps]; simp)) hs
    have hql : q.length ≤ 1048576 := Nat.le_trans (parts_le (s := s) (c := 61) (by rw [hps]; simp)) hs
    rw [hps] at hP
    have HP : Hid (Calls Tryz.prog 65 #[str s, .int .u8 61] w0 fun e w' => ∃ v', e = .returned v' ∧ w'.ownsRow w0.heap.size 9 1 v' 2 (strs [l, q]) ∧ Below w0.heap.size w0 w') := Lib.hid hP
    have HS : Hid (specAF s = (readF q).bind fun v => if brB l then (readF l.tail.dropLast).map fun x => ⟨1, 0, x, v⟩ else match partsF 58 l with
      | [a, b] => (readF a).bind fun t => (readF b).map fun x => ⟨0, t, x, v⟩
      | _ => none) := Lib.hid (by unfold specAF; rw [hps]; try rfl)
    clear hP h2 hps
    go_enter Tryz.func66, Tryz.ntmps66
    go_wp2_with fail
    rw [HW0.out]
    refine HP.out.mono ?_
    rintro e w1 ⟨v1, rfl, hO1, hb1⟩
    obtain ⟨g, cap, rfl⟩ := owned_form hO1 (by omega)
    have hc0 : w1.cell? ⟨g, 0, none⟩ = some (str l) := hO1.cellAt 0 (by omega)
    have hc1 : w1.cell? ⟨g, 1, none⟩ = some (str q) := hO1.cellAt 1 (by omega)
    have hg : g < w1.heap.size := (hO1.lt g rfl).2
    have hB1 := hB0.trans (hb1.mono hB0.size)
    have k1 := k0.below hb1 k0.lt
    go_wp2_with fail
    refine (l01Read q w1 hql).mono ?_
    rintro e w2 ⟨⟨v, rfl, hv⟩, hb2⟩
    have hd0 := (hb2.cell (p := ⟨g, 0, none⟩) hg).trans hc0
    have hg2 : g < w2.heap.size := Nat.lt_of_lt_of_le hg hb2.size
    have hB2 := hB1.trans (hb2.mono hB1.size)
    have k2 := k1.below hb2 k1.lt
    clear hO1 hb1 k1 hc0 hc1 hg hB1
    cases hr : readF q with
    | none =>
      have HN : Hid (specAF s = none) := Lib.hid (by rw [HS.out, hr]; rfl)
      have hl2 := k2.lt
      obtain ⟨z0, f0⟩ := k2.at_ 0 (x := .int .i64 0) rfl
      obtain ⟨z1, f1⟩ := k2.at_ 1 (x := .int .i64 0) rfl
      obtain ⟨z2, f2⟩ := k2.at_ 2 (x := .int .i64 0) rfl
      obtain ⟨z3, f3⟩ := k2.at_ 3 (x := .int .i64 0) rfl
      clear hr hv
      go_wp2_with fail
      have kF := (((k2.set_ 0 (.int .i64 0)).set_ 1 (.int .i64 0)).set_ 2 (.int .i64 0)).set_ 3 (.int .i64 0)
      obtain ⟨r0, -⟩ := kF.at_ 0 rfl
      obtain ⟨r1, -⟩ := kF.at_ 1 rfl
      obtain ⟨r2, -⟩ := kF.at_ 2 rfl
      obtain ⟨r3, -⟩ := kF.at_ 3 rfl
      exact bodyPost_ret (v := .tuple #[insV ⟨0, 0, 0, 0⟩, .bool false]) (by simp [results, Tryz.results66, go_sem, r0, r1, r2, r3, insV]) rfl ⟨⟨⟨0, 0, 0, 0⟩, by rw [HN.out]; rfl, fun x hx => by rw [HN.out] at hx; cases hx⟩, (((hB2.setCell (p := ⟨w.heap.size, 0, none⟩) (Nat.le_refl _) _).setCell (p := ⟨w.heap.size, 1, none⟩) (Nat.le_refl _) _).setCell (p := ⟨w.heap.size, 2, none⟩) (Nat.le_refl _) _).setCell (p := ⟨w.heap.size, 3, none⟩) (Nat.le_refl _) _⟩
    | some v' =>
      obtain rfl := hv v' hr
      have HS2 : Hid (specAF s = if brB l then (readF l.tail.dropLast).map fun x => ⟨1, 0, x, v⟩ else match partsF 58 l with
        | [a, b] => (readF a).bind fun t => (readF b).map fun x => ⟨0, t, x, v⟩
        | _ => none) := Lib.hid (by rw [HS.out, hr]; rfl)
      clear hr hv HS
      obtain ⟨S, hS⟩ : ∃ S : ByteArray, S = ⟨l.toArray⟩ := ⟨_, rfl⟩
      have hsz : S.size = l.length := by rw [hS]; show l.toArray.size = _; simp
      have HSS := Lib.hid hS
      have hd1 : w2.cell? ⟨g, 0, none⟩ = some (.string S) := by rw [hS]; exact hd0
      have hP2 := l01PartsO l 58 w2 hll
      have hP3 : Calls Tryz.prog 65 #[.string S, .int .u8 58] w2 fun e w' => ∃ v', e = .returned v' ∧ w'.ownsRow w2.heap.size 9 1 v' (partsF 58 l).length (strs (partsF 58 l)) ∧ Below w2.heap.size w2 w' := by rw [hS]; exact hP2
      have HP2 := Lib.hid hP3
      clear hS hd0 hP2 hP3
      cases hbr : brB l with
      | true =>
        have hnl : 2 < l.length := by
          unfold brB at hbr
          simp at hbr
          exact hbr.1.1
        have hbf := br_far HSS.out (by omega) (by omega) hnl
        rw [hbr] at hbf
        have hbf2 := (Bool.and_eq_true _ _).mp hbf.symm
        have e0 : ((S[0]'(by omega)).toNat : Int) = 91 := by have := hbf2.1; simp at this; omega
        have e1 : (((S[l.length - 1]'(by omega)).toNat : Int) == 93) = true := by have := hbf2.2; simp at this ⊢; omega
        have hgt : (2 : Int) < (S.size : Int) := by omega
        have hwn : IntKind.i64.wrap ((S.size : Int) - 1) = (S.size : Int) - 1 := IntWalk.i64_in _ (by omega)
        have HMP : Hid (S.extract 1 (l.length - 1) = ⟨(l.tail.dropLast).toArray⟩) := Lib.hid (by rw [HSS.out]; exact mid_piece l)
        have hml : l.tail.dropLast.length ≤ 1048576 := by simp; omega
        have HRD := Lib.hid (l01Read l.tail.dropLast w2 hml)
        have HS3 : Hid (specAF s = (readF l.tail.dropLast).map fun x => ⟨1, 0, x, v⟩) := Lib.hid (by rw [HS2.out, hbr]; rfl)
        clear hbf hbf2 hbr HS2 hml HP2
        go_wp2_with fail
        rw [HMP.out]
        refine HRD.out.mono ?_
        rintro e w3 ⟨⟨x, rfl, hx⟩, hb3⟩
        have hB3 := hB2.trans (hb3.mono hB2.size)
        have k3 := k2.below hb3 k2.lt
        obtain ⟨bx, hbx⟩ : ∃ bx, (readF l.tail.dropLast).isSome = bx := ⟨_, rfl⟩
        rw [hbx]
        have HE1 : Hid ((specAF s).isSome = bx ∧ ∀ a, specAF s = some a → (⟨1, 0, x, v⟩ : Ins) = a) := Lib.hid (by
          rw [HS3.out]
          cases hr : readF l.tail.dropLast with
          | none => rw [hr] at hbx; exact ⟨hbx, fun a h => by cases h⟩
          | some x' => rw [hr] at hbx; exact ⟨hbx, fun a h => by rw [hx x' hr]; injection h⟩)
        clear hbx hx
        have hl2 := k3.lt
        obtain ⟨z0, f0⟩ := k3.at_ 0 (x := .int .i64 0) rfl
        obtain ⟨z1, f1⟩ := k3.at_ 1 (x := .int .i64 0) rfl
        obtain ⟨z2, f2⟩ := k3.at_ 2 (x := .int .i64 0) rfl
        obtain ⟨z3, f3⟩ := k3.at_ 3 (x := .int .i64 0) rfl
        go_wp2_with fail
        have kF := (((k3.set_ 0 (.int .i64 1)).set_ 1 (.int .i64 0)).set_ 2 (.int .i64 x)).set_ 3 (.int .i64 v)
        obtain ⟨r0, -⟩ := kF.at_ 0 rfl
        obtain ⟨r1, -⟩ := kF.at_ 1 rfl
        obtain ⟨r2, -⟩ := kF.at_ 2 rfl
        obtain ⟨r3, -⟩ := kF.at_ 3 rfl
        exact bodyPost_ret (v := .tuple #[insV ⟨1, 0, x, v⟩, .bool bx]) (by simp [results, Tryz.results66, go_sem, r0, r1, r2, r3, insV]) rfl ⟨⟨⟨1, 0, x, v⟩, by rw [HE1.out.1], fun a h => HE1.out.2 a h⟩, (((hB3.setCell (p := ⟨w.heap.size, 0, none⟩) (Nat.le_refl _) _).setCell (p := ⟨w.heap.size, 1, none⟩) (Nat.le_refl _) _).setCell (p := ⟨w.heap.size, 2, none⟩) (Nat.le_refl _) _).setCell (p := ⟨w.heap.size, 3, none⟩) (Nat.le_refl _) _⟩
      | false =>
        have HS3 : Hid (specAF s = match partsF 58 l with
          | [a, b] => (readF a).bind fun t => (readF b).map fun x => ⟨0, t, x, v⟩
          | _ => none) := Lib.hid (by rw [HS2.out, hbr]; rfl)
        have hcs : (¬ (2 : Int) < (S.size : Int)) ∨ (∃ (h0 : 0 < S.size) (_ : l.length - 1 < S.size), (2 : Int) < (S.size : Int) ∧ ¬ ((S[0]'h0).toNat : Int) = 91) ∨ ∃ (h0 : 0 < S.size) (h1 : l.length - 1 < S.size), (2 : Int) < (S.size : Int) ∧ ((S[0]'h0).toNat : Int) = 91 ∧ (((S[l.length - 1]'h1).toNat : Int) == 93) = false := by
          by_cases hn : 2 < l.length
          · have hbf := br_far HSS.out (by omega) (by omega) hn
            rw [hbr] at hbf
            by_cases h91 : ((S[0]'(by omega)).toNat : Int) = 91
            · refine .inr (.inr ⟨by omega, by omega, by omega, h91, ?_⟩)
              have h91' : (S[0]'(by omega)).toNat = 91 := by omega
              simp [h91'] at hbf ⊢
              omega
            · exact .inr (.inl ⟨by omega, by omega, by omega, h91⟩)
          · exact .inl (by omega)
        have hwn : IntKind.i64.wrap ((S.size : Int) - 1) = (S.size : Int) - 1 ∨ True := .inr trivial
        clear hwn hbr HS2
        have hpl : ∀ p ∈ partsF 58 l, p.length ≤ 1048576 := fun p hp => Nat.le_trans (parts_le hp) hll
        by_cases h2 : (partsF 58 l).length = 2
        · obtain ⟨a, b, hab⟩ := two_of h2
          rw [hab] at HP2 HS3 hpl
          have hal := hpl a (by simp)
          have hbl := hpl b (by simp)
          have HP3 : Hid (Calls Tryz.prog 65 #[.string S, .int .u8 58] w2 fun e w' => ∃ v', e = .returned v' ∧ w'.ownsRow w2.heap.size 9 1 v' 2 (strs [a, b]) ∧ Below w2.heap.size w2 w') := Lib.hid HP2.out
          have HS4 : Hid (specAF s = (readF a).bind fun t => (readF b).map fun x => ⟨0, t, x, v⟩) := Lib.hid HS3.out
          clear HP2 HS3 hpl h2 hab
          rcases hcs with e0 | ⟨h0, h1, hgt, e0⟩ | ⟨h0, h1, hgt, e0, e1⟩
          case' inr.inl => have hwn : IntKind.i64.wrap ((S.size : Int) - 1) = (S.size : Int) - 1 := IntWalk.i64_in _ (by omega)
          case' inr.inr => have hwn : IntKind.i64.wrap ((S.size : Int) - 1) = (S.size : Int) - 1 := IntWalk.i64_in _ (by omega)
          all_goals
            go_wp2_with fail
            refine HP3.out.mono ?_
            rintro e w3 ⟨v3, rfl, hO3, hb3⟩
            obtain ⟨g3, c3, rfl⟩ := owned_form hO3 (by omega)
            have hy0 : w3.cell? ⟨g3, 0, none⟩ = some (str a) := hO3.cellAt 0 (by omega)
            have hy1 : w3.cell? ⟨g3, 1, none⟩ = some (str b) := hO3.cellAt 1 (by omega)
            have hg3 : g3 < w3.heap.size := (hO3.lt g3 rfl).2
            have hB3 := hB2.trans (hb3.mono hB2.size)
            have k3 := k2.below hb3 k2.lt
            clear hO3 hb3
            go_wp2_with fail
            refine (l01Read a w3 hal).mono ?_
            rintro e w4 ⟨⟨t, rfl, ht⟩, hb4⟩
            have hy1' := (hb4.cell (p := ⟨g3, 1, none⟩) hg3).trans hy1
            have hg4 : g3 < w4.heap.size := Nat.lt_of_lt_of_le hg3 hb4.size
            have hB4 := hB3.trans (hb4.mono hB3.size)
            have k4 := k3.below hb4 k3.lt
            clear hy0 hy1 hg3 hb4 hB3 k3
            go_wp2_with fail
            refine (l01Read b w4 hbl).mono ?_
            rintro e w5 ⟨⟨x, rfl, hx⟩, hb5⟩
            have hB5 := hB4.trans (hb5.mono hB4.size)
            have k5 := k4.below hb5 k4.lt
            obtain ⟨ba, hba⟩ : ∃ ba, (readF a).isSome = ba := ⟨_, rfl⟩
            obtain ⟨bb, hbb⟩ : ∃ bb, (readF b).isSome = bb := ⟨_, rfl⟩
            rw [hba, hbb]
            have HE1 : Hid ((specAF s).isSome = (ba && bb) ∧ ∀ y, specAF s = some y → (⟨0, t, x, v⟩ : Ins) = y) := Lib.hid (by
              rw [HS4.out]
              cases hra : readF a with
              | none => rw [hra] at hba; rw [← hba]; exact ⟨rfl, fun y h => by cases h⟩
              | some t' =>
                rw [hra] at hba
                cases hrb : readF b with
                | none => rw [hrb] at hbb; rw [← hba, ← hbb]; exact ⟨rfl, fun y h => by cases h⟩
                | some x' => rw [hrb] at hbb; rw [← hba, ← hbb]; exact ⟨rfl, fun y h => by rw [ht t' hra, hx x' hrb]; injection h⟩)
            clear hba hbb ht hx hy1' hg4
            have hl2 := k5.lt
            obtain ⟨z0, f0⟩ := k5.at_ 0 (x := .int .i64 0) rfl
            obtain ⟨z1, f1⟩ := k5.at_ 1 (x := .int .i64 0) rfl
            obtain ⟨z2, f2⟩ := k5.at_ 2 (x := .int .i64 0) rfl
            obtain ⟨z3, f3⟩ := k5.at_ 3 (x := .int .i64 0) rfl
            cases ba <;> cases bb
            all_goals
              go_wp2_with fail
              have kF := (((k5.set_ 0 (.int .i64 0)).set_ 1 (.int .i64 t)).set_ 2 (.int .i64 x)).set_ 3 (.int .i64 v)
              obtain ⟨r0, -⟩ := kF.at_ 0 rfl
              obtain ⟨r1, -⟩ := kF.at_ 1 rfl
              obtain ⟨r2, -⟩ := kF.at_ 2 rfl
              obtain ⟨r3, -⟩ := kF.at_ 3 rfl
              first
                | exact bodyPost_ret (v := .tuple #[insV ⟨0, t, x, v⟩, .bool false]) (by simp [results, Tryz.results66, go_sem, r0, r1, r2, r3, insV]) rfl ⟨⟨⟨0, t, x, v⟩, by rw [HE1.out.1]; rfl, fun y h => HE1.out.2 y h⟩, (((hB5.setCell (p := ⟨w.heap.size, 0, none⟩) (Nat.le_refl _) _).setCell (p := ⟨w.heap.size, 1, none⟩) (Nat.le_refl _) _).setCell (p := ⟨w.heap.size, 2, none⟩) (Nat.le_refl _) _).setCell (p := ⟨w.heap.size, 3, none⟩) (Nat.le_refl _) _⟩
                | exact bodyPost_ret (v := .tuple #[insV ⟨0, t, x, v⟩, .bool true]) (by simp [results, Tryz.results66, go_sem, r0, r1, r2, r3, insV]) rfl ⟨⟨⟨0, t, x, v⟩, by rw [HE1.out.1]; rfl, fun y h => HE1.out.2 y h⟩, (((hB5.setCell (p := ⟨w.heap.size, 0, none⟩) (Nat.le_refl _) _).setCell (p := ⟨w.heap.size, 1, none⟩) (Nat.le_refl _) _).setCell (p := ⟨w.heap.size, 2, none⟩) (Nat.le_refl _) _).setCell (p := ⟨w.heap.size, 3, none⟩) (Nat.le_refl _) _⟩
        · obtain ⟨n, hn⟩ : ∃ n, (partsF 58 l).length = n := ⟨_, rfl⟩
          have HN : Hid (specAF s = none) := Lib.hid (by
            rw [HS3.out]
            split
            · rename_i e
              rw [e] at h2
              exact absurd rfl h2
            · rfl)
          rw [hn] at HP2 h2
          have hne : ¬ (n : Int) = 2 := by omega
          clear hn h2 hpl HS3
          rcases hcs with e0 | ⟨h0, h1, hgt, e0⟩ | ⟨h0, h1, hgt, e0, e1⟩
          case' inr.inl => have hwn : IntKind.i64.wrap ((S.size : Int) - 1) = (S.size : Int) - 1 := IntWalk.i64_in _ (by omega)
          case' inr.inr => have hwn : IntKind.i64.wrap ((S.size : Int) - 1) = (S.size : Int) - 1 := IntWalk.i64_in _ (by omega)
          all_goals
            go_wp2_with fail
            refine HP2.out.mono ?_
            rintro e w3 ⟨v3, rfl, hO3, hb3⟩
            obtain ⟨A3, c3, rfl, -, -⟩ := owns_slice hO3
            have hB3 := hB2.trans (hb3.mono hB2.size)
            have k3 := k2.below hb3 k2.lt
            clear hO3 hb3
            have hl2 := k3.lt
            obtain ⟨z0, f0⟩ := k3.at_ 0 (x := .int .i64 0) rfl
            obtain ⟨z1, f1⟩ := k3.at_ 1 (x := .int .i64 0) rfl
            obtain ⟨z2, f2⟩ := k3.at_ 2 (x := .int .i64 0) rfl
            obtain ⟨z3, f3⟩ := k3.at_ 3 (x := .int .i64 0) rfl
            go_wp2_with fail
            have kF := (((k3.set_ 0 (.int .i64 0)).set_ 1 (.int .i64 0)).set_ 2 (.int .i64 0)).set_ 3 (.int .i64 0)
            obtain ⟨r0, -⟩ := kF.at_ 0 rfl
            obtain ⟨r1, -⟩ := kF.at_ 1 rfl
            obtain ⟨r2, -⟩ := kF.at_ 2 rfl
            obtain ⟨r3, -⟩ := kF.at_ 3 rfl
            exact bodyPost_ret (v := .tuple #[insV ⟨0, 0, 0, 0⟩, .bool false]) (by simp [results, Tryz.results66, go_sem, r0, r1, r2, r3, insV]) rfl ⟨⟨⟨0, 0, 0, 0⟩, by rw [HN.out]; rfl, fun x hx => by rw [HN.out] at hx; cases hx⟩, (((hB3.setCell (p := ⟨w.heap.size, 0, none⟩) (Nat.le_refl _) _).setCell (p := ⟨w.heap.size, 1, none⟩) (Nat.le_refl _) _).setCell (p := ⟨w.heap.size, 2, none⟩) (Nat.le_refl _) _).setCell (p := ⟨w.heap.size, 3, none⟩) (Nat.le_refl _) _⟩
  · have HP := Lib.hid hP
    have HN : Hid (specAF s = none) := Lib.hid (specA_not h2)
    obtain ⟨n, hn⟩ : ∃ n, (partsF 61 s).length = n := ⟨_, rfl⟩
    rw [hn] at HP h2
    have hne : ¬ (n : Int) = 2 := by omega
    clear hP hn h2
    go_enter Tryz.func66, Tryz.ntmps66
    go_wp2_with fail
    rw [HW0.out]
    refine HP.out.mono ?_
    rintro e w1 ⟨v1, rfl, hO1, hb1⟩
    obtain ⟨A1, c1, rfl, -, -⟩ := owns_slice hO1
    have hB2 := hB0.trans (hb1.mono hB0.size)
    have k2 := k0.below hb1 k0.lt
    have hl2 := k2.lt
    obtain ⟨z0, f0⟩ := k2.at_ 0 (x := .int .i64 0) rfl
    obtain ⟨z1, f1⟩ := k2.at_ 1 (x := .int .i64 0) rfl
    obtain ⟨z2, f2⟩ := k2.at_ 2 (x := .int .i64 0) rfl
    obtain ⟨z3, f3⟩ := k2.at_ 3 (x := .int .i64 0) rfl
    go_wp2_with fail
    have kF := (((k2.set_ 0 (.int .i64 0)).set_ 1 (.int .i64 0)).set_ 2 (.int .i64 0)).set_ 3 (.int .i64 0)
    obtain ⟨r0, -⟩ := kF.at_ 0 rfl
    obtain ⟨r1, -⟩ := kF.at_ 1 rfl
    obtain ⟨r2, -⟩ := kF.at_ 2 rfl
    obtain ⟨r3, -⟩ := kF.at_ 3 rfl
    exact bodyPost_ret (v := .tuple #[insV ⟨0, 0, 0, 0⟩, .bool false]) (by simp [results, Tryz.results66, go_sem, r0, r1, r2, r3, insV]) rfl ⟨⟨⟨0, 0, 0, 0⟩, by rw [HN.out]; rfl, fun x hx => by rw [HN.out] at hx; cases hx⟩, (((hB2.setCell (p := ⟨w.heap.size, 0, none⟩) (Nat.le_refl _) _).setCell (p := ⟨w.heap.size, 1, none⟩) (Nat.le_refl _) _).setCell (p := ⟨w.heap.size, 2, none⟩) (Nat.le_refl _) _).setCell (p := ⟨w.heap.size, 3, none⟩) (Nat.le_refl _) _⟩
end Go.Proofs.YtgbgjlmkmlhefaaGreatDoor

/- Contract of spec.ParseAsk: the query that a text is, the model's way. Condition: the text is at most 1048576 bytes long. -/
namespace Go.Proofs.YtgbgjlmkmlhefaaGreatDoor
set_option maxRecDepth 20000
set_option linter.unusedSimpArgs false
set_option linter.unusedVariables false
open Go.ChangeShapes Go.WideShapes Go.ChangeAt Go.RowKit
set_option linter.unusedVariables false
theorem readF_rng {s : List UInt8} {v : Int} (h : readF s = some v) : Rng v := by
  have := (readF_some h).2
  unfold Rng
  omega
theorem spec_rng {s : List UInt8} {a : Ins} (h : specAF s = some a) : InsR a := by
  unfold specAF at h
  split at h
  · cases hq : readF (_ : List UInt8) with
    | none => rw [hq] at h; cases h
    | some v =>
      rw [hq, Option.bind_some] at h
      split at h
      · cases hx : readF (_ : List UInt8) with
        | none => rw [hx] at h; cases h
        | some x =>
          rw [hx] at h
          simp only [Option.map_some, Option.some.injEq] at h
          subst h
          exact ⟨by unfold Rng; simp, by unfold Rng; simp, readF_rng hx, readF_rng hq⟩
      · split at h
        · cases ht : readF (_ : List UInt8) with
          | none => rw [ht] at h; cases h
          | some t =>
            rw [ht, Option.bind_some] at h
            cases hx : readF (_ : List UInt8) with
            | none => rw [hx] at h; cases h
            | some x =>
              rw [hx] at h
              simp only [Option.map_some, Option.some.injEq] at h
              subst h
              exact ⟨by unfold Rng; simp, readF_rng ht, readF_rng hx, readF_rng hq⟩
        · cases h
  · cases h
def oddF : List (List UInt8) → Option (List Ins)
  | [] => some []
  | q :: r => if q = [38] then wordsF r else none
theorem words_cons (p : List UInt8) (t : List (List UInt8)) : wordsF (p :: t) = (specAF p).bind fun a => (oddF t).map (a :: ·) := by
  cases t with
  | nil => unfold wordsF oddF; cases specAF p <;> rfl
  | cons q r =>
    unfold wordsF oddF
    cases specAF p with
    | none => rfl
    | some a =>
      simp only [Option.bind_some]
      split <;> rfl
def restF (k : Nat) (ps : List (List UInt8)) : Option (List Ins) := if k % 2 = 1 then oddF (ps.drop k) else wordsF (ps.drop k)
theorem rest_even {k : Nat} {ps : List (List UInt8)} {p : List UInt8} {L : List Ins} {o : Option (List Ins)} (hk : k % 2 = 0) (hp : ps[k]? = some p) (h : (restF k ps).map (L ++ ·) = o) : (specAF p = none → o = none) ∧ ∀ a, specAF p = some a → (restF (k + 1) ps).map ((L ++ [a]) ++ ·) = o := by
  have hlt := (List.getElem?_eq_some_iff.1 hp).1
  have hd : ps.drop k = p :: ps.drop (k + 1) := by
    rw [List.drop_eq_getElem_cons hlt]
    congr 1
    exact Option.some.inj ((List.getElem?_eq_getElem hlt).symm.trans hp)
  unfold restF at h ⊢
  rw [if_neg (by omega), hd, words_cons] at h
  rw [if_pos (by omega)]
  refine ⟨fun hn => ?_, fun a ha => ?_⟩
  · rw [hn] at h
    exact h.symm
  · rw [ha, Option.bind_some] at h
    rw [← h]
    cases oddF (ps.drop (k + 1)) <;> simp
theorem rest_odd {k : Nat} {ps : List (List UInt8)} {p : List UInt8} {L : List Ins} {o : Option (List Ins)} (hk : k % 2 = 1) (hp : ps[k]? = some p) (h : (restF k ps).map (L ++ ·) = o) : (p ≠ [38] → o = none) ∧ (p = [38] → (restF (k + 1) ps).map (L ++ ·) = o) := by
  have hlt := (List.getElem?_eq_some_iff.1 hp).1
  have hd : ps.drop k = p :: ps.drop (k + 1) := by
    rw [List.drop_eq_getElem_cons hlt]
    congr 1
    exact Option.some.inj ((List.getElem?_eq_getElem hlt).symm.trans hp)
  unfold restF at h ⊢
  rw [if_pos hk, hd, oddF] at h
  rw [if_neg (by omega)]
  refine ⟨fun hn => ?_, fun e => ?_⟩
  · rw [if_neg hn] at h
    exact h.symm
  · rw [if_pos e] at h
    exact h
theorem rest_end {ps : List (List UInt8)} {L : List Ins} {o : Option (List Ins)} (h : (restF ps.length ps).map (L ++ ·) = o) : o = some L := by
  unfold restF at h
  rw [List.drop_length] at h
  rw [← h]
  split <;> simp [oddF, wordsF]
set_option maxHeartbeats 6400000 in
theorem spec_ParseAsk (s : List UInt8) (w : World) (hs : s.length ≤ 1048576) :
    Calls Tryz.prog 38 #[str s] w (RetCodeB ((specAskF s).getD []) (specAskF s).isSome w) := by
  have hO0 := owns_newCells w 78 4
  have hB0 := (Below.refl w.heap.size w).alloc (Nat.le_refl _) (.cells #[] 78)
  have hsz : (⟨s.toArray⟩ : ByteArray).size = s.length := by show s.toArray.size = _; simp
  cases hsc : s with
  | nil =>
    go_enter Tryz.func38, Tryz.ntmps38
    go_wp2_with fail
    exact bodyPost_ret (v := .tuple #[.slice none 0 0, .bool true]) (by simp [results, Tryz.results38, go_sem]) rfl ⟨_, [], by simp [specAskF], Own.nil _ _, by simp, hB0⟩
  | cons ch s' =>
    have hne : s ≠ [] := by rw [hsc]; simp
    have hsl : s.length = s'.length + 1 := by rw [hsc]; simp
    have HSC := Lib.hid hsc
    by_cases hlen : 320 < s.length
    · have HF : Hid (specAskF s = none) := Lib.hid (by unfold specAskF; rw [if_neg hne, if_pos hlen])
      rw [hsc] at HF
      have hl2 : (320 : Int) < (s'.length : Int) + 1 := by omega
      clear hsc hne hlen
      go_enter Tryz.func38, Tryz.ntmps38
      go_wp2_with fail
      exact bodyPost_ret (v := .tuple #[.slice none 0 0, .bool false]) (by simp [results, Tryz.results38, go_sem]) rfl ⟨_, [], by rw [HF.out]; rfl, by rw [HF.out]; exact Own.nil _ _, by simp, hB0⟩
    · have hP := l01PartsO s 32 (w.alloc (.cells #[] 78)) hs
      obtain ⟨ps, hps⟩ : ∃ ps, partsF 32 s = ps := ⟨_, rfl⟩
      have hpl := partsF_len 32 s
      have hpp : ∀ p ∈ partsF 32 s, p.length ≤ 320 := fun p hp => Nat.le_trans (parts_le hp) (by omega)
      obtain ⟨o, ho⟩ : ∃ o, wordsF (partsF 32 s) = o := ⟨_, rfl⟩
      have HSA : Hid (specAskF s = o.bind fun L => if askTF L = some s then some L else none) := Lib.hid (by unfold specAskF; rw [if_neg hne, if_neg hlen, ho])
      rw [hps] at hP hpl hpp ho
      have HO0 : Hid ((restF 0 ps).map (([] : List Ins) ++ ·) = o) := Lib.hid (by rw [← ho]; unfold restF; simp)
      have hpl2 : ps.length ≤ 321 := by omega
      obtain ⟨s2, hs2⟩ : ∃ s2, specAskF s = s2 := ⟨_, rfl⟩
      rw [hs2] at HSA
      rw [← hsc, hs2]
      have HP := Lib.hid hP
      have HPP := Lib.hid hpp
      have hl2 : ¬ (320 : Int) < (s'.length : Int) + 1 := by omega
      rw [hsc] at HP ⊢
      obtain ⟨i, hi, hiz0, hiz1, hiz2⟩ := info_parts infoAtom
      clear hP hps hpl hsc hne hlen hs2 hpp hsz ho
      go_enter Tryz.func38, Tryz.ntmps38
      go_wp2_with fail
      refine HP.out.mono ?_
      rintro e w1 ⟨v1, rfl, hO1, hb1⟩
      obtain ⟨A1, c1, rfl, hnc1, hcm1⟩ := owns_slice hO1
      have hW1 := owns_mono hO1 (show w.heap.size ≤ (w.alloc (.cells #[] 78)).heap.size by simp)
      have hO1' := ownsRow_below hO0 hb1
      have hB1 := hB0.trans (hb1.mono hB0.size)
      clear hO1 hO0 hB0 hb1
      go_wp2_with fail
      go_loopw [4, 6] (fun vo j wr => ∃ (k : Nat) (L : List Ins), k ≤ ps.length ∧ j = .int .i64 k ∧ L.length ≤ k ∧ Hid ((restF k ps).map (L ++ ·) = o) ∧ Hid (∀ x ∈ L, InsR x) ∧ wr.ownsRow w.heap.size 78 4 vo L.length (flc L) ∧
        wr.ownsRow w.heap.size 9 1 (.slice A1 ps.length c1) ps.length (strs ps) ∧ Below w.heap.size w wr) (fun _ j _ => ps.length - (intOf j).toNat)
      case atStart => exact ⟨0, [], Nat.zero_le _, rfl, Nat.le_refl _, HO0, Lib.hid (by simp), hO1', hW1, hB1⟩
      case round =>
        obtain ⟨k, L, hk, rfl, hL, HL, HR, hO, hW, hB⟩ := hrel
        clear hO1' hW1 hB1
        obtain ⟨AO, cO, rfl, hcO, hcOm⟩ := owns_slice hO
        by_cases hlt : k < ps.length
        · obtain ⟨g1, rfl⟩ := owns_formP hW (by omega)
          obtain ⟨p, hp⟩ := opt_at hlt
          have hpc : wr.cell? ⟨g1, k, none⟩ = some (str p) := (hW.cellAt k (by omega)).trans (by simp [strs, hp])
          have hpl := HPP.out p (List.mem_of_getElem? hp)
          by_cases hpar : k % 2 = 1
          · have hm : (k : Int).tmod 2 = 1 := by rw [Int.tmod_eq_emod_of_nonneg (by omega)]; omega
            have HX := Lib.hid (rest_odd hpar hp HL.out)
            clear hp hpar
            by_cases h38 : p = [38]
            · have HN := Lib.hid (HX.out.2 h38)
              subst h38
              go_wp2_with fail
              exact ⟨⟨k + 1, L, by omega, by go_num, by omega, HN, HR, hO, hW, hB⟩, by simp [intOf]; omega⟩
            · have HNone : Hid (s2 = none) := Lib.hid (by rw [HSA.out, HX.out.1 h38]; rfl)
              have hnq : (p == [38]) = false := by simpa using h38
              clear h38
              go_wp2_with fail
              exact bodyPost_ret (v := .tuple #[.slice none 0 0, .bool false]) (by simp [results, Tryz.results38, go_sem]) rfl ⟨_, [], by rw [HNone.out]; rfl, by rw [HNone.out]; exact Own.nil _ _, by simp, hB⟩
          · have hm : (k : Int).tmod 2 = 0 := by rw [Int.tmod_eq_emod_of_nonneg (by omega)]; omega
            have HX := Lib.hid (rest_even (by omega) hp HL.out)
            have hPI := spec_l06Atom p wr (by omega)
            unfold RetAtF at hPI
            clear hp hpar
            cases ho : specAF p with
            | none =>
              have HNone : Hid (s2 = none) := Lib.hid (by rw [HSA.out, HX.out.1 ho]; rfl)
              rw [ho] at hPI
              have HPI : Hid (Calls Tryz.prog 66 #[str p] wr fun e w' => (∃ a : Ins, e = .returned (.tuple #[insV a, .bool false]) ∧ ∀ x, none = some x → a = x) ∧ Below wr.heap.size wr w') := Lib.hid hPI
              clear hPI ho
              go_wp2_with fail
              refine HPI.out.mono ?_
              rintro e w5 ⟨⟨⟨qo, qr, qs, qn⟩, rfl, -⟩, hb5⟩
              have hB5 := hB.trans (hb5.mono hB.size)
              unfold insV
              go_wp2_with fail
              exact bodyPost_ret (v := .tuple #[.slice none 0 0, .bool false]) (by simp [results, Tryz.results38, go_sem]) rfl ⟨_, [], by rw [HNone.out]; rfl, by rw [HNone.out]; exact Own.nil _ _, by simp, hB5.alloc hB5.size _⟩
            | some x =>
              have HL' := Lib.hid (HX.out.2 x ho)
              have HR' : Hid (∀ y ∈ L ++ [x], InsR y) := Lib.hid (by
                intro y hy
                rcases List.mem_append.1 hy with hy | hy
                · exact HR.out y hy
                · simp at hy
                  subst hy
                  exact spec_rng ho)
              rw [ho] at hPI
              obtain ⟨xo, xr, xsS, xn⟩ := x
              have hPI2 : Calls Tryz.prog 66 #[str p] wr fun e w' => e = .returned (.tuple #[.agg #[.int .i64 xo, .int .i64 xr, .int .i64 xsS, .int .i64 xn], .bool true]) ∧ Below wr.heap.size wr w' := hPI.mono fun e w' ⟨⟨a, h1, h2⟩, h3⟩ => ⟨by rw [h1, h2 _ rfl]; rfl, h3⟩
              have HPI := Lib.hid hPI2
              clear hPI hPI2 ho
              go_wp2_with fail
              refine HPI.out.mono ?_
              rintro e w5 ⟨rfl, hb5⟩
              have hB5 := (hB.trans (hb5.mono hB.size))
              have hB5a := hB5.alloc hB5.size (.cells #[.int .i64 xo, .int .i64 xr, .int .i64 xsS, .int .i64 xn] 78)
              have hO5 := (ownsRow_below hO hb5).alloc (.cells #[.int .i64 xo, .int .i64 xr, .int .i64 xsS, .int .i64 xn] 78)
              have hW5 := (ownsRow_below hW hb5).alloc (.cells #[.int .i64 xo, .int .i64 xr, .int .i64 xsS, .int .i64 xn] 78)
              have k5 := Bk.new w5 #[.int .i64 xo, .int .i64 xr, .int .i64 xsS, .int .i64 xn] 78
              obtain ⟨wv, hwv⟩ : ∃ wv, w5.alloc (.cells #[.int .i64 xo, .int .i64 xr, .int .i64 xsS, .int .i64 xn] 78) = wv := ⟨_, rfl⟩
              rw [hwv] at hB5a hO5 hW5 k5
              have HWV := Lib.hid hwv
              clear hO hW hb5 hwv hpc
              go_upto_region 16 with (fail)
              rw [HWV.out]
              obtain ⟨hk0, -⟩ := k5.at_ 0 rfl
              obtain ⟨hk1, -⟩ := k5.at_ 1 rfl
              obtain ⟨hk2, -⟩ := k5.at_ 2 rfl
              obtain ⟨hk3, -⟩ := k5.at_ 3 rfl
              have hL993 : L.length ≤ 993 := by omega
              go_wp2_with (at_builtin; refine wpList_append_own _ rfl _ _ 38 rfl (w.heap.size) 78 i (.agg #[.int .i64 0, .int .i64 0, .int .i64 0, .int .i64 0]) 4 32 Tryz.underlying38 hi hiz0 hiz1 hiz2 rfl (by decide) _ _ _ rfl (hO5.alloc _) ⟨wv.heap.size, 0, none⟩ 1 1 [.int .i64 xo, .int .i64 xr, .int .i64 xsS, .int .i64 xn] rfl rfl (new_cells _ _ _) (by simp [Value.oneCell']) (by unfold maxLen; omega) (by omega) (by have := hB5a.size; simp; omega) ?_)
              intro vo6 w6 ho6 hg6 _
              have hB6 := (hB5a.alloc hB5a.size _).grown hg6 (by have := hB5a.size; simp; omega) (fun k hk => by have := (hO5.lt k hk).1; omega)
              have hO6 := owns_snocI (x := ⟨xo, xr, xsS, xn⟩) ho6
              have hW6 := (hW5.alloc (.cells #[.int .i64 xo, .int .i64 xr, .int .i64 xsS, .int .i64 xn] 78)).kept hg6 (own_ne (hW5.alloc (.cells #[.int .i64 xo, .int .i64 xr, .int .i64 xsS, .int .i64 xn] 78)) (hO5.alloc (.cells #[.int .i64 xo, .int .i64 xr, .int .i64 xsS, .int .i64 xn] 78)) (by decide))
              go_wp2_with fail
              exact ⟨⟨k + 1, L ++ [⟨xo, xr, xsS, xn⟩], by omega, by go_num, by simp; omega, HL', HR', hO6, hW6, hB6⟩, by simp [intOf]; omega⟩
        · obtain rfl : k = ps.length := by omega
          have HE : Hid (o = some L) := Lib.hid (rest_end HL.out)
          have HS2 : Hid (s2 = if askTF L = some s then some L else none) := Lib.hid (by rw [HSA.out, HE.out]; rfl)
          obtain ⟨bs, h1, h2⟩ := Own.of_owns hO
          have hAT := spec_AskText _ L wr h1.rd HR.out
          unfold RetStrB at hAT
          rw [HSC.out] at HS2
          cases hat : askTF L with
          | none =>
            have HNone : Hid (s2 = none) := Lib.hid (by rw [HS2.out, hat]; simp)
            rw [hat] at hAT
            have HAT : Hid (Calls Tryz.prog 67 #[.slice AO L.length cO] wr fun e w' => e = .returned (.tuple #[str [], .bool false]) ∧ Below wr.heap.size wr w') := Lib.hid hAT
            clear hAT hat
            go_wp2_with fail
            refine HAT.out.mono ?_
            rintro e w5 ⟨rfl, hb5⟩
            have hB5 := hB.trans (hb5.mono hB.size)
            go_wp2_with fail
            exact bodyPost_ret (v := .tuple #[.slice none 0 0, .bool false]) (by simp [results, Tryz.results38, go_sem]) rfl ⟨_, [], by rw [HNone.out]; rfl, by rw [HNone.out]; exact Own.nil _ _, by simp, hB5⟩
          | some t =>
            rw [hat] at hAT
            have HAT : Hid (Calls Tryz.prog 67 #[.slice AO L.length cO] wr fun e w' => e = .returned (.tuple #[str t, .bool true]) ∧ Below wr.heap.size wr w') := Lib.hid hAT
            by_cases ht : t = ch :: s'
            · have HF : Hid (s2 = some L) := Lib.hid (by rw [HS2.out, hat, ht, if_pos rfl])
              subst ht
              clear hAT hat
              go_wp2_with fail
              refine HAT.out.mono ?_
              rintro e w5 ⟨rfl, hb5⟩
              have hB5 := hB.trans (hb5.mono hB.size)
              have h5 := h1.below hb5
              go_wp2_with fail
              exact bodyPost_ret (v := .tuple #[.slice AO L.length cO, .bool true]) (by simp [results, Tryz.results38, go_sem]) rfl ⟨_, bs, by rw [HF.out]; rfl, by rw [HF.out]; exact h5, h2, hB5⟩
            · have HNone : Hid (s2 = none) := Lib.hid (by rw [HS2.out, hat]; simp [ht])
              clear hAT hat
              go_wp2_with fail
              refine HAT.out.mono ?_
              rintro e w5 ⟨rfl, hb5⟩
              have hB5 := hB.trans (hb5.mono hB.size)
              have hnq : (t == ch :: s') = false := by simpa using ht
              clear ht
              go_wp2_with fail
              exact bodyPost_ret (v := .tuple #[.slice none 0 0, .bool false]) (by simp [results, Tryz.results38, go_sem]) rfl ⟨_, [], by rw [HNone.out]; rfl, by rw [HNone.out]; exact Own.nil _ _, by simp, hB5⟩
theorem askCF_len (s : List UInt8) : ((askCF s).getD []).length ≤ 8 := by
  unfold askCF
  split
  · simp
  · split
    · simp
    · cases h : (piecesA s).mapM parseAF with
      | none => simp
      | some xs =>
        have := mapM_len h
        simp
        omega
theorem spec_PA (s : List UInt8) (w : World) (rL : List Ins) (rb : Bool) (hs : s.length ≤ 1048576) (h1 : (askCF s).getD [] = rL) (h2 : (askCF s).isSome = rb) :
    Calls Tryz.prog 38 #[str s] w (RetCodeB rL rb w) := by
  have := spec_ParseAsk s w hs
  rw [← ask_same] at this
  rwa [h1, h2] at this
theorem impl_PA (s : List UInt8) (w : World) (rL : List Ins) (rb : Bool) (hs : s.length ≤ 1048576) (h1 : (askCF s).getD [] = rL) (h2 : (askCF s).isSome = rb) (hE : Env w) :
    Calls Tryz.prog 41 #[str s] w (RetCodeB rL rb w) := by
  have := impl_ParseAsk s w hs hE
  rwa [h1, h2] at this
end Go.Proofs.YtgbgjlmkmlhefaaGreatDoor
