/- A word as a number, the model's way (l01Read): it reads what strconv.Itoa writes, of seven digits at most. -/
import Derived.Test.YtgbgjlmkmlhefaaGreatDoorT2
import Derived.Lib.AtoiTie
namespace Go.Proofs.YtgbgjlmkmlhefaaGreatDoor
set_option maxRecDepth 20000
set_option linter.unusedSimpArgs false
set_option linter.unusedVariables false
open Go.ChangeShapes Go.WideShapes Go.ChangeAt Go.RowKit
set_option linter.unusedVariables false
theorem decFrom_snoc : ∀ (l : List UInt8) (acc : Nat) (b : UInt8), Lib.decFrom acc (l ++ [b]) = (Lib.decFrom acc l).bind fun m => (Lib.digitVal b).map fun d => m * 10 + d
  | [], acc, b => by
    simp only [List.nil_append, Lib.decFrom, Option.bind_some]
    cases Lib.digitVal b <;> rfl
  | c :: l, acc, b => by
    simp only [List.cons_append, Lib.decFrom]
    cases Lib.digitVal c with
    | none => rfl
    | some d => exact decFrom_snoc l _ b
theorem digitVal_ten (n : Nat) : Lib.digitVal (UInt8.ofNat (48 + n % 10)) = some (n % 10) := by
  have h : (UInt8.ofNat (48 + n % 10)).toNat = 48 + n % 10 := by
    rw [UInt8.toNat_ofNat']
    omega
  unfold Lib.digitVal
  rw [h, if_pos (by omega)]
  congr 1
  omega
theorem decFrom_digits (n : Nat) : Lib.decFrom 0 (Lib.decDigits n) = some n := by
  induction n using Nat.strongRecOn with
  | _ n ih =>
    rw [Lib.decDigits]
    by_cases h : n < 10
    · rw [dif_pos h]
      have := decFrom_snoc [] 0 (UInt8.ofNat (48 + n % 10))
      rw [digitVal_ten, List.nil_append] at this
      rw [Nat.mod_eq_of_lt h] at this
      rw [this]
      simp [Lib.decFrom]
    · rw [dif_neg h, decFrom_snoc, ih (n / 10) (by omega), digitVal_ten]
      simp
      omega
theorem decFrom_app : ∀ (l r : List UInt8) (acc : Nat), Lib.decFrom acc (l ++ r) = (Lib.decFrom acc l).bind fun m => Lib.decFrom m r
  | [], r, acc => rfl
  | c :: l, r, acc => by
    simp only [List.cons_append, Lib.decFrom]
    cases Lib.digitVal c with
    | none => rfl
    | some d => exact decFrom_app l r _
theorem decFrom_bad {r : List UInt8} {k m : Nat} {b : UInt8} (h : Lib.decFrom 0 (r.take k) = some m) (hb : r[k]? = some b) (hd : Lib.digitVal b = none) : Lib.decFrom 0 r = none := by
  obtain ⟨hk, he⟩ := List.getElem?_eq_some_iff.1 hb
  rw [← List.take_append_drop k r, decFrom_app, h, List.drop_eq_getElem_cons hk, he]
  simp only [Option.bind_some, Lib.decFrom, hd]
theorem digit_no {b : UInt8} (h : (b.toNat : Int) < 48 ∨ 57 < (b.toNat : Int)) : Lib.digitVal b = none := by
  unfold Lib.digitVal
  rw [if_neg (by omega)]
theorem digit_yes {b : UInt8} (h : ¬ (b.toNat : Int) < 48) (h1 : ¬ 57 < (b.toNat : Int)) : Lib.digitVal b = some (b.toNat - 48) := by
  unfold Lib.digitVal
  rw [if_pos (by omega)]
def body (s : List UInt8) : List UInt8 := if s.head? = some 45 then s.tail else s
theorem digits_ne (n : Nat) : Lib.decDigits n ≠ [] := by
  rw [Lib.decDigits]
  split <;> simp
theorem digits_head (n : Nat) (c : UInt8) (h : (Lib.decDigits n).head? = some c) : ∃ d, Lib.digitVal c = some d := by
  refine Lib.digit_of_decFrom _ 0 n (decFrom_digits n) 0 c ?_
  rwa [List.head?_eq_getElem?] at h
theorem digits_not (n : Nat) (c : UInt8) (hc : c = 45 ∨ c = 43) : (Lib.decDigits n).head? ≠ some c := fun h => by
  obtain ⟨d, hd⟩ := digits_head n c h
  rcases hc with rfl | rfl <;> cases hd
theorem body_itoa (v : Int) : body (Lib.itoa v) = Lib.decDigits v.natAbs ∧ ((Lib.itoa v).head? = some 45 ↔ v < 0) := by
  unfold Lib.itoa
  by_cases h : v < 0
  · rw [if_pos h]
    simp [body, h]
  · rw [if_neg h, show v.toNat = v.natAbs by omega]
    have := digits_not v.natAbs 45 (.inl rfl)
    exact ⟨by unfold body; rw [if_neg this], ⟨fun h1 => absurd h1 this, fun h1 => absurd h1 h⟩⟩
theorem digits_len7 {v : Int} (h : -9999999 ≤ v ∧ v ≤ 9999999) : 1 ≤ (Lib.decDigits v.natAbs).length ∧ (Lib.decDigits v.natAbs).length ≤ 7 := by
  refine ⟨List.length_pos_iff.2 (digits_ne _), ?_⟩
  by_cases h0 : v.natAbs = 0
  · rw [h0, Lib.decDigits_one (by omega)]
    decide
  · have := digs_le 7 v.natAbs (by omega)
    unfold digs at this
    rwa [if_neg h0] at this
theorem atoi_itoa (v : Int) (h : -9999999 ≤ v ∧ v ≤ 9999999) : Lib.atoiAll (Lib.itoa v) = .ok v := by
  have hl : (Lib.itoa v).length ≤ 18 := by
    have := digits_len7 h
    unfold Lib.itoa
    split
    · simp; omega
    · rw [show v.toNat = v.natAbs by omega]; omega
  rw [Lib.atoiAll_short _ hl]
  have hd := decFrom_digits v.natAbs
  have hn : Lib.decNat (Lib.decDigits v.natAbs) = some v.natAbs := by
    unfold Lib.decNat
    rw [if_neg (by simp [digits_ne]), hd]
  have ha : Lib.atoi (Lib.itoa v) = some v := by
    unfold Lib.itoa
    by_cases h0 : v < 0
    · rw [if_pos h0]
      simp only [Lib.atoi]
      rw [if_pos (by rfl), hn]
      simp
      omega
    · rw [if_neg h0, show v.toNat = v.natAbs by omega]
      cases hc : Lib.decDigits v.natAbs with
      | nil => exact absurd hc (digits_ne _)
      | cons c r =>
        have h1 := digits_not v.natAbs 45 (.inl rfl)
        have h2 := digits_not v.natAbs 43 (.inr rfl)
        rw [hc] at h1 h2 hn
        simp only [List.head?_cons, ne_eq, Option.some.injEq] at h1 h2
        simp only [Lib.atoi]
        rw [if_neg (by simpa using h1), if_neg (by simpa using h2), hn]
        simp
        omega
  rw [ha]
  rfl
def readF (s : List UInt8) : Option Int := (parseF s).bind fun v => if -9999999 ≤ v ∧ v ≤ 9999999 then some v else none
theorem parseF_some {s : List UInt8} {v : Int} (h : parseF s = some v) : Lib.itoa v = s := by
  unfold parseF at h
  split at h
  · split at h
    · injection h with h
      subst h
      assumption
    · cases h
  · cases h
theorem readF_some {s : List UInt8} {v : Int} (h : readF s = some v) : Lib.itoa v = s ∧ -9999999 ≤ v ∧ v ≤ 9999999 := by
  unfold readF at h
  cases hp : parseF s with
  | none => rw [hp] at h; cases h
  | some u =>
    rw [hp] at h
    simp only [Option.bind_some] at h
    split at h
    · injection h with h
      subst h
      exact ⟨parseF_some hp, by assumption⟩
    · cases h
theorem readF_itoa {v : Int} (h : -9999999 ≤ v ∧ v ≤ 9999999) : readF (Lib.itoa v) = some v := by
  unfold readF parseF
  rw [atoi_itoa v h]
  simp [h]
theorem readF_len {s : List UInt8} (h : (body s).length < 1 ∨ 7 < (body s).length) : readF s = none := by
  cases hr : readF s with
  | none => rfl
  | some v =>
    obtain ⟨rfl, hv⟩ := readF_some hr
    rw [(body_itoa v).1] at h
    have := digits_len7 hv
    omega
theorem readF_dec {s : List UInt8} (h : Lib.decFrom 0 (body s) = none) : readF s = none := by
  cases hr : readF s with
  | none => rfl
  | some v =>
    obtain ⟨rfl, hv⟩ := readF_some hr
    rw [(body_itoa v).1, decFrom_digits] at h
    cases h
/-- what the word would say, were it a numeral -/
def wordVal (s : List UInt8) (m : Nat) : Int := if s.head? = some 45 then -(m : Int) else m
theorem readF_val {s : List UInt8} {m : Nat} (h : Lib.decFrom 0 (body s) = some m) (hl : (body s).length ≤ 7) :
    (Lib.itoa (wordVal s m) = s ∧ readF s = some (wordVal s m)) ∨ (Lib.itoa (wordVal s m) ≠ s ∧ readF s = none) := by
  have hm : m < 10 ^ 7 := by
    have h1 := Lib.decFrom_lt _ 0 m h
    have h2 : 10 ^ (body s).length ≤ 10 ^ 7 := Nat.pow_le_pow_right (by omega) hl
    omega
  have hv : -9999999 ≤ wordVal s m ∧ wordVal s m ≤ 9999999 := by unfold wordVal; split <;> omega
  by_cases he : Lib.itoa (wordVal s m) = s
  · refine .inl ⟨he, ?_⟩
    have := readF_itoa hv
    rwa [he] at this
  · refine .inr ⟨he, ?_⟩
    cases hr : readF s with
    | none => rfl
    | some v =>
      obtain ⟨rfl, hv1⟩ := readF_some hr
      rw [(body_itoa v).1, decFrom_digits] at h
      injection h with h
      refine absurd ?_ he
      congr 1
      unfold wordVal
      have := (body_itoa v).2
      split
      · rename_i h1; have := this.1 h1; omega
      · rename_i h1; have : ¬ v < 0 := fun h2 => h1 (this.2 h2); omega
theorem ext_tail (c : UInt8) (r : List UInt8) : (⟨(c :: r).toArray⟩ : ByteArray).extract 1 (r.length + 1) = ⟨r.toArray⟩ := by
  apply ByteArray.ext
  rw [ByteArray.data_extract]
  apply Array.ext'
  simp
set_option maxRecDepth 20000 in
set_option maxHeartbeats 1000000 in
theorem l01Read_minus (r : List UInt8) (w : World) (hs : r.length ≤ 1048576) :
    Calls Tryz.prog 87 #[str (45 :: r)] w fun e w' => (∃ x, e = .returned (.tuple #[.int .i64 x, .bool (readF (45 :: r)).isSome]) ∧ ∀ v, readF (45 :: r) = some v → x = v) ∧ Below w.heap.size w w' := by
  have hbody : body (45 :: r) = r := rfl
  go_enter Tryz.func87, Tryz.ntmps87
  go_wp2_with fail
  rw [ext_tail]
  refine (l01In _ _ _ _).mono ?_
  rintro e w1 ⟨rfl, rfl⟩
  cases hin : inB r.length 1 7
  · have HN := Lib.hid (readF_len (s := 45 :: r) (by rw [hbody]; have := inB_false hin; omega))
    go_wp2_with fail
    exact bodyPost_ret (v := .tuple #[.int .i64 0, .bool false]) (by simp [results, Tryz.results87, go_sem]) rfl ⟨⟨0, by rw [HN.out]; rfl, by rw [HN.out]; simp⟩, Below.refl _ _⟩
  · have hl : 1 ≤ r.length ∧ r.length ≤ 7 := by have := inB_true hin; omega
    go_wp2_with fail
    go_loop [5, 6] (fun x i => ∃ k m : Nat, k ≤ r.length ∧ i = .int .i64 k ∧ x = .int .i64 m ∧ Hid (Lib.decFrom 0 (r.take k) = some m)) (fun _ i => r.length - (intOf i).toNat)
    case atStart => exact ⟨0, 0, Nat.zero_le _, rfl, rfl, Lib.hid rfl⟩
    case round =>
      obtain ⟨k, m, hk, rfl, rfl, HD⟩ := hrel
      by_cases hlt : k < r.length
      · have hsz : k < (⟨r.toArray⟩ : ByteArray).size := by show k < r.toArray.size; simpa using hlt
        obtain ⟨b, hb⟩ : ∃ b, r[k]? = some b := ⟨r[k], List.getElem?_eq_getElem hlt⟩
        have hE : ((⟨r.toArray⟩ : ByteArray)[k]'hsz) = b := by
          have h1 : r[k] = b := by rw [List.getElem?_eq_getElem hlt] at hb; injection hb
          rw [← h1]
          rfl
        have HB := Lib.hid hb
        have hmb : m < 10 ^ 7 := by
          have h1 := Lib.decFrom_lt _ 0 m HD.out
          have h2 : 10 ^ (r.take k).length ≤ 10 ^ 7 := Nat.pow_le_pow_right (by omega) (by rw [List.length_take]; omega)
          omega
        have hmb' : m ≤ 9999999 := by omega
        clear hb hmb
        by_cases hlo : (((⟨r.toArray⟩ : ByteArray)[k]'hsz).toNat : Int) < 48
        · have HN := Lib.hid (readF_dec (s := 45 :: r) (by rw [hbody]; exact decFrom_bad HD.out HB.out (digit_no (.inl (hE ▸ hlo)))))
          clear hE
          go_wp2_with fail
          exact bodyPost_ret (v := .tuple #[.int .i64 0, .bool false]) (by simp [results, Tryz.results87, go_sem]) rfl ⟨⟨0, by rw [HN.out]; rfl, by rw [HN.out]; simp⟩, Below.refl _ _⟩
        · by_cases hhi : 57 < (((⟨r.toArray⟩ : ByteArray)[k]'hsz).toNat : Int)
          · have HN := Lib.hid (readF_dec (s := 45 :: r) (by rw [hbody]; exact decFrom_bad HD.out HB.out (digit_no (.inr (hE ▸ hhi)))))
            clear hE
            go_wp2_with fail
            exact bodyPost_ret (v := .tuple #[.int .i64 0, .bool false]) (by simp [results, Tryz.results87, go_sem]) rfl ⟨⟨0, by rw [HN.out]; rfl, by rw [HN.out]; simp⟩, Below.refl _ _⟩
          · have HE := Lib.hid hE
            clear hE
            have hz0 : (48 : Int) ≤ (((⟨r.toArray⟩ : ByteArray)[k]'hsz).toNat : Int) := by omega
            have hz1 : (((⟨r.toArray⟩ : ByteArray)[k]'hsz).toNat : Int) ≤ 57 := by omega
            have HZ := Lib.hid (show Lib.decFrom 0 (r.take (k + 1)) = some (m * 10 + (((⟨r.toArray⟩ : ByteArray)[k]'hsz).toNat - 48)) from Lib.decFrom_take r k 0 m b _ HD.out HB.out (by rw [HE.out]; exact digit_yes (HE.out ▸ hlo) (HE.out ▸ hhi)))
            go_wp2_with fail
            refine ⟨⟨k + 1, _, by omega, by go_num, ?_, HZ⟩, by simp [intOf]; omega⟩
            exact congrArg (Value.int .i64) (by omega)
      · obtain rfl : k = r.length := by omega
        have hd : Lib.decFrom 0 (body (45 :: r)) = some m := by rw [hbody]; have := HD.out; rwa [List.take_length] at this
        have hmb : m < 10 ^ 7 := by
          have h1 := Lib.decFrom_lt _ 0 m hd
          have h2 : 10 ^ (body (45 :: r)).length ≤ 10 ^ 7 := Nat.pow_le_pow_right (by omega) (by rw [hbody]; exact hl.2)
          omega
        have hmb' : m ≤ 9999999 := by omega
        have hw : wordVal (45 :: r) m = -(m : Int) := rfl
        have hv := readF_val hd (by rw [hbody]; omega)
        rw [hw] at hv
        clear hd hmb hw
        rcases hv with ⟨h1, h2⟩ | ⟨h1, h2⟩
        · have hq : (Lib.itoa (-(m : Int)) == 45 :: r) = true := by simp [h1]
          have HP := Lib.hid h2
          clear h1 h2
          go_wp2_with fail
          refine (l01Num _ _ (by omega)).mono ?_
          rintro e w1 ⟨rfl, hb1⟩
          go_wp2_with fail
          exact bodyPost_ret (v := .tuple #[.int .i64 (-(m : Int)), .bool true]) (by simp [results, Tryz.results87, go_sem]) rfl ⟨⟨_, by rw [HP.out]; rfl, by rw [HP.out]; simp⟩, hb1⟩
        · have hq : (Lib.itoa (-(m : Int)) == 45 :: r) = false := by simp [h1]
          have HP := Lib.hid h2
          clear h1 h2
          go_wp2_with fail
          refine (l01Num _ _ (by omega)).mono ?_
          rintro e w1 ⟨rfl, hb1⟩
          go_wp2_with fail
          exact bodyPost_ret (v := .tuple #[.int .i64 (-(m : Int)), .bool false]) (by simp [results, Tryz.results87, go_sem]) rfl ⟨⟨_, by rw [HP.out]; rfl, by rw [HP.out]; simp⟩, hb1⟩
set_option maxRecDepth 20000 in
set_option maxHeartbeats 1000000 in
theorem l01Read_plain (r : List UInt8) (w : World) (hs : r.length ≤ 1048576) (h45 : r.head? ≠ some 45) :
    Calls Tryz.prog 87 #[str r] w fun e w' => (∃ x, e = .returned (.tuple #[.int .i64 x, .bool (readF r).isSome]) ∧ ∀ v, readF r = some v → x = v) ∧ Below w.heap.size w w' := by
  have hbody : body r = r := by unfold body; rw [if_neg h45]
  have hw0 : ∀ m, wordVal r m = (m : Int) := fun m => by unfold wordVal; rw [if_neg h45]
  have hcase : r = [] ∨ ∃ h0 : 0 < (⟨r.toArray⟩ : ByteArray).size, ((((⟨r.toArray⟩ : ByteArray)[0]'h0).toNat : Int) == 45) = false := by
    cases r with
    | nil => exact .inl rfl
    | cons c t =>
      refine .inr ⟨by show 0 < (c :: t).toArray.size; simp, ?_⟩
      have hc : ((⟨(c :: t).toArray⟩ : ByteArray)[0]'(by show 0 < (c :: t).toArray.size; simp)) = c := rfl
      rw [hc]
      simp only [List.head?_cons, ne_eq, Option.some.injEq] at h45
      simp only [beq_eq_false_iff_ne, ne_eq]
      intro h
      exact h45 (UInt8.toNat_inj.1 (by simpa using Int.ofNat.inj h))
  clear h45
  rcases hcase with rfl | ⟨h0, h45⟩
  · have HN := Lib.hid (readF_len (s := []) (.inl (by decide)))
    go_enter Tryz.func87, Tryz.ntmps87
    go_wp2_with (go_at_call 26; refine (l01In _ _ _ _).mono ?_; rintro e w1 ⟨rfl, rfl⟩)
    exact bodyPost_ret (v := .tuple #[.int .i64 0, .bool false]) (by simp [results, Tryz.results87, go_sem]) rfl ⟨⟨0, by rw [HN.out]; rfl, by rw [HN.out]; simp⟩, Below.refl _ _⟩
  go_enter Tryz.func87, Tryz.ntmps87
  go_wp2_with fail
  refine (l01In _ _ _ _).mono ?_
  rintro e w1 ⟨rfl, rfl⟩
  cases hin : inB r.length 1 7
  · have HN := Lib.hid (readF_len (s := r) (by rw [hbody]; have := inB_false hin; omega))
    go_wp2_with fail
    exact bodyPost_ret (v := .tuple #[.int .i64 0, .bool false]) (by simp [results, Tryz.results87, go_sem]) rfl ⟨⟨0, by rw [HN.out]; rfl, by rw [HN.out]; simp⟩, Below.refl _ _⟩
  · have hl : 1 ≤ r.length ∧ r.length ≤ 7 := by have := inB_true hin; omega
    go_wp2_with fail
    go_loop [5, 6] (fun x i => ∃ k m : Nat, k ≤ r.length ∧ i = .int .i64 k ∧ x = .int .i64 m ∧ Hid (Lib.decFrom 0 (r.take k) = some m)) (fun _ i => r.length - (intOf i).toNat)
    case atStart => exact ⟨0, 0, Nat.zero_le _, rfl, rfl, Lib.hid rfl⟩
    case round =>
      obtain ⟨k, m, hk, rfl, rfl, HD⟩ := hrel
      by_cases hlt : k < r.length
      · have hsz : k < (⟨r.toArray⟩ : ByteArray).size := by show k < r.toArray.size; simpa using hlt
        obtain ⟨b, hb⟩ : ∃ b, r[k]? = some b := ⟨r[k], List.getElem?_eq_getElem hlt⟩
        have hE : ((⟨r.toArray⟩ : ByteArray)[k]'hsz) = b := by
          have h1 : r[k] = b := by rw [List.getElem?_eq_getElem hlt] at hb; injection hb
          rw [← h1]
          rfl
        have HB := Lib.hid hb
        have hmb : m < 10 ^ 7 := by
          have h1 := Lib.decFrom_lt _ 0 m HD.out
          have h2 : 10 ^ (r.take k).length ≤ 10 ^ 7 := Nat.pow_le_pow_right (by omega) (by rw [List.length_take]; omega)
          omega
        have hmb' : m ≤ 9999999 := by omega
        clear hb hmb
        by_cases hlo : (((⟨r.toArray⟩ : ByteArray)[k]'hsz).toNat : Int) < 48
        · have HN := Lib.hid (readF_dec (s := r) (by rw [hbody]; exact decFrom_bad HD.out HB.out (digit_no (.inl (hE ▸ hlo)))))
          clear hE
          go_wp2_with fail
          exact bodyPost_ret (v := .tuple #[.int .i64 0, .bool false]) (by simp [results, Tryz.results87, go_sem]) rfl ⟨⟨0, by rw [HN.out]; rfl, by rw [HN.out]; simp⟩, Below.refl _ _⟩
        · by_cases hhi : 57 < (((⟨r.toArray⟩ : ByteArray)[k]'hsz).toNat : Int)
          · have HN := Lib.hid (readF_dec (s := r) (by rw [hbody]; exact decFrom_bad HD.out HB.out (digit_no (.inr (hE ▸ hhi)))))
            clear hE
            go_wp2_with fail
            exact bodyPost_ret (v := .tuple #[.int .i64 0, .bool false]) (by simp [results, Tryz.results87, go_sem]) rfl ⟨⟨0, by rw [HN.out]; rfl, by rw [HN.out]; simp⟩, Below.refl _ _⟩
          · have HE := Lib.hid hE
            clear hE
            have hz0 : (48 : Int) ≤ (((⟨r.toArray⟩ : ByteArray)[k]'hsz).toNat : Int) := by omega
            have hz1 : (((⟨r.toArray⟩ : ByteArray)[k]'hsz).toNat : Int) ≤ 57 := by omega
            have HZ := Lib.hid (show Lib.decFrom 0 (r.take (k + 1)) = some (m * 10 + (((⟨r.toArray⟩ : ByteArray)[k]'hsz).toNat - 48)) from Lib.decFrom_take r k 0 m b _ HD.out HB.out (by rw [HE.out]; exact digit_yes (HE.out ▸ hlo) (HE.out ▸ hhi)))
            go_wp2_with fail
            refine ⟨⟨k + 1, _, by omega, by go_num, ?_, HZ⟩, by simp [intOf]; omega⟩
            exact congrArg (Value.int .i64) (by omega)
      · obtain rfl : k = r.length := by omega
        have hd : Lib.decFrom 0 (body r) = some m := by rw [hbody]; have := HD.out; rwa [List.take_length] at this
        have hmb : m < 10 ^ 7 := by
          have h1 := Lib.decFrom_lt _ 0 m hd
          have h2 : 10 ^ (body r).length ≤ 10 ^ 7 := Nat.pow_le_pow_right (by omega) (by rw [hbody]; exact hl.2)
          omega
        have hmb' : m ≤ 9999999 := by omega
        have hw := hw0 m
        have hv := readF_val hd (by rw [hbody]; omega)
        rw [hw] at hv
        clear hd hmb hw
        rcases hv with ⟨h1, h2⟩ | ⟨h1, h2⟩
        · have hq : (Lib.itoa ((m : Int)) == r) = true := by simp [h1]
          have HP := Lib.hid h2
          clear h1 h2
          go_wp2_with fail
          refine (l01Num _ _ (by omega)).mono ?_
          rintro e w1 ⟨rfl, hb1⟩
          go_wp2_with fail
          exact bodyPost_ret (v := .tuple #[.int .i64 ((m : Int)), .bool true]) (by simp [results, Tryz.results87, go_sem]) rfl ⟨⟨_, by rw [HP.out]; rfl, by rw [HP.out]; simp⟩, hb1⟩
        · have hq : (Lib.itoa ((m : Int)) == r) = false := by simp [h1]
          have HP := Lib.hid h2
          clear h1 h2
          go_wp2_with fail
          refine (l01Num _ _ (by omega)).mono ?_
          rintro e w1 ⟨rfl, hb1⟩
          go_wp2_with fail
          exact bodyPost_ret (v := .tuple #[.int .i64 ((m : Int)), .bool false]) (by simp [results, Tryz.results87, go_sem]) rfl ⟨⟨_, by rw [HP.out]; rfl, by rw [HP.out]; simp⟩, hb1⟩
theorem l01Read (s : List UInt8) (w : World) (hs : s.length ≤ 1048576) :
    Calls Tryz.prog 87 #[str s] w fun e w' => (∃ x, e = .returned (.tuple #[.int .i64 x, .bool (readF s).isSome]) ∧ ∀ v, readF s = some v → x = v) ∧ Below w.heap.size w w' := by
  by_cases h : s.head? = some 45
  · cases s with
    | nil => cases h
    | cons c r =>
      obtain rfl : c = 45 := by simpa using h
      exact l01Read_minus r w (by simp at hs; omega)
  · exact l01Read_plain s w hs h
end Go.Proofs.YtgbgjlmkmlhefaaGreatDoor
