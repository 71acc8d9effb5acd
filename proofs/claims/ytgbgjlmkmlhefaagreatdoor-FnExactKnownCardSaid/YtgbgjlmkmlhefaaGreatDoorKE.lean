import Derived.Test.YtgbgjlmkmlhefaaGreatDoorV4
import Derived.Test.YtgbgjlmkmlhefaaGreatDoorI5
import Derived.Test.YtgbgjlmkmlhefaaGreatDoorS2p
import Derived.Test.YtgbgjlmkmlhefaaGreatDoorSteps
import Derived.Test.YtgbgjlmkmlhefaaGreatDoorT5
import Derived.Lib.OthersKept
/- What chapter 6's functions answer, as plain functions over lists. An atom has the shape of an instruction: Kind o, T r, X s, V n. No condition. -/
namespace Go.Proofs.YtgbgjlmkmlhefaaGreatDoor
set_option maxRecDepth 20000
set_option linter.unusedSimpArgs false
set_option linter.unusedVariables false
def knownB (a : Ins) : Bool := a.o == 0 || a.o == 1
def strayB (a : Ins) : Bool := a.o == 1 && a.r != 0
def atomOkF (a : Ins) (p : Pr) : Bool := progOkF p && valB a.n && (if a.o = 0 then inB a.r 0 (p.x.length - 1) && inB a.s 0 3 else a.o == 1 && a.r == 0 && inB a.s 0 (p.c - 1))
def thAt (M : Ma) (k : Nat) : Th := M.ths.getD k ⟨0, [], []⟩
def atomHolds (M : Ma) (a : Ins) : Bool :=
  if a.o = 0 then inB a.r 0 (M.ths.length - 1) && inB a.s 0 ((thAt M a.r.toNat).v.length - 1) && decide ((thAt M a.r.toNat).v.getD a.s.toNat 0 = a.n)
  else if a.o = 1 then inB a.s 0 (M.mem.length - 1) && decide (M.mem.getD a.s.toNat 0 = a.n) else false
def holdsF (M : Ma) (xs : List Ins) : Bool := decide (xs.length ≤ 8) && xs.all (atomHolds M)
theorem holdsF_big {M : Ma} {xs : List Ins} (h : ¬ xs.length ≤ 8) : holdsF M xs = false := by simp [holdsF, h]
theorem holdsF_of {M : Ma} {xs : List Ins} (h : xs.length ≤ 8) : holdsF M xs = xs.all (atomHolds M) := by simp [holdsF, h]
end Go.Proofs.YtgbgjlmkmlhefaaGreatDoor

/- Contracts of chapter 6's atoms, of both sides: which place an atom looks at, whether it is well. Condition: the program can be read. -/
namespace Go.Proofs.YtgbgjlmkmlhefaaGreatDoor
set_option maxRecDepth 20000
set_option linter.unusedSimpArgs false
set_option linter.unusedVariables false
open Go.ChangeShapes Go.WideShapes Go.ChangeAt Go.RowKit
set_option linter.unusedVariables false
end Go.Proofs.YtgbgjlmkmlhefaaGreatDoor

/- The text of atoms: the model's and the program's. The program's asks for the library's table of powers of ten. Condition: the atoms can be read, their fields are integers of 64 bits. -/
namespace Go.Proofs.YtgbgjlmkmlhefaaGreatDoor
set_option maxRecDepth 20000
set_option linter.unusedSimpArgs false
set_option linter.unusedVariables false
open Go.ChangeShapes Go.WideShapes Go.ChangeAt Go.RowKit
set_option linter.unusedVariables false
def atomTB (a : Ins) : Bool := knownB a && !strayB a && valB a.r && valB a.s && valB a.n
def atomTF (a : Ins) : List UInt8 := if atomTB a then (if a.o = 0 then Lib.itoa a.r ++ [58] ++ Lib.itoa a.s ++ [61] ++ Lib.itoa a.n else [91] ++ Lib.itoa a.s ++ [93] ++ [61] ++ Lib.itoa a.n) else []
theorem atomTF_len {a : Ins} (h : InsR a) : (atomTF a).length ≤ 62 := by
  unfold InsR Rng at h
  have h1 := digs_len (x := a.r) (by omega)
  have h2 := digs_len (x := a.s) (by omega)
  have h3 := digs_len (x := a.n) (by omega)
  unfold atomTF
  split
  · split
    · simp only [List.length_append, List.length_cons, List.length_nil]
      omega
    · simp only [List.length_append, List.length_cons, List.length_nil]
      omega
  · simp
theorem atomTF_ne {a : Ins} (h : atomTB a = true) : ∃ c L, atomTF a = c :: L := by
  unfold atomTF
  rw [if_pos h]
  split
  · cases hx : Lib.itoa a.r ++ [58] ++ Lib.itoa a.s ++ [61] ++ Lib.itoa a.n with
    | nil => simp at hx
    | cons c L => exact ⟨c, L, rfl⟩
  · exact ⟨91, _, rfl⟩
end Go.Proofs.YtgbgjlmkmlhefaaGreatDoor

/- The text of a query: the model's and the program's. Condition: the atoms can be read, their fields are integers of 64 bits; the library's table of powers of ten stands as written. -/
namespace Go.Proofs.YtgbgjlmkmlhefaaGreatDoor
set_option maxRecDepth 20000
set_option linter.unusedSimpArgs false
set_option linter.unusedVariables false
open Go.ChangeShapes Go.WideShapes Go.ChangeAt Go.RowKit
set_option linter.unusedVariables false
def atext (xs : List Ins) : List UInt8 := Lib.join (xs.map atomTF) [32, 38, 32]
def askTF (xs : List Ins) : Option (List UInt8) := if xs.length ≤ 8 ∧ xs.all atomTB = true then some (atext xs) else none
theorem atomTF_no {a : Ins} (h : atomTB a = false) : atomTF a = [] := by unfold atomTF; rw [h]; rfl
theorem atext_take {xs : List Ins} {k : Nat} {x : Ins} (h : xs[k]? = some x) : atext (xs.take (k + 1)) = if k = 0 then atomTF x else atext (xs.take k) ++ [32, 38, 32] ++ atomTF x := by
  unfold atext
  rw [List.take_add_one, h]
  split
  · rename_i h0
    subst h0
    simp [Lib.join_one]
  · rename_i h0
    have hk : k < xs.length := (List.getElem?_eq_some_iff.1 h).1
    simp only [Option.toList_some, List.map_append, List.map_cons, List.map_nil]
    rw [join_snoc _ _ _ (fun e => by have := congrArg List.length e; rw [List.length_map, List.length_take, List.length_nil] at this; omega)]
theorem atext_len : ∀ (k : Nat) (xs : List Ins), (∀ x ∈ xs, InsR x) → (atext (xs.take k)).length ≤ 70 * k
  | 0, xs, _ => by simp [atext, Lib.join_nil]
  | k + 1, xs, hr => by
    cases hx : xs[k]? with
    | none =>
      have hk := List.getElem?_eq_none_iff.1 hx
      have := atext_len k xs hr
      rw [List.take_of_length_le (by omega)] at this ⊢
      omega
    | some x =>
      have h1 := atomTF_len (hr x (List.mem_of_getElem? hx))
      have := atext_len k xs hr
      rw [atext_take hx]
      split
      · omega
      · simp only [List.length_append, List.length_cons, List.length_nil]
        omega
set_option maxHeartbeats 6400000 in
theorem spec_AskText (v : Value) (xs : List Ins) (w : World) (h : Rd w v 4 xs.length (flc xs)) (hR : ∀ x ∈ xs, InsR x) :
    Calls Tryz.prog 67 #[v] w (RetStrB ((askTF xs).getD []) (askTF xs).isSome w) := by
  obtain ⟨A, c, rfl, -, hnc, hc, hr⟩ := h
  unfold maxLen at hc
  have HRr := Lib.hid hR
  have HRD := Lib.hid hr
  clear hR hr
  by_cases hlen : (8 : Int) < xs.length
  · have HF : Hid (askTF xs = none) := Lib.hid (by simp [askTF]; omega)
    go_enter Tryz.func67, Tryz.ntmps67
    go_wp2_with fail
    exact bodyPost_ret (v := .tuple #[.string ⟨#[]⟩, .bool false]) (by simp [results, Tryz.results67, go_sem]) rfl ⟨by rw [HF.out]; rfl, Below.refl _ _⟩
  · go_enter Tryz.func67, Tryz.ntmps67
    go_wp2_with fail
    go_loopw [4, 5] (fun t i wr => ∃ (k : Nat) (L : List UInt8), k ≤ xs.length ∧ i = .int .i64 k ∧ t = str L ∧ Hid (L = atext (xs.take k)) ∧ Hid ((xs.take k).all atomTB = true) ∧ Below w.heap.size w wr) (fun _ i _ => xs.length - (intOf i).toNat)
    case atStart => exact ⟨0, [], Nat.zero_le _, rfl, rfl, Lib.hid (by simp [atext, Lib.join_nil]), Lib.hid (by simp), Below.refl _ _⟩
    case round =>
      obtain ⟨k, L, hk, rfl, rfl, HL, HA, hB⟩ := hrel
      by_cases hlt : k < xs.length
      · obtain ⟨b, p, rfl, hb, hcell⟩ := HRD.out (by omega)
        obtain ⟨x, hxk, hx0, hx1, hx2, hx3⟩ := ins_at (fun j u hu => (hB.cell (p := ⟨b, p + j, none⟩) hb).trans (hcell j u hu)) hlt
        have hRx := HRr.out x (List.mem_of_getElem? hxk.out)
        have hLl : L.length ≤ 600 := by
          have := atext_len k xs HRr.out
          rw [HL.out]
          omega
        obtain ⟨o, r, s, n⟩ := x
        unfold InsR Rng at hRx
        simp only at hx0 hx1 hx2 hx3 hRx
        have HBa := Lib.hid (hB.alloc hB.size (.cells #[.int .i64 o, .int .i64 r, .int .i64 s, .int .i64 n] 78))
        have ka := Bk.new wr #[.int .i64 o, .int .i64 r, .int .i64 s, .int .i64 n] 78
        have HX := Lib.hid hxk.out
        have hF : atomTB ⟨o, r, s, n⟩ = (knownB ⟨o, r, s, n⟩ && !strayB ⟨o, r, s, n⟩ && valB r && valB s && valB n) := rfl
        obtain ⟨c0, -⟩ := ka.at_ 0 (x := .int .i64 o) rfl
        obtain ⟨c1, -⟩ := ka.at_ 1 (x := .int .i64 r) rfl
        obtain ⟨c2, -⟩ := ka.at_ 2 (x := .int .i64 s) rfl
        obtain ⟨c3, -⟩ := ka.at_ 3 (x := .int .i64 n) rfl
        have lka := ka.lt
        clear hcell hxk hB
        have hkk : inB o 0 1 = knownB ⟨o, r, s, n⟩ := by
          rw [Bool.eq_iff_iff]
          simp [inB, knownB]
          omega
        have hK := fun W : World => l01In o 0 1 W
        rw [hkk] at hK
        by_cases hok : atomTB ⟨o, r, s, n⟩ = true
        · have hkn : knownB ⟨o, r, s, n⟩ = true := by rw [hF] at hok; simp only [Bool.and_eq_true] at hok; exact hok.1.1.1.1
          have hst : strayB ⟨o, r, s, n⟩ = false := by rw [hF] at hok; simp only [Bool.and_eq_true, Bool.not_eq_true'] at hok; exact hok.1.1.1.2
          have hv1 : valB r = true := by rw [hF] at hok; simp only [Bool.and_eq_true] at hok; exact hok.1.1.2
          have hv2 : valB s = true := by rw [hF] at hok; simp only [Bool.and_eq_true] at hok; exact hok.1.2
          have hv3 : valB n = true := by rw [hF] at hok; simp only [Bool.and_eq_true] at hok; exact hok.2
          have HV1 : Hid (∀ W : World, Calls Tryz.prog 88 #[.int .i64 r] W fun e w' => e = .returned (.bool true) ∧ W = w') := Lib.hid fun W => by have hq := l01Value r W; rw [hv1] at hq; exact hq
          have HV2 : Hid (∀ W : World, Calls Tryz.prog 88 #[.int .i64 s] W fun e w' => e = .returned (.bool true) ∧ W = w') := Lib.hid fun W => by have hq := l01Value s W; rw [hv2] at hq; exact hq
          have HV3 : Hid (∀ W : World, Calls Tryz.prog 88 #[.int .i64 n] W fun e w' => e = .returned (.bool true) ∧ W = w') := Lib.hid fun W => by have hq := l01Value n W; rw [hv3] at hq; exact hq
          rw [hkn] at hK
          have HK := Lib.hid hK
          have HT := Lib.hid (atext_take HX.out)
          have HA' := Lib.hid (allN_snoc HA.out HX.out hok)
          have g1 := digs_len (x := r) (by omega)
          have g2 := digs_len (x := s) (by omega)
          have g3 := digs_len (x := n) (by omega)
          have hc1' := fun W : World => l01Num r W (by omega)
          have hc2' := fun W : World => l01Num s W (by omega)
          have hc3' := fun W : World => l01Num n W (by omega)
          have hTF : atomTF ⟨o, r, s, n⟩ = (if o = 0 then Lib.itoa r ++ [58] ++ Lib.itoa s ++ [61] ++ Lib.itoa n else [91] ++ Lib.itoa s ++ [93] ++ [61] ++ Lib.itoa n) := by unfold atomTF; rw [if_pos hok]
          obtain ⟨t1, ht1⟩ : ∃ t, Lib.itoa r = t := ⟨_, rfl⟩
          obtain ⟨t2, ht2⟩ : ∃ t, Lib.itoa s = t := ⟨_, rfl⟩
          obtain ⟨t3, ht3⟩ : ∃ t, Lib.itoa n = t := ⟨_, rfl⟩
          rw [ht1] at g1 hc1' hTF
          rw [ht2] at g2 hc2' hTF
          rw [ht3] at g3 hc3' hTF
          have HC1 := Lib.hid hc1'
          have HC2 := Lib.hid hc2'
          have HC3 := Lib.hid hc3'
          obtain ⟨W2, hW2⟩ : ∃ W2, W2 = wr.alloc (.cells #[.int .i64 o, .int .i64 r, .int .i64 s, .int .i64 n] 78) := ⟨_, rfl⟩
          rw [← hW2] at c0 c1 c2 c3 HBa lka
          have HW2 := Lib.hid hW2
          have HS : Hid (∀ W : World, Below W2.heap.size W2 W → Below W2.heap.size W2 W ∧ W.cell? ⟨wr.heap.size, 1, none⟩ = some (.int .i64 r) ∧ W.cell? ⟨wr.heap.size, 2, none⟩ = some (.int .i64 s) ∧ W.cell? ⟨wr.heap.size, 3, none⟩ = some (.int .i64 n)) :=
            Lib.hid fun W hW => ⟨hW, (hW.cell (p := ⟨wr.heap.size, 1, none⟩) lka).trans c1, (hW.cell (p := ⟨wr.heap.size, 2, none⟩) lka).trans c2, (hW.cell (p := ⟨wr.heap.size, 3, none⟩) lka).trans c3⟩
          have hLz : ∃ L2, Hid (atext (xs.take (k + 1)) = L2 ++ atomTF ⟨o, r, s, n⟩) ∧ L2.length ≤ L.length + 3 ∧ ((k = 0 ∧ L2 = L) ∨ (0 < k ∧ L2 = L ++ [32, 38, 32])) := by
            by_cases h0 : k = 0
            · exact ⟨L, Lib.hid (by rw [HT.out, if_pos h0, HL.out, h0]; simp [atext, Lib.join_nil]), by omega, .inl ⟨h0, rfl⟩⟩
            · exact ⟨L ++ [32, 38, 32], Lib.hid (by rw [HT.out, if_neg h0, HL.out]), by simp, .inr ⟨by omega, rfl⟩⟩
          obtain ⟨L2, HL2, hl2, hcase⟩ := hLz
          have hstr : (str L2 = str L2) := rfl
          have ho01 : o = 0 ∨ (o = 1 ∧ r = 0) := by
            simp only [knownB, Bool.or_eq_true, beq_iff_eq] at hkn
            rcases hkn with h | h
            · exact .inl h
            · exact .inr ⟨h, by simpa [strayB, h] using hst⟩
          clear hW2 hc1' hc2' hc3' hK hkk hkn hst hv1 hv2 hv3 hok ht1 ht2 ht3 hF hRx hstr
          rcases ho01 with rfl | ⟨rfl, hr0⟩
          · rw [if_pos rfl] at hTF
            have HTF := Lib.hid hTF
            clear hTF
            rcases hcase with ⟨hk0, hL2⟩ | ⟨hk0, hL2⟩
            · have hz : ¬ 0 < k := by omega
              have HEL := Lib.hid hL2
              clear hk0 hL2
              have q0 : ¬ (9223372036854775807 < L.length + t1.length) := by omega
              have q1 : ¬ (9223372036854775807 < L.length + t1.length + 1) := by omega
              have q2 : ¬ (9223372036854775807 < L.length + t1.length + 1 + t2.length) := by omega
              have q3 : ¬ (9223372036854775807 < L.length + t1.length + 1 + t2.length + 1) := by omega
              have q4 : ¬ (9223372036854775807 < L.length + t1.length + 1 + t2.length + 1 + t3.length) := by omega
              go_wp2_with (first | (go_at_call 26; refine (HK.out _).mono ?_; rintro e w' ⟨rfl, rfl⟩) | (go_at_call_of 88 (Value.int .i64 r : Value); refine (HV1.out _).mono ?_; rintro e w' ⟨rfl, rfl⟩) | (go_at_call_of 88 (Value.int .i64 s : Value); refine (HV2.out _).mono ?_; rintro e w' ⟨rfl, rfl⟩) | (go_at_call_of 88 (Value.int .i64 n : Value); refine (HV3.out _).mono ?_; rintro e w' ⟨rfl, rfl⟩))
              rw [← HW2.out]
              go_region_held3 (fun W => Below W2.heap.size W2 W ∧ W.cell? ⟨wr.heap.size, 1, none⟩ = some (.int .i64 r) ∧ W.cell? ⟨wr.heap.size, 2, none⟩ = some (.int .i64 s) ∧ W.cell? ⟨wr.heap.size, 3, none⟩ = some (.int .i64 n)) (first | (exact HS.out _ (Below.refl _ _).drew) | (exact HS.out _ (by assumption)))
                (first
                  | (go_at_call_of 89 (Value.int .i64 r : Value); have hS := ‹Below W2.heap.size W2 _ ∧ _›.1; refine (HC1.out _).mono ?_; rintro e w3 ⟨rfl, hb3⟩; have hS3 := hS.trans (hb3.mono hS.size); clear hS)
                  | (go_at_call_of 89 (Value.int .i64 s : Value); have hS := ‹Below W2.heap.size W2 _ ∧ _›.1; refine (HC2.out _).mono ?_; rintro e w4 ⟨rfl, hb4⟩; have hS4 := hS.trans (hb4.mono hS.size); clear hS)
                  | (go_at_call_of 89 (Value.int .i64 n : Value); have hS := ‹Below W2.heap.size W2 _ ∧ _›.1; refine (HC3.out _).mono ?_; rintro e w5 ⟨rfl, hb5⟩; have hS5 := hS.trans (hb5.mono hS.size); clear hS))
              all_goals
                have hS := (‹Below W2.heap.size W2 _ ∧ _›).1
                have HN := Lib.hid (HBa.out.trans (hS.mono HBa.out.size))
                go_wp2_with fail
                refine ⟨⟨k + 1, L ++ t1 ++ [58] ++ t2 ++ [61] ++ t3, by omega, by go_num, ?_, Lib.hid (by rw [HL2.out, HTF.out, HEL.out]; simp), HA', HN.out⟩, by simp [intOf]; omega⟩
                simp [str, bytes_app]
            · have q9 : ¬ (9223372036854775807 < L.length + 3) := by omega
              have HEL := Lib.hid hL2
              clear hL2
              have q0 : ¬ (9223372036854775807 < L.length + 3 + t1.length) := by omega
              have q1 : ¬ (9223372036854775807 < L.length + 3 + t1.length + 1) := by omega
              have q2 : ¬ (9223372036854775807 < L.length + 3 + t1.length + 1 + t2.length) := by omega
              have q3 : ¬ (9223372036854775807 < L.length + 3 + t1.length + 1 + t2.length + 1) := by omega
              have q4 : ¬ (9223372036854775807 < L.length + 3 + t1.length + 1 + t2.length + 1 + t3.length) := by omega
              go_wp2_with (first | (go_at_call 26; refine (HK.out _).mono ?_; rintro e w' ⟨rfl, rfl⟩) | (go_at_call_of 88 (Value.int .i64 r : Value); refine (HV1.out _).mono ?_; rintro e w' ⟨rfl, rfl⟩) | (go_at_call_of 88 (Value.int .i64 s : Value); refine (HV2.out _).mono ?_; rintro e w' ⟨rfl, rfl⟩) | (go_at_call_of 88 (Value.int .i64 n : Value); refine (HV3.out _).mono ?_; rintro e w' ⟨rfl, rfl⟩))
              rw [← HW2.out]
              go_region_held3 (fun W => Below W2.heap.size W2 W ∧ W.cell? ⟨wr.heap.size, 1, none⟩ = some (.int .i64 r) ∧ W.cell? ⟨wr.heap.size, 2, none⟩ = some (.int .i64 s) ∧ W.cell? ⟨wr.heap.size, 3, none⟩ = some (.int .i64 n)) (first | (exact HS.out _ (Below.refl _ _).drew) | (exact HS.out _ (by assumption)))
                (first
                  | (go_at_call_of 89 (Value.int .i64 r : Value); have hS := ‹Below W2.heap.size W2 _ ∧ _›.1; refine (HC1.out _).mono ?_; rintro e w3 ⟨rfl, hb3⟩; have hS3 := hS.trans (hb3.mono hS.size); clear hS)
                  | (go_at_call_of 89 (Value.int .i64 s : Value); have hS := ‹Below W2.heap.size W2 _ ∧ _›.1; refine (HC2.out _).mono ?_; rintro e w4 ⟨rfl, hb4⟩; have hS4 := hS.trans (hb4.mono hS.size); clear hS)
                  | (go_at_call_of 89 (Value.int .i64 n : Value); have hS := ‹Below W2.heap.size W2 _ ∧ _›.1; refine (HC3.out _).mono ?_; rintro e w5 ⟨rfl, hb5⟩; have hS5 := hS.trans (hb5.mono hS.size); clear hS))
              all_goals
                have hS := (‹Below W2.heap.size W2 _ ∧ _›).1
                have HN := Lib.hid (HBa.out.trans (hS.mono HBa.out.size))
                go_wp2_with fail
                refine ⟨⟨k + 1, L ++ [32, 38, 32] ++ t1 ++ [58] ++ t2 ++ [61] ++ t3, by omega, by go_num, ?_, Lib.hid (by rw [HL2.out, HTF.out, HEL.out]; simp), HA', HN.out⟩, by simp [intOf]; omega⟩
                simp [str, bytes_app]
          · subst hr0
            have hTF2 : atomTF ⟨1, 0, s, n⟩ = [91] ++ t2 ++ [93] ++ [61] ++ t3 := by rw [hTF]; rfl
            have HTF := Lib.hid hTF2
            clear hTF hTF2
            rcases hcase with ⟨hk0, hL2⟩ | ⟨hk0, hL2⟩
            · have hz : ¬ 0 < k := by omega
              have HEL := Lib.hid hL2
              clear hk0 hL2
              have q0 : ¬ (9223372036854775807 < L.length + 1) := by omega
              have q1 : ¬ (9223372036854775807 < L.length + 1 + t2.length) := by omega
              have q2 : ¬ (9223372036854775807 < L.length + 1 + t2.length + 2) := by omega
              have q3 : ¬ (9223372036854775807 < L.length + 1 + t2.length + 2 + t3.length) := by omega
              go_wp2_with (first | (go_at_call 26; refine (HK.out _).mono ?_; rintro e w' ⟨rfl, rfl⟩) | (go_at_call_of 88 (Value.int .i64 0 : Value); refine (HV1.out _).mono ?_; rintro e w' ⟨rfl, rfl⟩) | (go_at_call_of 88 (Value.int .i64 s : Value); refine (HV2.out _).mono ?_; rintro e w' ⟨rfl, rfl⟩) | (go_at_call_of 88 (Value.int .i64 n : Value); refine (HV3.out _).mono ?_; rintro e w' ⟨rfl, rfl⟩))
              rw [← HW2.out]
              go_region_held3 (fun W => Below W2.heap.size W2 W ∧ W.cell? ⟨wr.heap.size, 1, none⟩ = some (.int .i64 0) ∧ W.cell? ⟨wr.heap.size, 2, none⟩ = some (.int .i64 s) ∧ W.cell? ⟨wr.heap.size, 3, none⟩ = some (.int .i64 n)) (first | (exact HS.out _ (Below.refl _ _).drew) | (exact HS.out _ (by assumption)))
                (first
                  | (go_at_call_of 89 (Value.int .i64 s : Value); have hS := ‹Below W2.heap.size W2 _ ∧ _›.1; refine (HC2.out _).mono ?_; rintro e w4 ⟨rfl, hb4⟩; have hS4 := hS.trans (hb4.mono hS.size); clear hS)
                  | (go_at_call_of 89 (Value.int .i64 n : Value); have hS := ‹Below W2.heap.size W2 _ ∧ _›.1; refine (HC3.out _).mono ?_; rintro e w5 ⟨rfl, hb5⟩; have hS5 := hS.trans (hb5.mono hS.size); clear hS))
              all_goals
                have hS := (‹Below W2.heap.size W2 _ ∧ _›).1
                have HN := Lib.hid (HBa.out.trans (hS.mono HBa.out.size))
                go_wp2_with fail
                refine ⟨⟨k + 1, L ++ [91] ++ t2 ++ [93] ++ [61] ++ t3, by omega, by go_num, ?_, Lib.hid (by rw [HL2.out, HTF.out, HEL.out]; simp), HA', HN.out⟩, by simp [intOf]; omega⟩
                simp [str, bytes_app]
            · have q9 : ¬ (9223372036854775807 < L.length + 3) := by omega
              have HEL := Lib.hid hL2
              clear hL2
              have q0 : ¬ (9223372036854775807 < L.length + 3 + 1) := by omega
              have q1 : ¬ (9223372036854775807 < L.length + 3 + 1 + t2.length) := by omega
              have q2 : ¬ (9223372036854775807 < L.length + 3 + 1 + t2.length + 2) := by omega
              have q3 : ¬ (9223372036854775807 < L.length + 3 + 1 + t2.length + 2 + t3.length) := by omega
              go_wp2_with (first | (go_at_call 26; refine (HK.out _).mono ?_; rintro e w' ⟨rfl, rfl⟩) | (go_at_call_of 88 (Value.int .i64 0 : Value); refine (HV1.out _).mono ?_; rintro e w' ⟨rfl, rfl⟩) | (go_at_call_of 88 (Value.int .i64 s : Value); refine (HV2.out _).mono ?_; rintro e w' ⟨rfl, rfl⟩) | (go_at_call_of 88 (Value.int .i64 n : Value); refine (HV3.out _).mono ?_; rintro e w' ⟨rfl, rfl⟩))
              rw [← HW2.out]
              go_region_held3 (fun W => Below W2.heap.size W2 W ∧ W.cell? ⟨wr.heap.size, 1, none⟩ = some (.int .i64 0) ∧ W.cell? ⟨wr.heap.size, 2, none⟩ = some (.int .i64 s) ∧ W.cell? ⟨wr.heap.size, 3, none⟩ = some (.int .i64 n)) (first | (exact HS.out _ (Below.refl _ _).drew) | (exact HS.out _ (by assumption)))
                (first
                  | (go_at_call_of 89 (Value.int .i64 s : Value); have hS := ‹Below W2.heap.size W2 _ ∧ _›.1; refine (HC2.out _).mono ?_; rintro e w4 ⟨rfl, hb4⟩; have hS4 := hS.trans (hb4.mono hS.size); clear hS)
                  | (go_at_call_of 89 (Value.int .i64 n : Value); have hS := ‹Below W2.heap.size W2 _ ∧ _›.1; refine (HC3.out _).mono ?_; rintro e w5 ⟨rfl, hb5⟩; have hS5 := hS.trans (hb5.mono hS.size); clear hS))
              all_goals
                have hS := (‹Below W2.heap.size W2 _ ∧ _›).1
                have HN := Lib.hid (HBa.out.trans (hS.mono HBa.out.size))
                go_wp2_with fail
                refine ⟨⟨k + 1, L ++ [32, 38, 32] ++ [91] ++ t2 ++ [93] ++ [61] ++ t3, by omega, by go_num, ?_, Lib.hid (by rw [HL2.out, HTF.out, HEL.out]; simp), HA', HN.out⟩, by simp [intOf]; omega⟩
                simp [str, bytes_app]
        · have hok2 : atomTB ⟨o, r, s, n⟩ = false := by simpa using hok
          have HF : Hid (askTF xs = none) := Lib.hid (by
            have := allN_false (p := atomTB) HX.out hok2
            simp [askTF, this])
          clear hok
          cases hkn : knownB ⟨o, r, s, n⟩
          · rw [hkn] at hK
            have HK := Lib.hid hK
            clear hK hkk hkn hF hok2
            go_wp2_with (first | (go_at_call 26; refine (HK.out _).mono ?_; rintro e w' ⟨rfl, rfl⟩))
            exact bodyPost_ret (v := .tuple #[.string ⟨#[]⟩, .bool false]) (by simp [results, Tryz.results67, go_sem]) rfl ⟨by rw [HF.out]; rfl, HBa.out⟩
          · rw [hkn] at hK
            have HK := Lib.hid hK
            cases hst : strayB ⟨o, r, s, n⟩
            · have hst2 : (o == (1 : Int)) = false ∨ ((o == (1 : Int)) = true ∧ (r != (0 : Int)) = false) := by
                cases h1 : (o == (1 : Int))
                · exact .inl rfl
                · refine .inr ⟨rfl, ?_⟩
                  simpa [strayB, h1] using hst
              cases hv1 : valB r
              · have HV1 : Hid (∀ W : World, Calls Tryz.prog 88 #[.int .i64 r] W fun e w' => e = .returned (.bool false) ∧ W = w') := Lib.hid fun W => by have hq := l01Value r W; rw [hv1] at hq; exact hq
                clear hK hkk hkn hF hok2 hst hv1
                rcases hst2 with h1 | ⟨h1, h2⟩
                · go_wp2_with (first | (go_at_call 26; refine (HK.out _).mono ?_; rintro e w' ⟨rfl, rfl⟩) | (go_at_call_of 88 (Value.int .i64 r : Value); refine (HV1.out _).mono ?_; rintro e w' ⟨rfl, rfl⟩))
                  exact bodyPost_ret (v := .tuple #[.string ⟨#[]⟩, .bool false]) (by simp [results, Tryz.results67, go_sem]) rfl ⟨by rw [HF.out]; rfl, HBa.out⟩
                · go_wp2_with (first | (go_at_call 26; refine (HK.out _).mono ?_; rintro e w' ⟨rfl, rfl⟩) | (go_at_call_of 88 (Value.int .i64 r : Value); refine (HV1.out _).mono ?_; rintro e w' ⟨rfl, rfl⟩))
                  exact bodyPost_ret (v := .tuple #[.string ⟨#[]⟩, .bool false]) (by simp [results, Tryz.results67, go_sem]) rfl ⟨by rw [HF.out]; rfl, HBa.out⟩
              · have HV1 : Hid (∀ W : World, Calls Tryz.prog 88 #[.int .i64 r] W fun e w' => e = .returned (.bool true) ∧ W = w') := Lib.hid fun W => by have hq := l01Value r W; rw [hv1] at hq; exact hq
                cases hv2 : valB s
                · have HV2 : Hid (∀ W : World, Calls Tryz.prog 88 #[.int .i64 s] W fun e w' => e = .returned (.bool false) ∧ W = w') := Lib.hid fun W => by have hq := l01Value s W; rw [hv2] at hq; exact hq
                  clear hK hkk hkn hF hok2 hst hv1 hv2
                  rcases hst2 with h1 | ⟨h1, h2⟩
                  · go_wp2_with (first | (go_at_call 26; refine (HK.out _).mono ?_; rintro e w' ⟨rfl, rfl⟩) | (go_at_call_of 88 (Value.int .i64 r : Value); refine (HV1.out _).mono ?_; rintro e w' ⟨rfl, rfl⟩) | (go_at_call_of 88 (Value.int .i64 s : Value); refine (HV2.out _).mono ?_; rintro e w' ⟨rfl, rfl⟩))
                    exact bodyPost_ret (v := .tuple #[.string ⟨#[]⟩, .bool false]) (by simp [results, Tryz.results67, go_sem]) rfl ⟨by rw [HF.out]; rfl, HBa.out⟩
                  · go_wp2_with (first | (go_at_call 26; refine (HK.out _).mono ?_; rintro e w' ⟨rfl, rfl⟩) | (go_at_call_of 88 (Value.int .i64 r : Value); refine (HV1.out _).mono ?_; rintro e w' ⟨rfl, rfl⟩) | (go_at_call_of 88 (Value.int .i64 s : Value); refine (HV2.out _).mono ?_; rintro e w' ⟨rfl, rfl⟩))
                    exact bodyPost_ret (v := .tuple #[.string ⟨#[]⟩, .bool false]) (by simp [results, Tryz.results67, go_sem]) rfl ⟨by rw [HF.out]; rfl, HBa.out⟩
                · have HV2 : Hid (∀ W : World, Calls Tryz.prog 88 #[.int .i64 s] W fun e w' => e = .returned (.bool true) ∧ W = w') := Lib.hid fun W => by have hq := l01Value s W; rw [hv2] at hq; exact hq
                  have hv3 : valB n = false := by
                    rw [hF, hkn, hst, hv1, hv2] at hok2
                    simpa using hok2
                  have HV3 : Hid (∀ W : World, Calls Tryz.prog 88 #[.int .i64 n] W fun e w' => e = .returned (.bool false) ∧ W = w') := Lib.hid fun W => by have hq := l01Value n W; rw [hv3] at hq; exact hq
                  clear hK hkk hkn hF hok2 hst hv1 hv2 hv3
                  rcases hst2 with h1 | ⟨h1, h2⟩
                  · go_wp2_with (first | (go_at_call 26; refine (HK.out _).mono ?_; rintro e w' ⟨rfl, rfl⟩) | (go_at_call_of 88 (Value.int .i64 r : Value); refine (HV1.out _).mono ?_; rintro e w' ⟨rfl, rfl⟩) | (go_at_call_of 88 (Value.int .i64 s : Value); refine (HV2.out _).mono ?_; rintro e w' ⟨rfl, rfl⟩) | (go_at_call_of 88 (Value.int .i64 n : Value); refine (HV3.out _).mono ?_; rintro e w' ⟨rfl, rfl⟩))
                    exact bodyPost_ret (v := .tuple #[.string ⟨#[]⟩, .bool false]) (by simp [results, Tryz.results67, go_sem]) rfl ⟨by rw [HF.out]; rfl, HBa.out⟩
                  · go_wp2_with (first | (go_at_call 26; refine (HK.out _).mono ?_; rintro e w' ⟨rfl, rfl⟩) | (go_at_call_of 88 (Value.int .i64 r : Value); refine (HV1.out _).mono ?_; rintro e w' ⟨rfl, rfl⟩) | (go_at_call_of 88 (Value.int .i64 s : Value); refine (HV2.out _).mono ?_; rintro e w' ⟨rfl, rfl⟩) | (go_at_call_of 88 (Value.int .i64 n : Value); refine (HV3.out _).mono ?_; rintro e w' ⟨rfl, rfl⟩))
                    exact bodyPost_ret (v := .tuple #[.string ⟨#[]⟩, .bool false]) (by simp [results, Tryz.results67, go_sem]) rfl ⟨by rw [HF.out]; rfl, HBa.out⟩
            · have hs2 : (o == (1 : Int)) = true ∧ (r != (0 : Int)) = true := by simpa [strayB] using hst
              obtain ⟨h1, h2⟩ := hs2
              clear hK hkk hkn hF hok2 hst
              go_wp2_with (first | (go_at_call 26; refine (HK.out _).mono ?_; rintro e w' ⟨rfl, rfl⟩))
              exact bodyPost_ret (v := .tuple #[.string ⟨#[]⟩, .bool false]) (by simp [results, Tryz.results67, go_sem]) rfl ⟨by rw [HF.out]; rfl, HBa.out⟩
      · obtain rfl : k = xs.length := by omega
        have hA := HA.out
        rw [List.take_length] at hA
        have HF : Hid (askTF xs = some L) := Lib.hid (by
          have hLc := HL.out
          rw [List.take_length] at hLc
          unfold askTF
          rw [if_pos ⟨by omega, hA⟩, hLc])
        clear hA
        go_wp2_with fail
        exact bodyPost_ret (v := .tuple #[str L, .bool true]) (by simp [results, Tryz.results67, go_sem]) rfl ⟨by rw [HF.out]; rfl, hB⟩
end Go.Proofs.YtgbgjlmkmlhefaaGreatDoor
