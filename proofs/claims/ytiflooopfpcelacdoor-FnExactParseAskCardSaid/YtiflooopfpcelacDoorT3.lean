/- The text of an instruction, as the model makes it. Condition: the fields are integers of 64 bits. -/
import Derived.Test.YtiflooopfpcelacDoorNum
import Derived.Test.YtiflooopfpcelacDoorS2b
namespace Go.Proofs.YtiflooopfpcelacDoor
set_option maxRecDepth 20000
set_option linter.unusedSimpArgs false
set_option linter.unusedVariables false
open Go.ChangeShapes Go.WideShapes Go.ChangeAt Go.RowKit
set_option linter.unusedVariables false
def wordTab : List (List UInt8) := [[115, 101, 116], [97, 100, 100], [108, 111, 97, 100], [115, 116, 111, 114, 101], [102, 101, 110, 99, 101], [99, 97, 115], [106, 122], [115, 119, 97, 112], [115, 117, 98]]
def wordF (o : Int) : List UInt8 := wordTab.getD o.toNat []
def fldF (i : Ins) (c : UInt8) : Int := if c = 114 then i.r else if c = 115 then i.s else i.n
def argF (i : Ins) (c : UInt8) : List UInt8 := 32 :: Lib.itoa (fldF i c)
def instrTF (i : Ins) : List UInt8 := if inB i.o 0 8 then wordF i.o ++ (formF i.o).flatMap (argF i) else []
def Rng (x : Int) : Prop := -9223372036854775808 ≤ x ∧ x ≤ 9223372036854775807
def InsR (i : Ins) : Prop := Rng i.o ∧ Rng i.r ∧ Rng i.s ∧ Rng i.n
theorem fldF_rng {i : Ins} (h : InsR i) (c : UInt8) : Rng (fldF i c) := by
  unfold fldF
  split
  · exact h.2.1
  · split
    · exact h.2.2.1
    · exact h.2.2.2
theorem argF_len {i : Ins} (h : InsR i) (c : UInt8) : (argF i c).length ≤ 21 := by
  have := digs_len (fldF_rng h c)
  simp [argF]
  omega
theorem formF_mem {o : Int} (h : inB o 0 8 = true) : ∀ c ∈ formF o, c = 114 ∨ c = 115 ∨ c = 110 := by
  rcases op_cases h with rfl | rfl | rfl | rfl | rfl | rfl | rfl | rfl | rfl <;> decide
theorem wordF_len {o : Int} (h : inB o 0 8 = true) : (wordF o).length ≤ 5 := by
  rcases op_cases h with rfl | rfl | rfl | rfl | rfl | rfl | rfl | rfl | rfl <;> decide
theorem flat_len {i : Ins} (h : InsR i) : ∀ l : List UInt8, (l.flatMap (argF i)).length ≤ 21 * l.length
  | [] => by simp
  | c :: l => by
    have h1 := argF_len h c
    have h2 := flat_len h l
    simp only [List.flatMap_cons, List.length_append, List.length_cons]
    omega
theorem instrTF_len {i : Ins} (h : InsR i) : (instrTF i).length ≤ 68 := by
  unfold instrTF
  split
  · rename_i hin
    have h1 := wordF_len hin
    have h2 := flat_len h (formF i.o)
    have h3 := formF_len i.o
    rw [List.length_append]
    omega
  · simp
set_option maxHeartbeats 1600000 in
theorem l02Word (o : Int) (w : World) (hin : inB o 0 8 = true) :
    Calls Tryd.prog 78 #[.int .i64 o] w fun e w' => e = .returned (str (wordF o)) ∧ Below w.heap.size w w' := by
  rcases op_cases hin with rfl | rfl | rfl | rfl | rfl | rfl | rfl | rfl | rfl
  all_goals
    go_enter Tryd.func78, Tryd.ntmps78
    go_wp2_with fail
    go_ret
    exact ⟨rfl, (Below.refl _ _).alloc (Nat.le_refl _) _⟩
set_option maxHeartbeats 1600000 in
theorem spec_InstrText (x : Ins) (w : World) (hR : InsR x) :
    Calls Tryd.prog 40 #[(Value.agg #[.int .i64 x.o, .int .i64 x.r, .int .i64 x.s, .int .i64 x.n])] w fun e w' => e = .returned (str (instrTF x)) ∧ Below w.heap.size w w' := by
  obtain ⟨o, r, s, n⟩ := x
  have hB0 := (Below.refl w.heap.size w).alloc (Nat.le_refl _) (.cells #[.int .i64 o, .int .i64 r, .int .i64 s, .int .i64 n] 68)
  have k0 := Bk.new w #[.int .i64 o, .int .i64 r, .int .i64 s, .int .i64 n] 68
  cases hin : inB o 0 8
  · have HF : Hid (instrTF ⟨o, r, s, n⟩ = []) := Lib.hid (by simp [instrTF, hin])
    have HB := Lib.hid hB0
    clear hB0
    go_enter Tryd.func40, Tryd.ntmps40
    go_wp2_with fail
    refine (l01In _ _ _ _).mono ?_
    rintro e w' ⟨rfl, rfl⟩
    rw [hin]
    go_wp2_with fail
    go_ret
    exact ⟨ret_str HF.out.symm, HB.out⟩
  · have hl := formF_len o
    have hwl := wordF_len hin
    have HM := Lib.hid (formF_mem hin)
    obtain ⟨f, hf⟩ : ∃ f, formF o = f := ⟨_, rfl⟩
    obtain ⟨W, hW⟩ : ∃ W, wordF o = W := ⟨_, rfl⟩
    have HF : Hid (instrTF ⟨o, r, s, n⟩ = W ++ f.flatMap (argF ⟨o, r, s, n⟩)) := Lib.hid (by simp [instrTF, hin, hf, hW])
    rw [hf] at hl HM
    rw [hW] at hwl
    have hcW := l02Word o
    have hcF := l02Form o
    rw [hW] at hcW
    rw [hf] at hcF
    have HCW := Lib.hid fun w => hcW w hin
    have HCF := Lib.hid hcF
    have HIN := Lib.hid hin
    have HRr := Lib.hid hR
    have hsz : (⟨f.toArray⟩ : ByteArray).size = f.length := by show f.toArray.size = _; simp
    clear hf hW hcW hcF hR
    go_enter Tryd.func40, Tryd.ntmps40
    go_wp2_with fail
    refine (l01In _ _ _ _).mono ?_
    rintro e w' ⟨rfl, rfl⟩
    rw [hin]
    clear hin
    go_wp2_with fail
    refine (HCW.out _).mono ?_
    rintro e w1 ⟨rfl, hb1⟩
    have k1 := k0.below hb1 k0.lt
    have hB1 := hB0.trans (hb1.mono hB0.size)
    obtain ⟨hc0, -⟩ := k1.at_ 0 rfl
    go_wp2_with fail
    refine (HCF.out _).mono ?_
    rintro e w2 ⟨rfl, hb2⟩
    have k2 := k1.below hb2 k1.lt
    have hB2 := hB1.trans (hb2.mono hB1.size)
    clear hc0 hB0 hB1 k0 k1 hb1 hb2
    go_wp2_with fail
    go_loopw [3, 5] (fun t i wr => ∃ (k : Nat) (L : List UInt8), k ≤ f.length ∧ i = .int .i64 k ∧ t = str L ∧ Hid (L = W ++ (f.take k).flatMap (argF ⟨o, r, s, n⟩)) ∧ Below w.heap.size w wr ∧ Bk wr w.heap.size #[.int .i64 o, .int .i64 r, .int .i64 s, .int .i64 n] 68) (fun _ i _ => f.length - (intOf i).toNat)
    case atStart => exact ⟨0, W, Nat.zero_le _, rfl, rfl, Lib.hid (by simp), hB2, k2⟩
    case round =>
      obtain ⟨k, L, hk, rfl, rfl, HL, hB, kr⟩ := hrel
      clear hB2 k2
      have krl := kr.lt
      by_cases hlt : k < f.length
      · have hks : k < (⟨f.toArray⟩ : ByteArray).size := by rw [hsz]; exact hlt
        obtain ⟨c, hc⟩ : ∃ c, f[k]? = some c := ⟨f[k], List.getElem?_eq_getElem hlt⟩
        have hE : ((⟨f.toArray⟩ : ByteArray)[k]'hks) = c := by
          have h1 : f[k] = c := by rw [List.getElem?_eq_getElem hlt] at hc; injection hc
          rw [← h1]
          rfl
        have HT : Hid (W ++ (f.take (k + 1)).flatMap (argF ⟨o, r, s, n⟩) = L ++ argF ⟨o, r, s, n⟩ c) := Lib.hid (by rw [List.take_add_one, hc, HL.out]; simp)
        have hLl : L.length ≤ 5 + 21 * k := by
          rw [HL.out, List.length_append]
          have := flat_len HRr.out (f.take k)
          rw [List.length_take] at this
          omega
        have hm := HM.out c (List.mem_of_getElem? hc)
        have HV := Lib.hid hE
        clear hc hE
        rcases hm with rfl | rfl | rfl
        all_goals
          have hv : ((((⟨f.toArray⟩ : ByteArray)[k]'hks).toNat : Int)) = _ := congrArg (fun u : UInt8 => (u.toNat : Int)) HV.out
        · have hr2 := digs_len HRr.out.2.1
          obtain ⟨hc1, -⟩ := kr.at_ 1 rfl
          go_wp2_with fail
          refine (l01Num r _ HRr.out.2.1).mono ?_
          rintro e w3 ⟨rfl, hb3⟩
          go_wp2_with fail
          refine ⟨⟨k + 1, L ++ argF ⟨o, r, s, n⟩ 114, by omega, by go_num, ?_, Lib.hid HT.out.symm, hB.trans (hb3.mono hB.size), kr.below hb3 krl⟩, by simp [intOf]; omega⟩
          exact congrArg Value.string (((congrArg (· ++ _) (bytes_app L [32])).trans (bytes_app _ _)).trans (by simp [argF, fldF]))
        · have hr2 := digs_len HRr.out.2.2.1
          obtain ⟨hc1, -⟩ := kr.at_ 2 rfl
          go_wp2_with fail
          refine (l01Num s _ HRr.out.2.2.1).mono ?_
          rintro e w3 ⟨rfl, hb3⟩
          go_wp2_with fail
          refine ⟨⟨k + 1, L ++ argF ⟨o, r, s, n⟩ 115, by omega, by go_num, ?_, Lib.hid HT.out.symm, hB.trans (hb3.mono hB.size), kr.below hb3 krl⟩, by simp [intOf]; omega⟩
          exact congrArg Value.string (((congrArg (· ++ _) (bytes_app L [32])).trans (bytes_app _ _)).trans (by simp [argF, fldF]))
        · have hr2 := digs_len HRr.out.2.2.2
          obtain ⟨hc1, -⟩ := kr.at_ 3 rfl
          go_wp2_with fail
          refine (l01Num n _ HRr.out.2.2.2).mono ?_
          rintro e w3 ⟨rfl, hb3⟩
          go_wp2_with fail
          refine ⟨⟨k + 1, L ++ argF ⟨o, r, s, n⟩ 110, by omega, by go_num, ?_, Lib.hid HT.out.symm, hB.trans (hb3.mono hB.size), kr.below hb3 krl⟩, by simp [intOf]; omega⟩
          exact congrArg Value.string (((congrArg (· ++ _) (bytes_app L [32])).trans (bytes_app _ _)).trans (by simp [argF, fldF]))
      · obtain rfl : k = f.length := by omega
        have HN := HL.out
        rw [List.take_length, ← HF.out] at HN
        have HN := Lib.hid HN
        go_wp2_with fail
        go_ret
        exact ⟨ret_str HN.out, hB⟩
end Go.Proofs.YtiflooopfpcelacDoor
