/- A word as a number, the program's way: strconv.Atoi and strconv.Itoa. Asks for the library's table and for its two error variables. -/
import Derived.Test.YtgbgjlmkmlhefaaGreatDoorT1
import Derived.Test.YtgbgjlmkmlhefaaGreatDoorShelfP
import Derived.Lib.AtoiErrMem
namespace Go.Proofs.YtgbgjlmkmlhefaaGreatDoor
set_option maxRecDepth 20000
set_option linter.unusedSimpArgs false
set_option linter.unusedVariables false
open Go.ChangeShapes Go.WideShapes Go.ChangeAt Go.RowKit
set_option linter.unusedVariables false
def parseF (s : List UInt8) : Option Int :=
  match Lib.atoiAll s with
  | .ok v => if Lib.itoa v = s then some v else none
  | _ => none
theorem atoiAll_range {s : List UInt8} {v : Int} (h : Lib.atoiAll s = .ok v) : -9223372036854775808 ≤ v ∧ v ≤ 9223372036854775807 := by
  unfold Lib.atoiAll at h
  cases s with
  | nil => cases h
  | cons c r =>
    simp only at h
    split at h
    · cases h
    · cases h
    · split at h
      · cases h
      · split at h
        · cases h
        · injection h with h
          subst h
          split <;> omega
def Errs (w : World) : Prop := (∃ tp p, w.var? Tryz.prog "strconv.ErrSyntax" = some #[.iface tp p]) ∧ (∃ tp p, w.var? Tryz.prog "strconv.ErrRange" = some #[.iface tp p])
theorem atoi_no (s : List UInt8) (w : World) (hs : s.length ≤ 1099511627776) (he : Errs w) (h : ∀ v, Lib.atoiAll s ≠ .ok v) :
    Calls Tryz.prog 85 #[str s] w fun e w' => (∃ x t N, e = .returned (.tuple #[.int .i64 x, .iface t (.pointer (some ⟨N, 0, none⟩))])) ∧ Below w.heap.size w w' := by
  obtain ⟨⟨t1, p1, h1⟩, ⟨t2, p2, h2⟩⟩ := he
  have hz : (⟨s.toArray⟩ : ByteArray).size ≤ 281474976710656 := by
    show s.toArray.size ≤ _
    simp
    omega
  have hl : Lib.atoiAll (⟨s.toArray⟩ : ByteArray).data.toList = Lib.atoiAll s := congrArg Lib.atoiAll (by simp)
  rcases ha : Lib.atoiAll s with v | _ | _
  · exact absurd ha (h v)
  · refine (Tryz.strconv_Atoi_syntax_var ⟨s.toArray⟩ hz (hl.trans ha) t1 p1 w h1).mono ?_
    rintro e w' ⟨N, rfl, _, _, hb⟩
    exact ⟨⟨_, _, N, rfl⟩, hb⟩
  · refine (Tryz.strconv_Atoi_range_var ⟨s.toArray⟩ hz (hl.trans ha) t2 p2 w h2).mono ?_
    rintro e w' ⟨N, rfl, _, _, hb⟩
    exact ⟨⟨_, _, N, rfl⟩, hb⟩
theorem atoi_yes (s : List UInt8) (v : Int) (w : World) (hs : s.length ≤ 1099511627776) (h : Lib.atoiAll s = .ok v) :
    Calls Tryz.prog 85 #[str s] w fun e w' => e = .returned (.tuple #[.int .i64 v, .nilIface]) ∧ Below w.heap.size w w' := by
  refine (Tryz.strconv_Atoi_ok ⟨s.toArray⟩ (by show s.toArray.size ≤ _; simp; omega) v (by simpa using h) w).mono ?_
  rintro e w' ⟨rfl, rfl | ⟨t, rfl⟩⟩
  · exact ⟨rfl, Below.refl _ _⟩
  · exact ⟨rfl, Lib.bytesWorld_below _ _ _⟩
set_option maxRecDepth 20000 in
set_option maxHeartbeats 1000000 in
theorem impl_parseNumber (s : List UInt8) (w : World) (hs : s.length ≤ 1099511627776) (ht : Tab w) (he : Errs w) :
    Calls Tryz.prog 61 #[str s] w fun e w' => e = .returned (.tuple #[.int .i64 ((parseF s).getD 0), .bool (parseF s).isSome]) ∧ Below w.heap.size w w' := by
  by_cases h : ∃ v, Lib.atoiAll s = .ok v
  · obtain ⟨v, hv⟩ := h
    have hr := atoiAll_range hv
    have HT := Lib.hid ht
    have HV := Lib.hid hv
    clear ht hv
    have hcase : (Lib.itoa v == s) = true ∧ Hid (parseF s = some v) ∨ (Lib.itoa v == s) = false ∧ Hid (parseF s = none) := by
      by_cases hq : Lib.itoa v = s
      · exact .inl ⟨by simp [hq], Lib.hid (by unfold parseF; rw [HV.out]; simp [hq])⟩
      · exact .inr ⟨by simp [hq], Lib.hid (by unfold parseF; rw [HV.out]; simp [hq])⟩
    rcases hcase with ⟨hq, HP⟩ | ⟨hq, HP⟩
    · go_enter Tryz.func61, Tryz.ntmps61
      go_wp2_with fail
      refine (atoi_yes s v _ hs HV.out).mono ?_
      rintro e w1 ⟨rfl, hb1⟩
      go_wp2_with fail
      refine (itoa_call v _ hr (HT.out.below hb1 (Nat.le_refl _))).mono ?_
      rintro e w2 ⟨rfl, hb2⟩
      go_wp2_with fail
      exact bodyPost_ret (v := .tuple #[.int .i64 v, .bool true]) (by simp [results, Tryz.results61, go_sem]) rfl ⟨by rw [HP.out]; rfl, hb1.trans (hb2.mono hb1.size)⟩
    · go_enter Tryz.func61, Tryz.ntmps61
      go_wp2_with fail
      refine (atoi_yes s v _ hs HV.out).mono ?_
      rintro e w1 ⟨rfl, hb1⟩
      go_wp2_with fail
      refine (itoa_call v _ hr (HT.out.below hb1 (Nat.le_refl _))).mono ?_
      rintro e w2 ⟨rfl, hb2⟩
      go_wp2_with fail
      exact bodyPost_ret (v := .tuple #[.int .i64 0, .bool false]) (by simp [results, Tryz.results61, go_sem]) rfl ⟨by rw [HP.out]; rfl, hb1.trans (hb2.mono hb1.size)⟩
  · have HN : Hid (∀ v, Lib.atoiAll s ≠ .ok v) := Lib.hid fun v hv => h ⟨v, hv⟩
    have HP : Hid (parseF s = none) := Lib.hid (by
      unfold parseF
      rcases ha : Lib.atoiAll s with v | _ | _
      · exact absurd ha (HN.out v)
      · rfl
      · rfl)
    clear h
    go_enter Tryz.func61, Tryz.ntmps61
    go_wp2_with fail
    refine (atoi_no s _ hs he HN.out).mono ?_
    rintro e w1 ⟨⟨x, t, N, rfl⟩, hb1⟩
    go_wp2_with fail
    exact bodyPost_ret (v := .tuple #[.int .i64 0, .bool false]) (by simp [results, Tryz.results61, go_sem]) rfl ⟨by rw [HP.out]; rfl, hb1⟩
end Go.Proofs.YtgbgjlmkmlhefaaGreatDoor
