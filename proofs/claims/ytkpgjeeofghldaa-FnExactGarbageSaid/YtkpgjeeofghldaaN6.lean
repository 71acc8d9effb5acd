/- Contract of impl.BenchOk. Conditions: the bench's rows can be read and hold numbers of 64 bits; lengths that a law bounds. -/
import Derived.Test.YtkpgjeeofghldaaN5
import Derived.Test.YtkpgjeeofghldaaN3
namespace Go.Proofs.Ytkpgjeeofghldaa
set_option maxRecDepth 20000
set_option linter.unusedSimpArgs false
set_option linter.unusedVariables false
open Go.ChangeShapes Go.WideShapes Go.ChangeAt Go.RowKit Go.Maps
set_option linter.unusedVariables false
theorem bnOk_split {B : Bn} (h : 1 ≤ B.n ∧ B.n ≤ 61) : bnOk B = (eoOk B && (decide (B.l.Pairwise (· ≤ ·)) && hdOk B)) := by
  rw [Bool.eq_iff_iff, bnOk_iff, Bool.and_eq_true, Bool.and_eq_true]
  unfold eoOk hdOk
  rw [decide_eq_true_iff, decide_eq_true_iff, decide_eq_true_iff]
  constructor
  · rintro ⟨-, h2, h3, h4⟩
    exact ⟨h2, h3.imp (fun h => by omega), h4⟩
  · rintro ⟨⟨h1, h2, h3⟩, h4, h5, h6⟩
    exact bnOk_by h h1 h2 h3 h4 h5 h6
theorem bnOk_out {B : Bn} (h : ¬ (1 ≤ B.n ∧ B.n ≤ 61)) : bnOk B = false := bnOk_no fun hb => h hb.1
set_option maxHeartbeats 3200000 in
theorem impl_BenchOk (a b c d : Value) (B : Bn) (w : World) (r : RdBn w a b c d B) (hw : BnR B) (hsz : szBn B ≤ 16777216) :
    Calls Try.prog 14 #[.agg #[a, b, c, d, .int .i64 B.n]] w fun e w' => e = .returned (.bool (bnOk B)) ∧ Below w.heap.size w w' := by
  obtain ⟨A1, c1, A2, c2, A3, c3, A4, c4, ⟨rfl, rfl, rfl, rfl⟩, ⟨g1, g2, g3, g4⟩, ⟨k1, k2, k3, k4⟩⟩ := r.slices
  have hB0 := (Below.refl w.heap.size w).alloc (Nat.le_refl _) (.cells #[.slice A1 B.l.length c1, .slice A2 B.h.length c2, .slice A3 B.w.length c3, .slice A4 B.f.length c4, .int .i64 B.n] 30)
  have k0 := Bk.new w #[.slice A1 B.l.length c1, .slice A2 B.h.length c2, .slice A3 B.w.length c3, .slice A4 B.f.length c4, .int .i64 B.n] 30
  by_cases hn1 : 1 ≤ B.n
  case neg =>
    have HO := Lib.hid (bnOk_out (B := B) (by omega))
    clear r hw hsz
    go_enter Try.func14, Try.ntmps14
    go_wp2_with fail
    go_ret
    exact ⟨ret_bool HO.out.symm, hB0⟩
  by_cases hn2 : B.n ≤ 61
  case neg =>
    have HO := Lib.hid (bnOk_out (B := B) (by omega))
    clear r hw hsz
    go_enter Try.func14, Try.ntmps14
    go_wp2_with fail
    go_ret
    exact ⟨ret_bool HO.out.symm, hB0⟩
  have HS := Lib.hid (bnOk_split ⟨hn1, hn2⟩)
  have r1 := r.below hB0
  have hE := impl_everyObjectOnce _ _ _ _ B _ r1 ⟨hn1, hn2⟩ hw hsz
  have HR := Lib.hid r1
  have HE := Lib.hid hE
  have HSZ := Lib.hid hsz
  clear hE r r1 hw hsz
  cases he : eoOk B
  · have HO : Hid (bnOk B = false) := Lib.hid (by rw [HS.out, he]; rfl)
    rw [he] at HE
    clear he
    go_enter Try.func14, Try.ntmps14
    go_wp2_with (go_at_call 20; refine HE.out.mono ?_; rintro e w1 ⟨rfl, hb1⟩)
    go_ret
    exact ⟨ret_bool HO.out.symm, hB0.trans (hb1.mono hB0.size)⟩
  · rw [he] at HE
    cases hp : decide (B.l.Pairwise (· ≤ ·))
    · have HO : Hid (bnOk B = false) := Lib.hid (by rw [HS.out, he, hp]; rfl)
      have HP := Lib.hid hp
      clear he hp
      go_enter Try.func14, Try.ntmps14
      go_wp2_with (first
        | (go_at_call 20; refine HE.out.mono ?_; rintro e w1 ⟨rfl, hb1⟩; obtain ⟨t0, -⟩ := (k0.below hb1 k0.lt).at_ 0 (x := .slice A1 B.l.length c1) rfl)
        | (go_at_call 21; refine (isSorted_int _ B.l _ (HR.out.below hb1).l).mono ?_; rintro e w2 ⟨rfl, nq, rfl⟩; rw [HP.out]))
      go_ret
      exact ⟨ret_bool HO.out.symm, below_more (hB0.trans (hb1.mono hB0.size)) _⟩
    · have HO : Hid (bnOk B = hdOk B) := Lib.hid (by rw [HS.out, he, hp]; rfl)
      have HP := Lib.hid hp
      clear he hp
      go_enter Try.func14, Try.ntmps14
      go_wp2_with (first
        | (go_at_call 20; refine HE.out.mono ?_; rintro e w1 ⟨rfl, hb1⟩; have kk := k0.below hb1 k0.lt; obtain ⟨t0, -⟩ := kk.at_ 0 (x := .slice A1 B.l.length c1) rfl; obtain ⟨t1, -⟩ := kk.at_ 1 (x := .slice A2 B.h.length c2) rfl; obtain ⟨t2, -⟩ := kk.at_ 2 (x := .slice A3 B.w.length c3) rfl; obtain ⟨t3, -⟩ := kk.at_ 3 (x := .slice A4 B.f.length c4) rfl; obtain ⟨t4, -⟩ := kk.at_ 4 (x := .int .i64 B.n) rfl)
        | (go_at_call 21; refine (isSorted_int _ B.l _ (HR.out.below hb1).l).mono ?_; rintro e w2 ⟨rfl, nq, rfl⟩; rw [HP.out])
        | (go_at_call 22; refine (impl_holdsOk _ _ _ _ B _ ((HR.out.below hb1).below (below_drewN _ _)) hn2 HSZ.out).mono ?_; rintro e w3 ⟨rfl, hb3⟩))
      go_ret
      have hB1 := below_more (hB0.trans (hb1.mono hB0.size)) nq
      exact ⟨ret_bool HO.out.symm, hB1.trans (hb3.mono hB1.size)⟩
end Go.Proofs.Ytkpgjeeofghldaa
