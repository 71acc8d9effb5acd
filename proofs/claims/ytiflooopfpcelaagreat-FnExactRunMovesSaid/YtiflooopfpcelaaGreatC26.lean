/- Contract of impl.RunMoves. Condition: the program and the moves can be read; the number of cells is a 64-bit integer. -/
import Derived.Test.YtiflooopfpcelaaGreatC18
import Derived.Test.YtiflooopfpcelaaGreatK1
import Derived.Test.YtiflooopfpcelaaGreatV9
namespace Go.Proofs.YtiflooopfpcelaaGreat
set_option maxRecDepth 20000
set_option linter.unusedSimpArgs false
set_option linter.unusedVariables false
open Go.ChangeShapes Go.WideShapes Go.ChangeAt Go.RowKit
set_option linter.unusedVariables false
def RetMaI (M : Ma) (n : Int) (w : World) (e : Ending) (w' : World) : Prop :=
  ∃ mv tv bs, e = .returned (.tuple #[.agg #[mv, tv], .int .i64 n]) ∧ OwnMa w' mv tv M bs ∧ (∀ b ∈ bs, w.heap.size ≤ b) ∧ Below w.heap.size w w'
set_option maxHeartbeats 6400000 in
theorem impl_RunMoves (pv uv : Value) (p : Pr) (ms : List Mv) (w : World) (h : RdSS w pv p.x) (hv : Rd w uv 2 ms.length (mvCs ms)) (hw : (Lit.int .i64 p.c).wf = true) :
    Calls Tryz.prog 24 #[.agg #[.int .i64 p.c, pv], uv] w (RetMaI (rmM p ms) (rmN p ms) w) := by
  obtain ⟨vsp, ⟨Ap, cp, rfl, -, hnp, hcp, -⟩, -⟩ := id h
  obtain ⟨Av, cv, rfl, -, hnv, hcv, hrv⟩ := id hv
  unfold maxLen at hcp hcv
  have kp := (Bk.new w #[.int .i64 p.c, .slice Ap p.x.length cp] 43).alloc (.cells #[.slice none 0 0, .slice none 0 0] 38)
  have kr := Bk.new (w.alloc (.cells #[.int .i64 p.c, .slice Ap p.x.length cp] 43)) #[.slice none 0 0, .slice none 0 0] 38
  have hB0 := ((Below.refl w.heap.size w).alloc (Nat.le_refl _) (.cells #[.int .i64 p.c, .slice Ap p.x.length cp] 43)).alloc (by simp) (.cells #[.slice none 0 0, .slice none 0 0] 38)
  obtain ⟨W0, hW0⟩ : ∃ W0, W0 = (w.alloc (.cells #[.int .i64 p.c, .slice Ap p.x.length cp] 43)).alloc (.cells #[.slice none 0 0, .slice none 0 0] 38) := ⟨_, rfl⟩
  rw [← hW0] at kp kr hB0
  simp only [World.size_alloc] at kr
  have HW := Lib.hid hW0
  have HH := Lib.hid h
  have HV := Lib.hid hv
  have HRV := Lib.hid hrv
  have HB0 := Lib.hid hB0
  obtain ⟨p0, -⟩ := kp.at_ 0 (x := .int .i64 p.c) rfl
  obtain ⟨p1, -⟩ := kp.at_ 1 (x := .slice Ap p.x.length cp) rfl
  have hr0 := kr.lt
  clear hW0 hB0 h hv hrv
  go_enter Tryz.func24, Tryz.ntmps24
  go_wp2_with fail
  rw [← HW.out]
  try go_wp2_with fail
  refine (impl_Start _ p _ (HH.out.below HB0.out) hw).mono ?_
  rintro e w1 ⟨mv1, tv1, bs1, rfl, ho1, hlo1, hb1⟩
  obtain ⟨A1, c1, B1, d1, rfl, rfl⟩ := ho1.slices
  have kp2 := (kp.below hb1 kp.lt).alloc (.cells #[.slice A1 (startF p).mem.length c1, .slice B1 (startF p).ths.length d1] 38)
  have kr2 := (kr.below hb1 kr.lt).alloc (.cells #[.slice A1 (startF p).mem.length c1, .slice B1 (startF p).ths.length d1] 38)
  have km2 := Bk.new w1 #[.slice A1 (startF p).mem.length c1, .slice B1 (startF p).ths.length d1] 38
  have hB2 := (HB0.out.trans (hb1.mono HB0.out.size)).alloc (HB0.out.trans (hb1.mono HB0.out.size)).size (.cells #[.slice A1 (startF p).mem.length c1, .slice B1 (startF p).ths.length d1] 38)
  have ho2 := ho1.below ((Below.refl _ _).alloc (Nat.le_refl _) (.cells #[.slice A1 (startF p).mem.length c1, .slice B1 (startF p).ths.length d1] 38))
  have hi1 := ho1.lt
  have hs1 := hb1.size
  have hbs2 : ∀ b ∈ bs1, w.heap.size + 1 < b ∧ b ≠ w1.heap.size := fun b hb => by have := hlo1 b hb; have := hi1 b hb; omega
  have HB2 := Lib.hid hB2
  have HO2 := Lib.hid (And.intro ho2 hbs2)
  clear kp kr hb1 ho1 hB2 ho2 hbs2 hlo1 hi1 p0 p1
  cases hok : progOkF p
  · have HZ : Hid (rmM p ms = ⟨[], []⟩ ∧ rmN p ms = 0) := Lib.hid ⟨by simp [rmM, rmB, hok], by simp [rmN, rmB, hok]⟩
    clear hok
    obtain ⟨q0, e0⟩ := kr2.at_ 0 (x := .slice none 0 0) rfl
    obtain ⟨q1, e1⟩ := kr2.at_ 1 (x := .slice none 0 0) rfl
    have kf := (kr2.set_ 0 (.slice none 0 0)).set_ 1 (.slice none 0 0)
    obtain ⟨r0, -⟩ := kf.at_ 0 (x := .slice none 0 0) rfl
    obtain ⟨r1, -⟩ := kf.at_ 1 (x := .slice none 0 0) rfl
    have HE := Lib.hid ((HB2.out.setCell (p := ⟨w.heap.size + 1, 0, none⟩) (Nat.le_succ _) (.slice none 0 0)).setCell (p := ⟨w.heap.size + 1, 1, none⟩) (Nat.le_succ _) (.slice none 0 0))
    clear kf
    go_wp2_with fail
    exact bodyPost_ret (v := .tuple #[.agg #[.slice none 0 0, .slice none 0 0], .int .i64 0]) (by simp [results, Tryz.results24, go_sem, r0, r1]) rfl (by rw [HZ.out.1, HZ.out.2]; exact ⟨_, _, [], rfl, OwnMa.zero _, by simp, HE.out⟩)
  · have HOK := Lib.hid hok
    clear hok
    by_cases hlen : (300 : Int) < ms.length
    · have HZ : Hid (rmM p ms = ⟨[], []⟩ ∧ rmN p ms = 0) := Lib.hid (by
        have : ¬ ms.length ≤ 300 := by omega
        exact ⟨by simp [rmM, rmB, this], by simp [rmN, rmB, this]⟩)
      obtain ⟨q0, e0⟩ := kr2.at_ 0 (x := .slice none 0 0) rfl
      obtain ⟨q1, e1⟩ := kr2.at_ 1 (x := .slice none 0 0) rfl
      have kf := (kr2.set_ 0 (.slice none 0 0)).set_ 1 (.slice none 0 0)
      obtain ⟨r0, -⟩ := kf.at_ 0 (x := .slice none 0 0) rfl
      obtain ⟨r1, -⟩ := kf.at_ 1 (x := .slice none 0 0) rfl
      have HE := Lib.hid ((HB2.out.setCell (p := ⟨w.heap.size + 1, 0, none⟩) (Nat.le_succ _) (.slice none 0 0)).setCell (p := ⟨w.heap.size + 1, 1, none⟩) (Nat.le_succ _) (.slice none 0 0))
      clear kf
      go_wp2_with fail
      exact bodyPost_ret (v := .tuple #[.agg #[.slice none 0 0, .slice none 0 0], .int .i64 0]) (by simp [results, Tryz.results24, go_sem, r0, r1]) rfl (by rw [HZ.out.1, HZ.out.2]; exact ⟨_, _, [], rfl, OwnMa.zero _, by simp, HE.out⟩)
    · have HZ : Hid (rmM p ms = (rmAt p ms).1 ∧ rmN p ms = (rmAt p ms).2) := Lib.hid (by
        have : ms.length ≤ 300 := by omega
        exact ⟨by simp [rmM, rmB, this, HOK.out], by simp [rmN, rmB, this, HOK.out]⟩)
      go_wp2_with fail
      go_loopw [8, 28] (fun n i wr => ∃ (k : Nat) (M : Ma) (N : Int) (A B : Option Addr) (c d : Nat) (bs : List Nat), k ≤ ms.length ∧ i = .int .i64 k ∧ n = .int .i64 N ∧ 0 ≤ N ∧ N ≤ k ∧ Hid (rmAt p (ms.take k) = (M, N)) ∧ Bk wr w1.heap.size #[.slice A M.mem.length c, .slice B M.ths.length d] 38 ∧
        OwnMa wr (.slice A M.mem.length c) (.slice B M.ths.length d) M bs ∧ (∀ b ∈ bs, w.heap.size + 1 < b ∧ b ≠ w1.heap.size) ∧ Bk wr w.heap.size #[.int .i64 p.c, .slice Ap p.x.length cp] 43 ∧ Bk wr (w.heap.size + 1) #[.slice none 0 0, .slice none 0 0] 38 ∧ Below w.heap.size w wr) (fun _ i _ => ms.length - (intOf i).toNat)
      case atStart => exact ⟨0, startF p, 0, A1, B1, c1, d1, bs1, Nat.zero_le _, rfl, rfl, Int.le_refl _, Int.le_refl _, Lib.hid (by simp [rmAt]), km2, HO2.out.1, HO2.out.2, kp2, kr2, HB2.out⟩
      case round =>
        obtain ⟨k, M, N, A, B, c, d, bs, hk, rfl, rfl, hN0, hN1, HM, km, hO, hbs, kp, kr, hB⟩ := hrel
        clear km2 HO2 kp2 kr2 HB2
        have hlk : w1.heap.size < wr.heap.size := km.lt
        obtain ⟨m0, f0⟩ := km.at_ 0 (x := .slice A M.mem.length c) rfl
        obtain ⟨m1, f1⟩ := km.at_ 1 (x := .slice B M.ths.length d) rfl
        obtain ⟨p0, -⟩ := kp.at_ 0 (x := .int .i64 p.c) rfl
        obtain ⟨p1, -⟩ := kp.at_ 1 (x := .slice Ap p.x.length cp) rfl
        by_cases hlt : k < ms.length
        · obtain ⟨b, o, rfl, hbl, hcell⟩ := HRV.out (by omega)
          obtain ⟨x, HX, x0, x1⟩ := mv_at hcell hlt hB hbl
          have hok : machOk p M = true := by have := rmAt_ok (ms.take k) HOK.out; rw [HM.out] at this; exact this
          have htot := machOk_tot hok
          have hB3 := hB.alloc hB.size (.cells #[.int .i64 x.t, .bool x.d] 46)
          have kp3 := kp.alloc (.cells #[.int .i64 x.t, .bool x.d] 46)
          have kr3 := kr.alloc (.cells #[.int .i64 x.t, .bool x.d] 46)
          have km3 := km.alloc (.cells #[.int .i64 x.t, .bool x.d] 46)
          have kv3 := Bk.new wr #[.int .i64 x.t, .bool x.d] 46
          have hO3 := hO.below ((Below.refl _ _).alloc (Nat.le_refl _) (.cells #[.int .i64 x.t, .bool x.d] 46))
          have HS := Lib.hid (rmAt_take (p := p) HX.out)
          have HD := Lib.hid (impl_DoMove _ _ _ p M x _ (HH.out.below hB3) hO3.rd (by omega))
          have HK3 := Lib.hid (And.intro kp3 (And.intro kr3 (And.intro km3 (And.intro kv3 (And.intro hO3 hB3)))))
          obtain ⟨p3, -⟩ := kp3.at_ 0 (x := .int .i64 p.c) rfl
          obtain ⟨p4, -⟩ := kp3.at_ 1 (x := .slice Ap p.x.length cp) rfl
          obtain ⟨m3, -⟩ := km3.at_ 0 (x := .slice A M.mem.length c) rfl
          obtain ⟨m4, -⟩ := km3.at_ 1 (x := .slice B M.ths.length d) rfl
          clear kp3 kr3 km3 kv3 hO3 hB3 hcell km kp kr hO hB p0 p1 m0 m1 f0 f1
          go_wp2_with fail
          refine HD.out.mono ?_
          rintro e w5 ⟨mv5, tv5, bs5, rfl, ho5, hlo5, hb5⟩
          obtain ⟨A5, c5, B5, d5, rfl, rfl⟩ := ho5.slices
          obtain ⟨kp3, kr3, km3, kv3, hO3, hB3⟩ := HK3.out
          have kp5 := (kp3.below hb5 kp3.lt).alloc (.cells #[.slice A5 (doF p M x).mem.length c5, .slice B5 (doF p M x).ths.length d5] 38)
          have kr5 := (kr3.below hb5 kr3.lt).alloc (.cells #[.slice A5 (doF p M x).mem.length c5, .slice B5 (doF p M x).ths.length d5] 38)
          have km5 := (km3.below hb5 km3.lt).alloc (.cells #[.slice A5 (doF p M x).mem.length c5, .slice B5 (doF p M x).ths.length d5] 38)
          have hA5 := (Below.refl w5.heap.size w5).alloc (Nat.le_refl _) (.cells #[.slice A5 (doF p M x).mem.length c5, .slice B5 (doF p M x).ths.length d5] 38)
          have hO5 := (hO3.below hb5).below hA5
          have hB5 := (hB3.trans (hb5.mono hB3.size)).trans (hA5.mono (hB3.trans (hb5.mono hB3.size)).size)
          have ho5' := ho5.below hA5
          have hlo5' : ∀ b ∈ bs5, wr.heap.size + 1 ≤ b := fun b hb => by have := hlo5 b hb; simpa using this
          have hs5 := hb5.size
          have hN2 : IntKind.i64.wrap (N + 1) = N + 1 := IntWalk.i64_in _ (by omega)
          obtain ⟨y0, g0⟩ := km5.at_ 0 (x := .slice A M.mem.length c) rfl
          obtain ⟨y1, g1⟩ := km5.at_ 1 (x := .slice B M.ths.length d) rfl
          cases hcm : canMv p M x
          · have HT : Hid (rmAt p (ms.take (k + 1)) = (M, N)) := Lib.hid (by rw [HS.out, HM.out]; simp [rmS, hcm])
            have HK5 := Lib.hid (And.intro kp5 (And.intro kr5 (And.intro km5 (And.intro hO5 hB5))))
            clear kp5 kr5 km5 hO5 hB5 kp3 kr3 km3 kv3 hO3 hB3 hcm HD ho5 ho5'
            go_wp2_with fail
            obtain ⟨kp5, kr5, km5, hO5, hB5⟩ := HK5.out
            exact ⟨⟨k + 1, M, N, A, B, c, d, bs, by omega, by go_num, rfl, hN0, by omega, HT, km5, hO5, hbs, kp5, kr5, hB5⟩, by simp [intOf]; omega⟩
          · have HT : Hid (rmAt p (ms.take (k + 1)) = (doF p M x, N + 1)) := Lib.hid (by rw [HS.out, HM.out]; simp [rmS, hcm, doF])
            have kmn := (km5.set_ 0 (.slice A5 (doF p M x).mem.length c5)).set_ 1 (.slice B5 (doF p M x).ths.length d5)
            have kpn := (kp5.far (p := ⟨w1.heap.size, 0, none⟩) (by show w.heap.size ≠ w1.heap.size; omega) (.slice A5 (doF p M x).mem.length c5)).far (p := ⟨w1.heap.size, 1, none⟩) (by show w.heap.size ≠ w1.heap.size; omega) (.slice B5 (doF p M x).ths.length d5)
            have krn := (kr5.far (p := ⟨w1.heap.size, 0, none⟩) (by show w.heap.size + 1 ≠ w1.heap.size; omega) (.slice A5 (doF p M x).mem.length c5)).far (p := ⟨w1.heap.size, 1, none⟩) (by show w.heap.size + 1 ≠ w1.heap.size; omega) (.slice B5 (doF p M x).ths.length d5)
            have hOn := (ho5'.far (b := w1.heap.size) (k := 0) (u := .slice A5 (doF p M x).mem.length c5) fun b hb => by have := hlo5' b hb; omega).far (b := w1.heap.size) (k := 1) (u := .slice B5 (doF p M x).ths.length d5) fun b hb => by have := hlo5' b hb; omega
            have hBn := (hB5.setCell (p := ⟨w1.heap.size, 0, none⟩) (by show w.heap.size ≤ w1.heap.size; omega) (.slice A5 (doF p M x).mem.length c5)).setCell (p := ⟨w1.heap.size, 1, none⟩) (by show w.heap.size ≤ w1.heap.size; omega) (.slice B5 (doF p M x).ths.length d5)
            have HK5 := Lib.hid (And.intro kpn (And.intro krn (And.intro kmn (And.intro hOn hBn))))
            have hbn : ∀ b ∈ bs5, w.heap.size + 1 < b ∧ b ≠ w1.heap.size := fun b hb => by have := hlo5' b hb; omega
            clear kp5 kr5 km5 hO5 hB5 kp3 kr3 km3 kv3 hO3 hB3 hcm HD kmn kpn krn hOn hBn ho5 ho5'
            go_wp2_with fail
            obtain ⟨kp5, kr5, km5, hO5, hB5⟩ := HK5.out
            exact ⟨⟨k + 1, doF p M x, N + 1, A5, B5, c5, d5, bs5, by omega, by go_num, by go_num, by omega, by omega, HT, km5, hO5, hbn, kp5, kr5, hB5⟩, by simp [intOf]; omega⟩
        · obtain rfl : k = ms.length := by omega
          have HT := HM.out
          rw [List.take_length] at HT
          have HT := Lib.hid HT
          obtain ⟨q0, e0⟩ := kr.at_ 0 (x := .slice none 0 0) rfl
          obtain ⟨q1, e1⟩ := kr.at_ 1 (x := .slice none 0 0) rfl
          have kf := (kr.set_ 0 (.slice A M.mem.length c)).set_ 1 (.slice B M.ths.length d)
          obtain ⟨r0, -⟩ := kf.at_ 0 (x := .slice A M.mem.length c) rfl
          obtain ⟨r1, -⟩ := kf.at_ 1 (x := .slice B M.ths.length d) rfl
          have hof := (hO.far (b := w.heap.size + 1) (k := 0) (u := .slice A M.mem.length c) fun b hb => by have := hbs b hb; omega).far (b := w.heap.size + 1) (k := 1) (u := .slice B M.ths.length d) fun b hb => by have := hbs b hb; omega
          have hBf := (hB.setCell (p := ⟨w.heap.size + 1, 0, none⟩) (Nat.le_succ _) (.slice A M.mem.length c)).setCell (p := ⟨w.heap.size + 1, 1, none⟩) (Nat.le_succ _) (.slice B M.ths.length d)
          have HE := Lib.hid (And.intro hof (And.intro (fun b hb => by have := hbs b hb; omega : ∀ b ∈ bs, w.heap.size ≤ b) hBf))
          clear kf hof hBf
          go_wp2_with fail
          exact bodyPost_ret (v := .tuple #[.agg #[.slice A M.mem.length c, .slice B M.ths.length d], .int .i64 N]) (by simp [results, Tryz.results24, go_sem, r0, r1]) rfl (by rw [HZ.out.1, HZ.out.2, HT.out]; exact ⟨_, _, bs, rfl, HE.out.1, HE.out.2.1, HE.out.2.2⟩)
end Go.Proofs.YtiflooopfpcelaaGreat
