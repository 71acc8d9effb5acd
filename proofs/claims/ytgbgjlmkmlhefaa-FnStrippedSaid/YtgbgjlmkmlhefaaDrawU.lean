/- Contracts of the draws of a program and of spots in it (package spec). Conditions: the cursor's bytes can be read. -/
import Derived.Test.YtgbgjlmkmlhefaaDrawT
import Derived.Test.YtgbgjlmkmlhefaaF4
namespace Go.Proofs.Ytgbgjlmkmlhefaa
set_option maxRecDepth 20000
set_option linter.unusedSimpArgs false
set_option linter.unusedVariables false
open Go.ChangeShapes Go.WideShapes Go.ChangeAt Go.RowKit
set_option linter.unusedVariables false
/-- a drawn program, perhaps bent -/
def DrawnQ (B lo g : Nat) (w : World) (e : Ending) (w' : World) : Prop :=
  ∃ (v : Value) (c : Int) (xss : List (List Ins)) (lo1 : Nat), e = .returned (.agg #[.int .i64 c, v]) ∧ SmallL xss ∧ g < lo1 ∧ ProgOwn w' lo1 v xss ∧ Cur lo w' g ∧ Below B w w' ∧ ∀ b cs, Bk w b cs 33 → b ≠ g → Bk w' b cs 33
theorem slice_of {w : World} {lo : Nat} {v : Value} {xss : List (List Ins)} (h : ProgOwn w lo v xss) : ∃ A c, v = .slice A xss.length c := by
  obtain ⟨vs, h1, -⟩ := h
  obtain ⟨A, c, e, -, -⟩ := owns_slice h1
  exact ⟨A, c, e⟩
set_option maxHeartbeats 2000000 in
theorem l05DrawProg (g : Nat) (w : World) {lo : Nat} (h : Cur lo w g) :
    Calls Try.prog 67 #[.pointer (some ⟨g, 0, none⟩)] w (DrawnQ g lo g w) := by
  have hg := h.lt
  have k0 := Bk.new w #[.int .i64 0, .slice none 0 0] 33
  have hb0 := (Below.refl w.heap.size w).alloc (Nat.le_refl _) (.cells #[.int .i64 0, .slice none 0 0] 33)
  have hc0 := h.below hb0
  have hO0 := Only.of_below hb0 [g]
  clear hb0 h
  go_enter Try.func67, Try.ntmps67
  go_wp2_with fail
  refine (l02DrawProg g 4 _ hc0 (by omega)).mono ?_
  rintro e w3 ⟨v3, c3, xss, lo1, rfl, hc30, hx3, hS, hlo, hP, hc4, ho4⟩
  rw [World.size_alloc] at hlo
  have k3 := k0.only ho4 (by simp; omega)
  have hO3 := hO0.trans ho4
  obtain ⟨Av, cv, rfl⟩ := slice_of hP
  obtain ⟨m, hm⟩ : ∃ m, xss.length = m := ⟨_, rfl⟩
  have HP := Lib.hid (And.intro hP (And.intro hS hx3))
  rw [hm] at HP ⊢
  have HM := Lib.hid hm
  clear hP hS hx3 k0 hm hc0 hO0 ho4
  have k4 := Bk.new w3 #[.int .i64 c3, .slice Av m cv] 33
  have k5 := k3.alloc (.cells #[.int .i64 c3, .slice Av m cv] 33)
  have hb5 := (Below.refl _ w3).alloc (Nat.le_refl _) (.cells #[.int .i64 c3, .slice Av m cv] 33)
  have hc5 := hc4.below hb5
  have hO5 := hO3.trans (Only.of_below hb5 [g])
  have HP5 := Lib.hid (HP.out.1.below hb5)
  have hz3 := hO3.size
  have hk3 := k3.lt
  go_wp2_with fail
  refine (l01Once g 30 _ hc5 (WalkArith.wf_i64 (by omega))).mono ?_
  rintro e w6 ⟨b, rfl, hc6, ho6⟩
  have k46 := k4.only ho6 (by simp; omega)
  have k56 := k5.only ho6 (by simp; omega)
  have hO6 := hO5.trans ho6
  have hP6 := HP5.out.only ho6 (by omega)
  have HM6 := Lib.hid hP6
  have HO6 := Lib.hid hO6
  clear k4 k5 hb5 hc5 hO5 hO3 hc4 hP6 ho6 k3 hO6
  cases b
  · obtain ⟨hb0, hbf0⟩ := k46.at_ 0 rfl
    obtain ⟨hb1, hbf1⟩ := k46.at_ 1 rfl
    obtain ⟨ha0, haf0⟩ := k56.at_ 0 rfl
    obtain ⟨ha1, haf1⟩ := k56.at_ 1 rfl
    have kF := (k56.set_ 0 (.int .i64 c3)).set_ 1 (.slice Av m cv)
    obtain ⟨hr0, -⟩ := kF.at_ 0 rfl
    obtain ⟨hr1, -⟩ := kF.at_ 1 rfl
    have HC6 := Lib.hid hc6
    clear hc6
    go_wp2_with fail
    exact bodyPost_ret (v := .agg #[.int .i64 c3, .slice Av m cv]) (by simp [results, Try.results67, go_sem, hr0, hr1]) rfl
      ⟨_, c3, xss, lo1, rfl, SmallL.of HP.out.2.1 (by rw [HM.out]; exact HP.out.2.2), by omega, (HM6.out.setT k56 _ |>.setT (k56.set_ 0 (.int .i64 c3)) _), (HC6.out.setFar (p := ⟨w.heap.size, 0, none⟩) hg _).setFar (p := ⟨w.heap.size, 1, none⟩) hg _,
        ((HO6.out.below (Nat.le_of_lt hg) (by simp)).setCell (p := ⟨w.heap.size, 0, none⟩) (Nat.le_of_lt hg) _).setCell (p := ⟨w.heap.size, 1, none⟩) (Nat.le_of_lt hg) _,
        fun b cs k hb => (((k.only HO6.out (by simpa using hb)).far (p := ⟨w.heap.size, 0, none⟩) (by have := k.lt; show b ≠ w.heap.size; omega) _).far (p := ⟨w.heap.size, 1, none⟩) (by have := k.lt; show b ≠ w.heap.size; omega) _)⟩
  · obtain ⟨hb0, hbf0⟩ := k46.at_ 0 rfl
    obtain ⟨hb1, hbf1⟩ := k46.at_ 1 rfl
    have hgw := hc6.lt
    go_wp2_with fail
    refine (l02Bend g g (.slice Av m cv) c3 xss _ hc6 (HM6.out.mono (lo' := g + 1) (by omega)) HP.out.2.1 (by rw [HM.out]; exact HP.out.2.2) (Nat.le_refl _) (by omega) (by omega)).mono ?_
    rintro e w7 ⟨v7, c7, xss7, lo7, rfl, hP7, hb7, ⟨hgl7, hc7, hSL⟩, hk7⟩
    obtain ⟨A7, cv7, rfl⟩ := slice_of hP7
    have k47 := hk7 _ _ k46
    have k57 := hk7 _ _ k56
    have HB7 := Lib.hid ((HO6.out.below (B := g) (Nat.le_of_lt hg) (by simp)).trans hb7)
    have HK7 : Hid (∀ b cs, Bk w b cs 33 → b ≠ g → Bk w7 b cs 33) := Lib.hid fun b cs k hb => hk7 b cs (k.only HO6.out (by simpa using hb))
    obtain ⟨m7, hm7⟩ : ∃ m7, xss7.length = m7 := ⟨_, rfl⟩
    rw [hm7] at hP7 ⊢
    have HP7 := Lib.hid hP7
    have HC7 := Lib.hid hc7
    have HSL := Lib.hid hSL
    clear hb0 hbf0 hb1 hbf1 hk7 hb7 k46 k56 hc6 hm7 hP7 hc7 hSL
    have k48 := (k47.set_ 0 (.int .i64 c7)).set_ 1 (.slice A7 m7 cv7)
    have k58 := (k57.far (p := ⟨w3.heap.size, 0, none⟩) (by show w.heap.size ≠ w3.heap.size; omega) (.int .i64 c7)).far (p := ⟨w3.heap.size, 1, none⟩) (by show w.heap.size ≠ w3.heap.size; omega) (.slice A7 m7 cv7)
    obtain ⟨hb0, hbf0⟩ := k47.at_ 0 rfl
    obtain ⟨hb1, hbf1⟩ := k47.at_ 1 rfl
    obtain ⟨hd0, hdf0⟩ := k48.at_ 0 rfl
    obtain ⟨hd1, hdf1⟩ := k48.at_ 1 rfl
    obtain ⟨ha0, haf0⟩ := k58.at_ 0 rfl
    obtain ⟨ha1, haf1⟩ := k58.at_ 1 rfl
    have kF := (k58.set_ 0 (.int .i64 c7)).set_ 1 (.slice A7 m7 cv7)
    obtain ⟨hr0, -⟩ := kF.at_ 0 rfl
    obtain ⟨hr1, -⟩ := kF.at_ 1 rfl
    have hw3 : w.heap.size < w3.heap.size := hk3
    have hg3 : g < w3.heap.size := by omega
    go_wp2_with fail
    exact bodyPost_ret (v := .agg #[.int .i64 c7, .slice A7 m7 cv7]) (by simp [results, Try.results67, go_sem, hr0, hr1]) rfl
      ⟨_, c7, xss7, lo7, rfl, HSL.out, hgl7, (HP7.out.setT k47 _ |>.setT (k47.set_ 0 (.int .i64 c7)) _ |>.setT k58 _ |>.setT (k58.set_ 0 (.int .i64 c7)) _),
        (((HC7.out.setFar (p := ⟨w3.heap.size, 0, none⟩) hg3 _).setFar (p := ⟨w3.heap.size, 1, none⟩) hg3 _).setFar (p := ⟨w.heap.size, 0, none⟩) hg _).setFar (p := ⟨w.heap.size, 1, none⟩) hg _,
        (((HB7.out.setCell (p := ⟨w3.heap.size, 0, none⟩) (Nat.le_of_lt hg3) _).setCell (p := ⟨w3.heap.size, 1, none⟩) (Nat.le_of_lt hg3) _).setCell (p := ⟨w.heap.size, 0, none⟩) (Nat.le_of_lt hg) _).setCell (p := ⟨w.heap.size, 1, none⟩) (Nat.le_of_lt hg) _,
        fun b cs k hb => ((((HK7.out b cs k hb).far (p := ⟨w3.heap.size, 0, none⟩) (by have := k.lt; show b ≠ w3.heap.size; omega) _).far (p := ⟨w3.heap.size, 1, none⟩) (by have := k.lt; show b ≠ w3.heap.size; omega) _).far (p := ⟨w.heap.size, 0, none⟩) (by have := k.lt; show b ≠ w.heap.size; omega) _).far (p := ⟨w.heap.size, 1, none⟩) (by have := k.lt; show b ≠ w.heap.size; omega) _⟩
def DrawnS (lo g : Nat) (w : World) (e : Ending) (w' : World) : Prop := ∃ (sv : Value) (ss : List P2), e = .returned sv ∧ w'.ownsRow (w.heap.size + 1) 29 2 sv ss.length (flc2 ss) ∧ Cur lo w' g ∧ Only [g] w w'
set_option maxHeartbeats 4000000 in
theorem l07DrawSpots (g : Nat) (v : Value) (c : Int) (xss : List (List Ins)) (w : World) {lo lo1 : Nat} (h : Cur lo w g) (hP : ProgOwn w lo1 v xss) (hgl : g < lo1) (hS : SmallL xss) :
    Calls Try.prog 70 #[.pointer (some ⟨g, 0, none⟩), .agg #[.int .i64 c, v]] w (DrawnS lo g w) := by
  have hg := h.lt
  obtain ⟨i, hi, hiz0, hiz1, hiz2⟩ := info_parts infoSpot
  obtain ⟨Av, cv, rfl⟩ := slice_of hP
  have hn5 := hS.1
  have k0 := (Bk.new w #[.int .i64 c, .slice Av xss.length cv] 33).alloc (.cells #[] 29)
  have hO0 := owns_newP2 (w.alloc (.cells #[.int .i64 c, .slice Av xss.length cv] 33)) 29
  rw [World.size_alloc] at hO0
  have hb0 := ((Below.refl w.heap.size w).alloc (Nat.le_refl _) (.cells #[.int .i64 c, .slice Av xss.length cv] 33)).alloc (by simp) (.cells #[] 29)
  have hc0 := h.below hb0
  have hON0 := Only.of_below hb0 [g]
  have HP := Lib.hid hP
  have HS := Lib.hid hS.2
  clear h hP hS hb0
  go_enter Try.func70, Try.ntmps70
  go_wp2_with fail
  go_loopw [5, 6] (fun vo j wr => ∃ (k : Nat) (L : List P2), k ≤ xss.length ∧ j = .int .i64 k ∧ L.length ≤ 17 * k ∧ wr.ownsRow (w.heap.size + 1) 29 2 vo L.length (flc2 L) ∧ Cur lo wr g ∧ Only [g] w wr ∧ w.heap.size + 1 ≤ wr.heap.size ∧ Bk wr w.heap.size #[.int .i64 c, .slice Av xss.length cv] 33) (fun _ j _ => xss.length - (intOf j).toNat)
  case atStart => exact ⟨0, [], Nat.zero_le _, rfl, Nat.le_refl _, hO0, hc0, hON0, by simp, k0⟩
  case round =>
    obtain ⟨k, L, hk, rfl, hL, hO, hc, hOn, hsz, kp⟩ := hrel
    clear hO0 hc0 hON0 k0
    obtain ⟨q1, -⟩ := kp.at_ 1 (x := .slice Av xss.length cv) rfl
    obtain ⟨q0, -⟩ := kp.at_ 0 (x := .int .i64 c) rfl
    by_cases hlt : k < xss.length
    · obtain ⟨xs, hxk⟩ : ∃ xs, xss[k]? = some xs := ⟨_, List.getElem?_eq_getElem hlt⟩
      have hx16 := HS.out xs (List.mem_of_getElem? hxk)
      have HROW : ∃ (b : Nat) (Ak : Option Addr) (dk : Nat), Av = some ⟨b, 0, none⟩ ∧ xs.length ≤ dk ∧ dk ≤ 9223372036854775807 ∧ ∀ U, Only [g] w U → U.cell? ⟨b, k, none⟩ = some (.slice Ak xs.length dk) := by
        obtain ⟨vs, h1, h2⟩ := HP.out
        obtain ⟨b, rfl, hlb⟩ := owns_formT h1 (by omega)
        obtain ⟨ck, hck, hrk⟩ := (CodesOwn.rd h2).at_ hxk
        obtain ⟨Ak, dk, rfl, -, hnk, hdk, -⟩ := hrk
        unfold maxLen at hdk
        exact ⟨b, Ak, dk, rfl, hnk, by omega, fun U hU => ((owns_onlyQ h1 hU (by simpa using hgl)).cellAt k (by omega)).trans hck⟩
      obtain ⟨b, Ak, dk, rfl, hnk, hdk, hrow⟩ := HROW
      have HRW := Lib.hid hrow
      have q2 := HRW.out _ hOn
      clear hrow hxk
      go_wp2_with fail
      clear q0 q1 q2
      go_loopw [5, 7] (fun vo j wr => ∃ (m : Nat) (M : List P2), m ≤ xs.length + 1 ∧ j = .int .i64 m ∧ M.length ≤ 17 * k + m ∧ wr.ownsRow (w.heap.size + 1) 29 2 vo M.length (flc2 M) ∧ Cur lo wr g ∧ Only [g] w wr ∧ w.heap.size + 1 ≤ wr.heap.size ∧ Bk wr w.heap.size #[.int .i64 c, .slice (some ⟨b, 0, none⟩) xss.length cv] 33) (fun _ j _ => xs.length + 1 - (intOf j).toNat)
      case atStart => exact ⟨0, L, Nat.zero_le _, rfl, by omega, hO, hc, hOn, hsz, kp⟩
      case round =>
        obtain ⟨m, M, hm, rfl, hM, hOq, hcq, hOnq, hszq, kq⟩ := hrel
        clear hO hc hOn hsz kp
        obtain ⟨q1, -⟩ := kq.at_ 1 (x := .slice (some ⟨b, 0, none⟩) xss.length cv) rfl
        obtain ⟨q0, -⟩ := kq.at_ 0 (x := .int .i64 c) rfl
        have q2 := HRW.out _ hOnq
        by_cases hmlt : m < xs.length + 1
        · go_wp2_with fail
          refine (l01Once g 4 _ hcq (WalkArith.wf_i64 (by omega))).mono ?_
          rintro e w6 ⟨bb, rfl, hc6, ho6⟩
          have hO6 := owns_onlyQ hOq ho6 (by simp; omega)
          have hOn6 := hOnq.trans ho6
          have k6 := kq.only ho6 (by simp; omega)
          have hs6 : w.heap.size + 1 ≤ w6.heap.size := Nat.le_trans hszq ho6.size
          clear hOq hcq hOnq hszq kq ho6 q0 q1 q2
          obtain ⟨q1, -⟩ := k6.at_ 1 (x := .slice (some ⟨b, 0, none⟩) xss.length cv) rfl
          obtain ⟨q0, -⟩ := k6.at_ 0 (x := .int .i64 c) rfl
          have q2 := HRW.out _ hOn6
          cases bb
          · go_wp2_with fail
            exact ⟨⟨m + 1, M, by omega, by go_num, by omega, hO6, hc6, hOn6, hs6, k6⟩, by simp [intOf] <;> omega⟩
          · have hBt : Below (w.heap.size + 1) w6 w6 := Below.refl _ _
            go_wp2_with (at_builtin; refine wpList_append_own _ rfl _ _ 41 rfl ((w.heap.size + 1)) 29 i (.agg #[.int .i64 0, .int .i64 0]) 2 16 Try.underlying41 hi hiz0 hiz1 hiz2 rfl (by decide) _ _ _ rfl (hO6.alloc _) ⟨w6.heap.size, 0, none⟩ 1 1 [.int .i64 k, .int .i64 m] rfl rfl (new_cells _ _ _) (by simp [Value.oneCell']) (by unfold maxLen; omega) (by omega) (by have := hs6; simp; omega) ?_)
            intro vo7 w7 ho7 hg7 _
            have hB7 := (hBt.alloc hs6 _).grown hg7 (by have := hs6; simp; omega) (fun k hk => by have := (hO6.lt k hk).1; omega)
            have ho8 := owns_snocP (x := ⟨(k : Int), (m : Int)⟩) ho7
            have hOn7 := hOn6.thenBelow hB7 (Nat.le_succ _)
            have hc7 := hc6.belowB hB7 (by omega)
            have k7 := k6.below hB7 (Nat.lt_succ_self _)
            have hs7 : w.heap.size + 1 ≤ w7.heap.size := Nat.le_trans hs6 hB7.size
            clear hg7 ho7
            go_wp2_with fail
            exact ⟨⟨m + 1, M ++ [⟨(k : Int), (m : Int)⟩], by omega, by go_num, by simp; omega, ho8, hc7, hOn7, hs7, k7⟩, by simp [intOf] <;> omega⟩
        · obtain rfl : m = xs.length + 1 := by omega
          go_wp2_with fail
          exact ⟨⟨k + 1, M, by omega, by go_num, by omega, hOq, hcq, hOnq, hszq, kq⟩, by simp [intOf] <;> omega⟩
    · obtain rfl : k = xss.length := by omega
      go_wp2_with fail
      refine (l01Once g 10 _ hc (WalkArith.wf_i64 (by omega))).mono ?_
      rintro e w6 ⟨bb, rfl, hc6, ho6⟩
      have hO6 := owns_onlyQ hO ho6 (by simp; omega)
      have hOn6 := hOn.trans ho6
      have hs6 : w.heap.size + 1 ≤ w6.heap.size := Nat.le_trans hsz ho6.size
      clear hO hc hOn hsz ho6 q0 q1 kp
      cases bb
      · go_wp2_with fail
        go_ret
        exact ⟨_, L, rfl, hO6, hc6, hOn6⟩
      · go_wp2_with fail
        refine (l01Below g 4 _ hc6 (WalkArith.wf_i64 (by omega))).mono ?_
        rintro e w7 ⟨x, hx, rfl, hc7, ho7⟩
        have hO7 := owns_onlyQ hO6 ho7 (by simp; omega)
        have hOn7 := hOn6.trans ho7
        have hs7 : w.heap.size + 1 ≤ w7.heap.size := Nat.le_trans hs6 ho7.size
        have hx4 : 0 ≤ x ∧ x ≤ 4 := by omega
        have hwx : IntKind.i64.wrap (x - 1) = x - 1 := IntWalk.i64_in _ (by omega)
        clear hO6 hc6 hOn6 ho7 hs6 hx
        go_wp2_with fail
        refine (l01Below g 9 _ hc7 (WalkArith.wf_i64 (by omega))).mono ?_
        rintro e w8 ⟨y, hy, rfl, hc8, ho8⟩
        have hO8 := owns_onlyQ hO7 ho8 (by simp; omega)
        have hOn8 := hOn7.trans ho8
        have hs8 : w.heap.size + 1 ≤ w8.heap.size := Nat.le_trans hs7 ho8.size
        have hy4 : 0 ≤ y ∧ y ≤ 9 := by omega
        have hwy : IntKind.i64.wrap (y - 1) = y - 1 := IntWalk.i64_in _ (by omega)
        have hBt : Below (w.heap.size + 1) w8 w8 := Below.refl _ _
        clear hO7 hc7 hOn7 ho8 hs7 hy
        go_wp2_with (at_builtin; refine wpList_append_own _ rfl _ _ 41 rfl ((w.heap.size + 1)) 29 i (.agg #[.int .i64 0, .int .i64 0]) 2 16 Try.underlying41 hi hiz0 hiz1 hiz2 rfl (by decide) _ _ _ rfl (hO8.alloc _) ⟨w8.heap.size, 0, none⟩ 1 1 [.int .i64 (x - 1), .int .i64 (y - 1)] rfl rfl (new_cells _ _ _) (by simp [Value.oneCell']) (by unfold maxLen; omega) (by omega) (by have := hs8; simp; omega) ?_)
        intro vo9 w9 ho9 hg9 _
        have hB9 := (hBt.alloc hs8 _).grown hg9 (by have := hs8; simp; omega) (fun k hk => by have := (hO8.lt k hk).1; omega)
        have ho10 := owns_snocP (x := ⟨x - 1, y - 1⟩) ho9
        have hOn9 := hOn8.thenBelow hB9 (Nat.le_succ _)
        have hc9 := hc8.belowB hB9 (by omega)
        go_wp2_with fail
        go_ret
        exact ⟨vo9, L ++ [⟨x - 1, y - 1⟩], rfl, ho10, hc9, hOn9⟩
def DrawnPS (w : World) (e : Ending) (w' : World) : Prop :=
  ∃ (v sv : Value) (c : Int) (xss : List (List Ins)) (ss : List P2), e = .returned (.tuple #[.agg #[.int .i64 c, v], sv]) ∧ RdSS w' v xss ∧ Rd w' sv 2 ss.length (flc2 ss) ∧ Below w.heap.size w w'
theorem Cur.setLow {lo g b i : Nat} {w : World} {u : Value} (h : Cur lo w g) (hl : lo ≤ b) (hb : b ≠ g) : Cur lo (w.setCell ⟨b, i, none⟩ u) g := by
  obtain ⟨A, n, c, x, y, k, h1, h2, h3, h4, h5, h6⟩ := h
  exact ⟨A, n, c, x, y, k.far (p := ⟨b, i, none⟩) (fun e => hb e.symm) u, h1, h2, h3, h4, h5.keep (B := 0) (fun ad ha hn => Below.heap_setCell _ _ _ _ (by have := h6 ad ha hn; show ad.block ≠ b; omega)) (by simp [World.setCell]), h6⟩
/-- the end of the draw: the program stored, in either order -/
theorem drawn_end {w w4 w9 : World} {g lo1 : Nat} {v sv : Value} {c : Int} {xss : List (List Ins)} {ss : List P2} (hP : ProgOwn w4 lo1 v xss) (hgl : g < lo1) (hO : w9.ownsRow (w4.heap.size + 1) 29 2 sv ss.length (flc2 ss)) (hOn : Only [g] w4 w9) (hB : Below w.heap.size w w4) (hg : w.heap.size < g) (hw : w.heap.size < w4.heap.size) :
    ∃ (v' sv' : Value) (c' : Int) (xss' : List (List Ins)) (ss' : List P2), Ending.returned (.tuple #[.agg #[.int .i64 c, v], sv]) = .returned (.tuple #[.agg #[.int .i64 c', v'], sv']) ∧
      RdSS ((w9.setCell ⟨w.heap.size, 0, none⟩ (.int .i64 c)).setCell ⟨w.heap.size, 1, none⟩ v) v' xss' ∧ Rd ((w9.setCell ⟨w.heap.size, 0, none⟩ (.int .i64 c)).setCell ⟨w.heap.size, 1, none⟩ v) sv' 2 ss'.length (flc2 ss') ∧
      Below w.heap.size w ((w9.setCell ⟨w.heap.size, 0, none⟩ (.int .i64 c)).setCell ⟨w.heap.size, 1, none⟩ v) := by
  refine ⟨v, sv, c, xss, ss, rfl, ?_, ?_, ?_⟩
  · exact (((hP.only hOn hgl).setLow (a := ⟨w.heap.size, 0, none⟩) (by show w.heap.size < lo1; omega) _).setLow (a := ⟨w.heap.size, 1, none⟩) (by show w.heap.size < lo1; omega) _).rd
  · obtain ⟨bs, h1, -⟩ := Own.of_owns (ownsRow_setCell_below (ownsRow_setCell_below hO (a := ⟨w.heap.size, 0, none⟩) (by show w.heap.size < w4.heap.size + 1; omega) (.int .i64 c)) (a := ⟨w.heap.size, 1, none⟩) (by show w.heap.size < w4.heap.size + 1; omega) v)
    exact h1.rd
  · exact ((hB.trans (hOn.below hB.size (by simp; omega))).setCell (p := ⟨w.heap.size, 0, none⟩) (Nat.le_refl _) _).setCell (p := ⟨w.heap.size, 1, none⟩) (Nat.le_refl _) _
set_option maxHeartbeats 4000000 in
theorem DrawPutFences (A : Option Addr) (n c : Nat) (w : World) (h : Byt w A n) (hnc : n ≤ c) (hc : c ≤ 9223372036854775807) (hn : n ≤ 1048576) :
    Calls Try.prog 32 #[.slice A n c] w (DrawnPS w) := by
  have k0 := Bk.new w #[.int .i64 0, .slice none 0 0] 33
  go_enter Try.func32, Try.ntmps32
  go_wp2_with fail
  refine (l01New A n c w.heap.size _ (h.allocT _) (fun ad ha hn0 => by obtain ⟨ad', e1, e2, _⟩ := h hn0; rw [ha] at e1; injection e1 with e1; subst e1; exact e2) hnc hc hn).mono ?_
  rintro e w1 ⟨g, rfl, hc1, hg1, hb1⟩
  have k1 := k0.below hb1 (by simp)
  have hB1 := ((Below.refl w.heap.size w).alloc (Nat.le_refl _) (.cells #[.int .i64 0, .slice none 0 0] 33)).trans (hb1.mono (by simp))
  rw [World.size_alloc] at hg1
  have hg := hc1.lt
  clear k0 hb1 h
  go_wp2_with fail
  refine (l05DrawProg g _ hc1).mono ?_
  rintro e w2 ⟨v2, c2, xss2, lo2, rfl, hS2, hgl2, hP2, hc2, hb2, hk2⟩
  obtain ⟨A2, cv2, rfl⟩ := slice_of hP2
  have k2 := hk2 _ _ k1 (by omega)
  have hB2 := hB1.trans (hb2.mono (by omega))
  have hg2 := hc2.lt
  obtain ⟨m2, hm2⟩ : ∃ m2, xss2.length = m2 := ⟨_, rfl⟩
  rw [hm2] at hP2 ⊢
  have HM2 := Lib.hid hm2
  have HS2 := Lib.hid hS2
  have k3 := Bk.new w2 #[.int .i64 c2, .slice A2 m2 cv2] 33
  have k4 := k2.alloc (.cells #[.int .i64 c2, .slice A2 m2 cv2] 33)
  have hb3 := (Below.refl _ w2).alloc (Nat.le_refl _) (.cells #[.int .i64 c2, .slice A2 m2 cv2] 33)
  have hc3 := hc2.below hb3
  have hP3 := hP2.below hb3
  have hB3 := hB2.trans (hb3.mono hB2.size)
  have hk2l := k2.lt
  clear hm2 hS2 hb2 hk2 k1 hB1 hc1 hc2 hb3 hP2 hB2 k2
  go_wp2_with fail
  refine (l01Once g 3 _ hc3 (WalkArith.wf_i64 (by omega))).mono ?_
  rintro e w4 ⟨bb, rfl, hc4, ho4⟩
  have k34 := k3.only ho4 (by simp; omega)
  have k44 := k4.only ho4 (by simp; omega)
  have hP4 := hP3.only ho4 hgl2
  have hB4 := hB3.trans (ho4.below hB3.size (by simp; omega))
  have hs4 := ho4.size
  simp only [World.size_alloc] at hs4
  clear k3 k4 hc3 hP3 hB3 ho4
  cases bb
  · have HD : Hid (∀ Q : World, Cur w.heap.size Q g → ProgOwn Q lo2 (.slice A2 m2 cv2) xss2 → Calls Try.prog 70 #[.pointer (some ⟨g, 0, none⟩), .agg #[.int .i64 c2, .slice A2 m2 cv2]] Q (DrawnS w.heap.size g Q)) := Lib.hid fun Q hQ hp => by
      have h := l07DrawSpots g (.slice A2 m2 cv2) c2 xss2 Q hQ hp hgl2 HS2.out
      exact h
    have hcd := hc4.below (Below.refl w4.heap.size w4).drew
    have hpd := hP4.below (Below.refl w4.heap.size w4).drew
    have HCD := Lib.hid (And.intro hcd hpd)
    have KT := Lib.hid k44
    have KP := Lib.hid k34
    have HBW := Lib.hid hB4
    obtain ⟨y0, f0⟩ := k44.at_ 0 (x := .int .i64 0) rfl
    obtain ⟨y1, f1⟩ := k44.at_ 1 (x := .slice none 0 0) rfl
    obtain ⟨x0, -⟩ := k34.at_ 0 (x := .int .i64 c2) rfl
    obtain ⟨x1, -⟩ := k34.at_ 1 (x := .slice A2 m2 cv2) rfl
    have l1 := k44.lt
    have l2 := k34.lt
    have hne : w.heap.size ≠ w2.heap.size := by omega
    clear hcd hpd k34 k44 hc4 hP4 hB4
    go_wp2_with fail
    go_region_law (refine step_call rfl 70 Try.func70 (by kernel_rfl) (by kernel_rfl) _ _ rfl #[.pointer (some ⟨g, 0, none⟩), .agg #[.int .i64 c2, .slice A2 m2 cv2]] (by simp [Act.eval, Act.put]) (HD.out w4.drew HCD.out.1 HCD.out.2) ?_; rintro e w9 ⟨sv, ss, rfl, ho9, hc9, hn9⟩; refine ⟨_, rfl, ?_⟩; have kt9 := KT.out.only ((Only.of_below (Below.refl w4.heap.size w4).drew [g]).trans hn9) (by simp; omega); have kp9 := KP.out.only ((Only.of_below (Below.refl w4.heap.size w4).drew [g]).trans hn9) (by simp; omega); obtain ⟨y0', f0'⟩ := kt9.at_ 0 (x := .int .i64 0) rfl; obtain ⟨y1', f1'⟩ := kt9.at_ 1 (x := .slice none 0 0) rfl; obtain ⟨x0', -⟩ := kp9.at_ 0 (x := .int .i64 c2) rfl; obtain ⟨x1', -⟩ := kp9.at_ 1 (x := .slice A2 m2 cv2) rfl)
    all_goals
      have kF := (kt9.set_ 0 (.int .i64 c2)).set_ 1 (.slice A2 m2 cv2)
      obtain ⟨r0, -⟩ := kF.at_ 0 (x := .int .i64 c2) rfl
      obtain ⟨r1, -⟩ := kF.at_ 1 (x := .slice A2 m2 cv2) rfl
      have HE := Lib.hid (drawn_end (w := w) (w4 := w4.drew) (c := c2) HCD.out.2 hgl2 ho9 hn9 HBW.out.drew (by omega) (show w.heap.size < w4.heap.size from l1))
      clear kF kt9 kp9 ho9 hc9 hn9
      go_wp2_with fail
      exact bodyPost_ret (v := .tuple #[.agg #[.int .i64 c2, .slice A2 m2 cv2], sv]) (by simp [results, Try.results32, go_sem, r0, r1]) rfl HE.out
  · obtain ⟨z0, -⟩ := k34.at_ 0 (x := .int .i64 c2) rfl
    obtain ⟨z1, -⟩ := k34.at_ 1 (x := .slice A2 m2 cv2) rfl
    clear hP4 z0 z1
    go_wp2_with fail
    refine (l02DrawProg g 16 _ hc4 (by omega)).mono ?_
    rintro e w5 ⟨v5, c5, xss5, lo5, rfl, hc50, hx5, hS5, hlo5, hP5, hc5, ho5⟩
    obtain ⟨A5, cv5, rfl⟩ := slice_of hP5
    obtain ⟨m5, hm5⟩ : ∃ m5, xss5.length = m5 := ⟨_, rfl⟩
    have HS5 := Lib.hid (SmallL.of hS5 hx5)
    rw [hm5] at hP5 ⊢
    have HM5 := Lib.hid hm5
    have k35 := k34.only ho5 (by simp; omega)
    have k45 := k44.only ho5 (by simp; omega)
    have hB5 := hB4.trans (ho5.below hB4.size (by simp; omega))
    have hs5 := ho5.size
    have k36 := (k35.set_ 0 (.int .i64 c5)).set_ 1 (.slice A5 m5 cv5)
    have k46 := (k45.far (p := ⟨w2.heap.size, 0, none⟩) (by show w.heap.size ≠ w2.heap.size; omega) (.int .i64 c5)).far (p := ⟨w2.heap.size, 1, none⟩) (by show w.heap.size ≠ w2.heap.size; omega) (.slice A5 m5 cv5)
    have hc6 := (hc5.setFar (p := ⟨w2.heap.size, 0, none⟩) hg2 (.int .i64 c5)).setFar (p := ⟨w2.heap.size, 1, none⟩) hg2 (.slice A5 m5 cv5)
    have hP6 := (hP5.setT k35 (j := 0) (.int .i64 c5)).setT (k35.set_ 0 (.int .i64 c5)) (j := 1) (.slice A5 m5 cv5)
    have hB6 := (hB5.setCell (p := ⟨w2.heap.size, 0, none⟩) (by show w.heap.size ≤ w2.heap.size; omega) (.int .i64 c5)).setCell (p := ⟨w2.heap.size, 1, none⟩) (by show w.heap.size ≤ w2.heap.size; omega) (.slice A5 m5 cv5)
    obtain ⟨y2, f2⟩ := k35.at_ 0 (x := .int .i64 c2) rfl
    obtain ⟨y3, f3⟩ := k35.at_ 1 (x := .slice A2 m2 cv2) rfl
    obtain ⟨w6, hw6⟩ : ∃ w6, (w5.setCell ⟨w2.heap.size, 0, none⟩ (.int .i64 c5)).setCell ⟨w2.heap.size, 1, none⟩ (.slice A5 m5 cv5) = w6 := ⟨_, rfl⟩
    rw [hw6] at k36 k46 hc6 hP6 hB6
    have HW6 := Lib.hid hw6
    have hgl5 : g < lo5 := by omega
    clear hS5 hm5 k34 k44 hP5 hc5 ho5 k35 k45 hB5 hw6 hB4 hc4
    have HD : Hid (∀ Q : World, Cur w.heap.size Q g → ProgOwn Q lo5 (.slice A5 m5 cv5) xss5 → Calls Try.prog 70 #[.pointer (some ⟨g, 0, none⟩), .agg #[.int .i64 c5, .slice A5 m5 cv5]] Q (DrawnS w.heap.size g Q)) := Lib.hid fun Q hQ hp => by
      have h := l07DrawSpots g (.slice A5 m5 cv5) c5 xss5 Q hQ hp hgl5 HS5.out
      exact h
    have hcd := hc6.below (Below.refl w6.heap.size w6).drew
    have hpd := hP6.below (Below.refl w6.heap.size w6).drew
    have HCD := Lib.hid (And.intro hcd hpd)
    have KT := Lib.hid k46
    have KP := Lib.hid k36
    have HBW := Lib.hid hB6
    obtain ⟨y0, f0⟩ := k46.at_ 0 (x := .int .i64 0) rfl
    obtain ⟨y1, f1⟩ := k46.at_ 1 (x := .slice none 0 0) rfl
    obtain ⟨x0, -⟩ := k36.at_ 0 (x := .int .i64 c5) rfl
    obtain ⟨x1, -⟩ := k36.at_ 1 (x := .slice A5 m5 cv5) rfl
    have l1 := k46.lt
    have l2 := k36.lt
    have hne : w.heap.size ≠ w2.heap.size := by omega
    clear hcd hpd k36 k46 hc6 hP6 hB6
    go_upto_region 5 with (fail)
    rw [HW6.out]
    clear y2 f2 y3 f3
    go_region_law (refine step_call rfl 70 Try.func70 (by kernel_rfl) (by kernel_rfl) _ _ rfl #[.pointer (some ⟨g, 0, none⟩), .agg #[.int .i64 c5, .slice A5 m5 cv5]] (by simp [Act.eval, Act.put]) (HD.out w6.drew HCD.out.1 HCD.out.2) ?_; rintro e w9 ⟨sv, ss, rfl, ho9, hc9, hn9⟩; refine ⟨_, rfl, ?_⟩; have kt9 := KT.out.only ((Only.of_below (Below.refl w6.heap.size w6).drew [g]).trans hn9) (by simp; omega); have kp9 := KP.out.only ((Only.of_below (Below.refl w6.heap.size w6).drew [g]).trans hn9) (by simp; omega); obtain ⟨y0', f0'⟩ := kt9.at_ 0 (x := .int .i64 0) rfl; obtain ⟨y1', f1'⟩ := kt9.at_ 1 (x := .slice none 0 0) rfl; obtain ⟨x0', -⟩ := kp9.at_ 0 (x := .int .i64 c5) rfl; obtain ⟨x1', -⟩ := kp9.at_ 1 (x := .slice A5 m5 cv5) rfl)
    all_goals
      have kF := (kt9.set_ 0 (.int .i64 c5)).set_ 1 (.slice A5 m5 cv5)
      obtain ⟨r0, -⟩ := kF.at_ 0 (x := .int .i64 c5) rfl
      obtain ⟨r1, -⟩ := kF.at_ 1 (x := .slice A5 m5 cv5) rfl
      have HE := Lib.hid (drawn_end (w := w) (w4 := w6.drew) (c := c5) HCD.out.2 hgl5 ho9 hn9 HBW.out.drew (by omega) (show w.heap.size < w6.heap.size from l1))
      clear kF kt9 kp9 ho9 hc9 hn9
      go_wp2_with fail
      exact bodyPost_ret (v := .tuple #[.agg #[.int .i64 c5, .slice A5 m5 cv5], sv]) (by simp [results, Try.results32, go_sem, r0, r1]) rfl HE.out
end Go.Proofs.Ytgbgjlmkmlhefaa
