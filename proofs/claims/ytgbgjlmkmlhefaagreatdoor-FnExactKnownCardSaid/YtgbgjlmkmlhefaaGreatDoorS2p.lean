/- Contracts of spec.ProgOk and impl.ProgOk: a valid program. Condition: the codes can be read; lengths are those of slices. -/
import Derived.Test.YtgbgjlmkmlhefaaGreatDoorM3b
import Derived.Test.YtgbgjlmkmlhefaaGreatDoorI5
namespace Go.Proofs.YtgbgjlmkmlhefaaGreatDoor
set_option maxRecDepth 20000
set_option linter.unusedSimpArgs false
set_option linter.unusedVariables false
open Go.ChangeShapes Go.WideShapes Go.ChangeAt Go.RowKit
def codeOkF (c : Int) (xs : List Ins) : Bool := decide (xs.length ≤ 16) && xs.all fun i => insOk i c xs.length
def progOkF (p : Pr) : Bool := inB p.c 1 16 && inB p.x.length 1 3 && p.x.all (codeOkF p.c)
theorem allN_false {α : Type} {p : α → Bool} {xs : List α} {k : Nat} {x : α} (hx : xs[k]? = some x) (hp : p x = false) : xs.all p = false := by
  rw [List.all_eq_false]
  exact ⟨x, List.mem_of_getElem? hx, by simp [hp]⟩
theorem allN_snoc {α : Type} {p : α → Bool} {xs : List α} {k : Nat} {x : α} (h : (xs.take k).all p = true) (hx : xs[k]? = some x) (hp : p x = true) : (xs.take (k + 1)).all p = true := by
  rw [List.take_add_one, List.all_append, h, hx]
  simp [hp]
set_option maxHeartbeats 1600000 in
theorem spec_ProgOk (v : Value) (p : Pr) (w : World) (h : RdSS w v p.x) :
    Calls Tryz.prog 7 #[.agg #[.int .i64 p.c, v]] w fun e w' => e = .returned (.bool (progOkF p)) ∧ Below w.heap.size w w' := by
  obtain ⟨vs, ⟨A, c, rfl, -, hnc, hc, hr⟩, hin⟩ := h
  unfold maxLen at hc
  obtain ⟨pc, px⟩ := p
  have hB0 := (Below.refl w.heap.size w).alloc (Nat.le_refl _) (.cells #[.int .i64 pc, .slice A px.length c] 26)
  have k0 := Bk.new w #[.int .i64 pc, .slice A px.length c] 26
  cases h1 : inB pc 1 16
  · have HB := Lib.hid hB0
    clear hB0 hr hin
    go_enter Tryz.func7, Tryz.ntmps7
    go_wp2_with (go_at_call 26; refine (l01In _ _ _ _).mono ?_; rintro e w' ⟨rfl, rfl⟩)
    go_ret
    exact ⟨ret_bool (by simp [progOkF, h1]), HB.out⟩
  · cases h2 : inB px.length 1 3
    · have HB := Lib.hid hB0
      clear hB0 hr hin
      go_enter Tryz.func7, Tryz.ntmps7
      go_wp2_with (go_at_call 26; refine (l01In _ _ _ _).mono ?_; rintro e w' ⟨rfl, rfl⟩)
      go_ret
      exact ⟨ret_bool (by simp [progOkF, h2]), HB.out⟩
    · have hpx := inB_true h2
      have HF : Hid (progOkF ⟨pc, px⟩ = px.all (codeOkF pc)) := Lib.hid (by simp [progOkF, h1, h2])
      obtain ⟨b, o, rfl, hb, hcell⟩ := hr (by show 0 < px.length; omega)
      go_enter Tryz.func7, Tryz.ntmps7
      go_wp2_with (go_at_call 26; refine (l01In _ _ _ _).mono ?_; rintro e w' ⟨rfl, rfl⟩)
      go_loopw [3, 4] (fun i j wr => ∃ k : Nat, k ≤ px.length ∧ i = .int .i64 k ∧ Hid ((px.take k).all (codeOkF pc) = true) ∧ Below w.heap.size w wr ∧ Bk wr w.heap.size #[.int .i64 pc, .slice (some ⟨b, o, none⟩) px.length c] 26) (fun i _ _ => px.length - (intOf i).toNat)
      case atStart => exact ⟨0, Nat.zero_le _, rfl, Lib.hid (by simp), hB0, k0⟩
      case round =>
        obtain ⟨k, hk, rfl, HA, hB, kp⟩ := hrel
        clear hB0 k0
        obtain ⟨hq0, -⟩ := kp.at_ 0 rfl
        obtain ⟨hq1, -⟩ := kp.at_ 1 rfl
        have l0 := kp.lt
        by_cases hlt : k < px.length
        · have hxk : px[k]? = some px[k] := List.getElem?_eq_getElem hlt
          generalize px[k] = xs at hxk
          obtain ⟨ck, hck, hrk⟩ := hin.at_ hxk
          have hx := (hB.cell (p := ⟨b, o + k, none⟩) hb).trans (hcell k _ hck)
          have lb : b < wr.heap.size := Nat.lt_of_lt_of_le hb hB.size
          have hrk' := hrk.below hB
          obtain ⟨Ak, dk, rfl, -, hncx, hcx, hrx⟩ := id hrk'
          unfold maxLen at hcx
          have HX := Lib.hid hxk
          clear hcell hr hin hxk hck hrk
          rename World => wo
          by_cases hlen : xs.length ≤ 16
          · go_wp2_with fail
            go_loopw [4] (fun j wr => ∃ m : Nat, m ≤ xs.length ∧ j = .int .i64 m ∧ Hid ((xs.take m).all (fun i => insOk i pc xs.length) = true) ∧ Below wo.heap.size wo wr) (fun j _ => xs.length - (intOf j).toNat)
            case atStart => exact ⟨0, Nat.zero_le _, rfl, Lib.hid (by simp), Below.refl _ _⟩
            case round =>
              obtain ⟨m, hm, rfl, HM, hBq⟩ := hrel
              have kq := kp.below hBq l0
              have lq := kq.lt
              obtain ⟨hq0', -⟩ := kq.at_ 0 rfl
              obtain ⟨hq1', -⟩ := kq.at_ 1 rfl
              have hx' := (hBq.cell (p := ⟨b, o + k, none⟩) lb).trans hx
              have lb' : b < wr.heap.size := Nat.lt_of_lt_of_le lb hBq.size
              by_cases hmlt : m < xs.length
              · obtain ⟨b2, o2, rfl, hb2, hcell2⟩ := hrx (by omega)
                obtain ⟨x, hxm, hx0, hx1, hx2, hx3⟩ := ins_at (fun j u hu => (hBq.cell (p := ⟨b2, o2 + j, none⟩) hb2).trans (hcell2 j u hu)) hmlt
                have lb2 : b2 < wr.heap.size := Nat.lt_of_lt_of_le hb2 hBq.size
                have p0 := Past.cell lq hq0'
                have p1 := Past.cell lq hq1'
                have p2 := Past.cell lb' hx'
                have p3 := Past.cell lb2 hx0
                have p4 := Past.cell lb2 hx1
                have p5 := Past.cell lb2 hx2
                have p6 := Past.cell lb2 hx3
                have hmlt' : (m : Int) < xs.length := by omega
                have hklt' : (k : Int) < px.length := by omega
                have HBq := Lib.hid hBq
                have hC := fun W : World => spec_InstrOk x pc xs.length W
                cases hok : insOk x pc xs.length
                · rw [hok] at hC
                  have HC := Lib.hid hC
                  have HN : Hid (px.all (codeOkF pc) = false) := Lib.hid (allN_false HX.out (by unfold codeOkF; rw [allN_false hxm.out hok, Bool.and_false]))
                  clear hC hok hx0 hx1 hx2 hx3 hcell2 hrx hq0 hq1 hx hBq
                  go_wp2_with fail
                  refine wp_region_past (by kernel_rfl) (by kernel_rfl) ?_
                  repeat (go_big_quiet_step (first | (go_at_call 27; exact Calls.past_of (HC.out _))))
                  refine wpQuiet_nil ?_
                  intro _ hw'
                  obtain ⟨p, rfl⟩ := hw'
                  go_wp2_with fail
                  go_ret
                  exact ⟨ret_bool (HF.out.trans HN.out).symm, (hB.trans (HBq.out.mono hB.size)).trans (p.hb.mono (by have := hB.size; have := HBq.out.size; omega))⟩
                · rw [hok] at hC
                  have HC := Lib.hid hC
                  have HN := Lib.hid (allN_snoc HM.out hxm.out hok)
                  clear hC hok hx0 hx1 hx2 hx3 hcell2 hrx hq0 hq1 hx hBq
                  go_wp2_with fail
                  refine wp_region_past (by kernel_rfl) (by kernel_rfl) ?_
                  repeat (go_big_quiet_step (first | (go_at_call 27; exact Calls.past_of (HC.out _))))
                  refine wpQuiet_nil ?_
                  intro _ hw'
                  obtain ⟨p, rfl⟩ := hw'
                  go_wp2_with fail
                  exact ⟨⟨m + 1, by omega, by go_num, HN, HBq.out.trans (p.hb.mono HBq.out.size)⟩, by simp [intOf]; omega⟩
              · obtain rfl : m = xs.length := by omega
                have HN : Hid ((px.take (k + 1)).all (codeOkF pc) = true) := Lib.hid (allN_snoc HA.out HX.out (by have := HM.out; rw [List.take_length] at this; simp only [codeOkF, this, hlen, decide_true, Bool.and_self]))
                clear hrx hq0 hq1 hx
                go_wp2_with fail
                exact ⟨⟨k + 1, by omega, by go_num, HN, hB.trans (hBq.mono hB.size), kq⟩, by simp [intOf]; omega⟩
          · have HN : Hid (px.all (codeOkF pc) = false) := Lib.hid (allN_false HX.out (by simp [codeOkF, hlen]))
            clear hrx
            go_wp2_with fail
            go_ret
            exact ⟨ret_bool (HF.out.trans HN.out).symm, hB⟩
        · obtain rfl : k = px.length := by omega
          have HN := HA.out
          rw [List.take_length] at HN
          have HN := Lib.hid HN
          clear hcell hr hin
          go_wp2_with fail
          go_ret
          exact ⟨ret_bool (HF.out.trans HN.out).symm, hB⟩
end Go.Proofs.YtgbgjlmkmlhefaaGreatDoor
