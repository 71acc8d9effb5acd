/- Contract of chapter 8's model function LiveRefs (package spec). Condition: the heap's rows can be read. -/
import Derived.Test.YtpenneklpolhgaaH1
import Derived.Test.YtpenneklpolhgaaB1
import Derived.Test.YtpenneklpolhgaaSteps
namespace Go.Proofs.Ytpenneklpolhgaa
set_option maxRecDepth 20000
set_option linter.unusedSimpArgs false
set_option linter.unusedVariables false
open Go.ChangeShapes Go.WideShapes Go.ChangeAt Go.RowKit
set_option linter.unusedVariables false
/-- returns a row of pairs of its own -/
def RetP2s (L : List P2) (w : World) (e : Ending) (w' : World) : Prop :=
  ∃ v' bs, e = .returned v' ∧ Own w' v' 2 L.length (flc2 L) bs ∧ (∀ b ∈ bs, w.heap.size ≤ b) ∧ Below w.heap.size w w'
theorem infoRef : (Try.prog.info? 37).map (fun i => (i.zero, i.size, i.bytes)) = some (some (.agg #[.int .i64 0, .int .i64 0]), 2, 16) := by kernel_rfl
set_option maxHeartbeats 1600000 in
theorem spec_LiveRefs (gv lv : Value) (h : Hp) (w : World) (r : RdHp w gv lv h) :
    Calls Try.prog 24 #[.agg #[gv, lv]] w (RetP2s (liveF h) w) := by
  obtain ⟨A, c, B, d, rfl, rfl, hc1, hd1, hc2, hd2⟩ := r.slices
  obtain ⟨i, hi, hiz0, hiz1, hiz2⟩ := info_parts infoRef
  have k0 := Bk.new w #[.slice A h.g.length c, .slice B h.l.length d] 28
  have hB0 := (Below.refl w.heap.size w).alloc (Nat.le_refl _) (.cells #[.slice A h.g.length c, .slice B h.l.length d] 28)
  obtain ⟨W1, hW1⟩ : ∃ W1, W1 = w.alloc (.cells #[.slice A h.g.length c, .slice B h.l.length d] 28) := ⟨_, rfl⟩
  have hz1 : W1.heap.size = w.heap.size + 1 := by rw [hW1]; simp
  rw [← hW1] at k0 hB0
  have hO1 := World.ownsRow_lit (base := W1.heap.size) (e := 37) (size := 2) W1 #[] 0 (Nat.le_refl _) (by simp [maxLen]) rfl
  have hB1 := (Below.refl W1.heap.size W1).alloc (Nat.le_refl _) (.cells #[] 37)
  have HW1 := Lib.hid hW1
  have HZ1 := Lib.hid hz1
  have K1 := k0.below hB1 k0.lt
  have hBB := hB0.trans (hB1.mono hB0.size)
  have r1 := r.below hBB
  have HS := Lib.hid (fun (b : Bool) (hb : hpOk h = b) => show Calls Try.prog 10 #[.agg #[.slice A h.g.length c, .slice B h.l.length d]] (W1.alloc (.cells #[] 37)) (fun e w' => e = .returned (.bool b) ∧ Below (W1.alloc (.cells #[] 37)).heap.size (W1.alloc (.cells #[] 37)) w') by rw [← hb]; exact spec_HeapOk _ _ h _ r1)
  clear hW1 hz1 k0
  cases hok : hpOk h
  · have HL : Hid (liveF h = []) := Lib.hid (by simp [liveF, hok])
    have HH := Lib.hid (HS.out _ hok)
    have HBB := Lib.hid hBB
    clear HS hok hBB
    go_enter Try.func24, Try.ntmps24
    go_wp2_with fail
    rw [← HW1.out]
    go_wp2_with fail
    refine HH.out.mono ?_
    rintro e w1 ⟨rfl, hb1⟩
    have HB := Lib.hid (HBB.out.trans (hb1.mono HBB.out.size))
    clear hb1
    go_wp2_with fail
    go_ret
    exact ⟨_, [], rfl, by rw [HL.out]; exact Own.nil _ _, by simp, HB.out⟩
  · have HL : Hid (liveF h = liveTo h h.l.length) := Lib.hid (by simp [liveF, hok])
    have HH := Lib.hid (HS.out _ hok)
    obtain ⟨⟨q1, q2⟩, q3', q4⟩ := hpOk_parts hok
    have q3 : h.l.length ≤ h.g.length ∧ h.g.length ≤ h.l.length := by omega
    have HBB := Lib.hid hBB
    clear HS hok hBB q3' q4
    go_enter Try.func24, Try.ntmps24
    go_wp2_with fail
    rw [← HW1.out]
    go_wp2_with fail
    refine HH.out.mono ?_
    rintro e w1 ⟨rfl, hb1⟩
    have hB2 := hB1.trans (hb1.mono hB1.size)
    have hO2 := ownsRow_below hO1 hb1
    have K2 := K1.below hb1 K1.lt
    obtain ⟨b, o, c', b', o', d', he, he', -, ⟨hb, hb'⟩, hcell, hcell'⟩ := r.open_ (by omega) (by omega)
    injection he with e1 _ e2
    injection he' with e3 _ e4
    subst e1 e2 e3 e4
    have hBt := HBB.out.trans (hb1.mono HBB.out.size)
    clear K1 hO1 hB1 hb1 r r1 HH
    go_wp2_with fail
    go_loopw [3, 4] (fun v i wr => ∃ k : Nat, k ≤ h.l.length ∧ i = .int .i64 k ∧ wr.ownsRow W1.heap.size 37 2 v (liveTo h k).length (flc2 (liveTo h k)) ∧ Below W1.heap.size W1 wr ∧ Below w.heap.size w wr ∧ Bk wr w.heap.size #[.slice (some ⟨b, o, none⟩) h.g.length c, .slice (some ⟨b', o', none⟩) h.l.length d] 28) (fun _ i _ => h.l.length - (intOf i).toNat)
    case atStart => exact ⟨0, Nat.zero_le _, rfl, by have e := HZ1.out; simpa [liveTo, flc2, fl2, ints, e] using hO2, hB2, hBt, K2⟩
    case round =>
      obtain ⟨k, hk, rfl, hO, hB, hBw, K⟩ := hrel
      clear hO2 hB2 hBt K2
      obtain ⟨x0, -⟩ := K.at_ 0 (x := .slice (some ⟨b, o, none⟩) h.g.length c) rfl
      obtain ⟨x1, -⟩ := K.at_ 1 (x := .slice (some ⟨b', o', none⟩) h.l.length d) rfl
      have lK := K.lt
      by_cases hlt : k < h.l.length
      · obtain ⟨x, hxk, hx⟩ := int_at (w := wr) (k := k) (fun j u hu => (hBw.cell (p := ⟨b, o + j, none⟩) hb).trans (hcell j u hu)) (by omega)
        obtain ⟨y, hyk, hy⟩ := bool_at (w := wr) (fun j u hu => (hBw.cell (p := ⟨b', o' + j, none⟩) hb').trans (hcell' j u hu)) hlt
        have hkg : k < h.g.length := by omega
        have hlb : b < wr.heap.size := Nat.lt_of_lt_of_le hb hBw.size
        have hlen := liveTo_len h k
        clear hcell hcell'
        cases y
        · have HN := Lib.hid (liveTo_no hyk.out)
          go_wp2_with fail
          exact ⟨⟨k + 1, by omega, by go_num, by rw [HN.out]; exact hO, hB, hBw, K⟩, by simp [intOf]; omega⟩
        · have HN := Lib.hid (liveTo_yes hxk.out hyk.out)
          obtain ⟨AO, cO, rfl⟩ := owns_form hO
          go_wp2_with (at_builtin; refine wpList_append_own _ rfl _ _ 45 rfl (W1.heap.size) 37 i (.agg #[.int .i64 0, .int .i64 0]) 2 16 Try.underlying45 hi hiz0 hiz1 hiz2 rfl (by decide) _ _ _ rfl (hO.alloc _) ⟨wr.heap.size, 0, none⟩ 1 1 [.int .i64 k, .int .i64 x] rfl rfl (new_cells _ _ _) (by simp [Value.oneCell']) (by unfold maxLen; omega) (by omega) (by have := hB.size; simp; omega) ?_)
          intro vo3 w3 ho3 hg3 _
          have hB3 := (hB.alloc hB.size _).grown hg3 (by have := hB.size; simp; omega) (fun k hk => by have := (hO.lt k hk).1; omega)
          have hB4 : Below w.heap.size w w3 := (hBw.alloc hBw.size _).grown hg3 (by have := hBw.size; simp; omega) (fun k hk => by have := (hO.lt k hk).1; have := HZ1.out; omega)
          have K4 : Bk w3 w.heap.size #[.slice (some ⟨b, o, none⟩) h.g.length c, .slice (some ⟨b', o', none⟩) h.l.length d] 28 := (K.alloc _).grown hg3 (fun q hq e => by have := (hO.lt q hq).1; have := HZ1.out; omega)
          have ho4 := owns_snoc2 (x := ⟨(k : Int), x⟩) ho3
          clear hg3 ho3
          go_wp2_with fail
          exact ⟨⟨k + 1, by omega, by go_num, by rw [HN.out]; exact ho4, hB3, hB4, K4⟩, by simp [intOf]; omega⟩
      · obtain rfl : k = h.l.length := by omega
        obtain ⟨bs, h1, h2⟩ := Own.of_owns hO
        have HE := Lib.hid (And.intro h1 h2)
        clear h1 h2 hcell hcell'
        go_wp2_with fail
        go_ret
        exact ⟨_, bs, rfl, by rw [HL.out]; exact HE.out.1, fun q hq => by have := HE.out.2 q hq; have := HZ1.out; omega, hBw⟩
end Go.Proofs.Ytpenneklpolhgaa
