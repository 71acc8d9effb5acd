/- Contracts of impl.SafeBench and what it calls: a set of a row, a look-up in it by a closure, ContainsFunc. Conditions: the bench's rows can be read and hold numbers of 64 bits; lengths that a law bounds. -/
import Derived.Test.YtaokpfdjbpobpaaN6
import Derived.Test.YtaokpfdjbpobpaaN7
namespace Go.Proofs.Ytaokpfdjbpobpaa
set_option maxRecDepth 20000
set_option linter.unusedSimpArgs false
set_option linter.unusedVariables false
open Go.ChangeShapes Go.WideShapes Go.ChangeAt Go.RowKit Go.Maps
set_option linter.unusedVariables false
/-- returns a map of its own that is the set of xs -/
def RetSet (xs : List Int) (w : World) (e : Ending) (w' : World) : Prop :=
  ∃ (g : Nat) (D : DU), e = .returned (.map (some g)) ∧ w'.ownsMap Try.prog 3 (plainElem Try.prog 4) g xs.length D ∧ SetM D xs ∧ w.heap.size ≤ g ∧ Below w.heap.size w w'
set_option maxHeartbeats 1600000 in
theorem impl_setOf (v : Value) (xs : List Int) (w : World) (h : Rd w v 1 xs.length (ints xs)) (hw : ∀ x ∈ xs, (Lit.int .i64 x).wf = true) (hsz : xs.length ≤ 16777216) :
    Calls Try.prog 48 #[v] w (RetSet xs w) := by
  obtain ⟨A, c, rfl, -, hnc, hc, hr⟩ := h
  unfold maxLen at hc
  have hM := World.ownsMap_made (H := Unit) w Try.prog 3 (plainElem Try.prog 4)
  have hB0 := (Below.refl w.heap.size w).alloc (Nat.le_refl _) (.map #[] 0)
  have hmm := @run_makeMap Try.prog
  have HW := Lib.hid hw
  clear hw
  go_enter Try.func48, Try.ntmps48
  go_wp2_with fail
  go_loopw [9] (fun i wr => ∃ (k : Nat) (D : DU), k ≤ xs.length ∧ i = .int .i64 k ∧ wr.ownsMap Try.prog 3 (plainElem Try.prog 4) w.heap.size k D ∧ Hid (SetM D (xs.take k)) ∧ Below w.heap.size w wr) (fun i _ => xs.length - (intOf i).toNat)
  case atStart => exact ⟨0, .map [], Nat.zero_le _, rfl, hM, Lib.hid SetM.nil, hB0⟩
  case round =>
    obtain ⟨k, D, hk, rfl, hM', HS, hB⟩ := hrel
    clear hM hB0 hmm
    by_cases hlt : k < xs.length
    · obtain ⟨b, o, rfl, hb, hcell⟩ := hr (by omega)
      obtain ⟨x, hxk, hx⟩ := int_at (fun j u hu => (hB.cell (p := ⟨b, o + j, none⟩) hb).trans (hcell j u hu)) hlt
      have hwx := HW.out x (List.mem_of_getElem? hxk.out)
      clear hcell hr
      go_wp2_with (at_mapUpdate; refine wpList_mapUpdate_own _ rfl _ _ _ 58 rfl 3 4 intK Try.underlying58 _ w.heap.size k D rfl hM' (by unfold maxLen; omega) _ _ (kI x) rfl rfl (keyOf_int_mk Try.underlying3 hwx) (dB true) [] (plainElem_bool Try.underlying4 true) ?_; intro w2 hown2 hgr2)
      have hBn := hB.grown hgr2 hB.size (by intro j hj; injection hj with hj; omega)
      have HN : Hid (SetM (D.put (kI x) (dB true)) (xs.take (k + 1))) := Lib.hid (by
        rw [List.take_add_one, hxk.out]
        exact HS.out.add x)
      go_wp2_with fail
      exact ⟨⟨k + 1, _, by omega, by go_num, hown2, HN, hBn⟩, by simp [intOf]; omega⟩
    · obtain rfl : k = xs.length := by omega
      have hs := HS.out
      rw [List.take_length] at hs
      have HS2 := Lib.hid hs
      clear hs HS
      go_wp2_with fail
      go_ret
      exact ⟨_, D, rfl, hM', HS2.out, Nat.le_refl _, hB⟩
set_option maxHeartbeats 800000 in
theorem safe_look (p g n : Nat) (D : DU) (xs : List Int) (ea eb : Int) (w : World) (hp : w.cell? ⟨p, 0, none⟩ = some (.map (some g))) (hpl : p < w.heap.size) (hM : w.ownsMap Try.prog 3 (plainElem Try.prog 4) g n D) (hS : SetM D xs) (hw : (Lit.int .i64 eb).wf = true) :
    Calls Try.prog 50 #[.agg #[.int .i64 ea, .int .i64 eb], .pointer (some ⟨p, 0, none⟩)] w fun e w' => e = .returned (.bool (decide (eb ∈ xs))) ∧ Below w.heap.size w w' := by
  have hB := (Below.refl w.heap.size w).alloc (Nat.le_refl _) (.cells #[.int .i64 ea, .int .i64 eb] 52)
  have hp' := (hB.cell (p := ⟨p, 0, none⟩) hpl).trans hp
  have hM' := hM.alloc (.cells #[.int .i64 ea, .int .i64 eb] 52)
  have HS := Lib.hid hS
  have hat := hS.2 eb
  clear hS
  go_enter Try.func50, Try.ntmps50
  go_wp2_with (at_lookup; refine wpList_lookup_own_boolG _ rfl _ _ _ rfl 3 4 intK Try.underlying58 Try.underlying4 (zeroBool _) g n D rfl hM' _ (kI eb) rfl (keyOf_int_mk Try.underlying3 hw) _ hat ?_)
  go_ret
  exact ⟨rfl, hB⟩
/-- a closure that answers p of a hold, wherever nothing of w has turned -/
def Tells (fn : FuncId) (cap : Array Value) (hs : List P2) (p : P2 → Bool) (w : World) : Prop :=
  ∀ W e, Below w.heap.size w W → e ∈ hs → Calls Try.prog fn (#[.agg #[.int .i64 e.a, .int .i64 e.b]] ++ cap) W fun r W' => r = .returned (.bool (p e)) ∧ Below W.heap.size W W'
theorem any_take_no {hs : List P2} {p : P2 → Bool} {k : Nat} {e : P2} (h : (hs.take k).any p = false) (he : hs[k]? = some e) (hp : p e = false) : (hs.take (k + 1)).any p = false := by
  rw [List.take_add_one, he, List.any_append, h]
  simp [hp]
set_option maxHeartbeats 1600000 in
theorem indexFuncH (v : Value) (hs : List P2) (g : Nat) (p : P2 → Bool) (w : World) (h : Rd w v 2 hs.length (flc2 hs)) (ht : Tells 50 #[.pointer (some ⟨g, 0, none⟩)] hs p w) :
    Calls Try.prog 74 #[v, .func (.func 50) #[] #[.pointer (some ⟨g, 0, none⟩)]] w fun e w' => ∃ r : Int, e = .returned (.int .i64 r) ∧ decide (0 ≤ r) = hs.any p ∧ Below w.heap.size w w' := by
  obtain ⟨A, c, rfl, -, hnc, hc, hr⟩ := h
  unfold maxLen at hc
  have HT := Lib.hid ht
  clear ht
  go_enter Try.func74, Try.ntmps74
  go_wp2_with fail
  go_loopw [8] (fun i wr => ∃ k : Nat, k ≤ hs.length ∧ i = .int .i64 k ∧ Hid ((hs.take k).any p = false) ∧ Below w.heap.size w wr) (fun i _ => hs.length - (intOf i).toNat)
  case atStart => exact ⟨0, Nat.zero_le _, rfl, Lib.hid (by simp), Below.refl _ _⟩
  case round =>
    obtain ⟨k, hk, rfl, HA, hB⟩ := hrel
    by_cases hlt : k < hs.length
    · obtain ⟨b, o, rfl, hb, hcell⟩ := hr (by omega)
      obtain ⟨e, hek, hx0, hx1⟩ := p2_at (fun j u hu => (hB.cell (p := ⟨b, o + j, none⟩) hb).trans (hcell j u hu)) hlt
      have hq := HT.out wr e hB (List.mem_of_getElem? hek.out)
      obtain ⟨ea, eb⟩ := e
      simp only at hx0 hx1
      obtain ⟨d, hd⟩ : ∃ d, p ⟨ea, eb⟩ = d := ⟨_, rfl⟩
      rw [hd] at hq
      have HQ := Lib.hid hq
      have HD := Lib.hid hd
      clear hcell hr hq hd
      cases d
      · have HN := Lib.hid (any_take_no HA.out hek.out HD.out)
        go_wp2_with (go_at_call 50; refine HQ.out.mono ?_; rintro e w1 ⟨rfl, hb1⟩)
        exact ⟨⟨k + 1, by omega, by go_num, HN, hB.trans (hb1.mono hB.size)⟩, by simp [intOf]; omega⟩
      · have HN : Hid (hs.any p = true) := Lib.hid (List.any_eq_true.2 ⟨_, List.mem_of_getElem? hek.out, HD.out⟩)
        go_wp2_with (go_at_call 50; refine HQ.out.mono ?_; rintro e w1 ⟨rfl, hb1⟩)
        go_ret
        exact ⟨_, rfl, by rw [HN.out]; simp, hB.trans (hb1.mono hB.size)⟩
    · have HN : Hid (hs.any p = false) := Lib.hid (by have := HA.out; rwa [List.take_of_length_le (by omega)] at this)
      go_wp2_with fail
      go_ret
      exact ⟨_, rfl, by rw [HN.out]; rfl, hB⟩
set_option maxHeartbeats 800000 in
theorem containsFuncH (v : Value) (hs : List P2) (g : Nat) (p : P2 → Bool) (w : World) (h : Rd w v 2 hs.length (flc2 hs)) (ht : Tells 50 #[.pointer (some ⟨g, 0, none⟩)] hs p w) :
    Calls Try.prog 49 #[v, .func (.func 50) #[] #[.pointer (some ⟨g, 0, none⟩)]] w fun e w' => e = .returned (.bool (hs.any p)) ∧ Below w.heap.size w w' := by
  have hI := indexFuncH v hs g p w h ht
  obtain ⟨A, c, rfl, -, -, -, -⟩ := h
  have HI := Lib.hid hI
  clear hI ht
  go_enter Try.func49, Try.ntmps49
  go_wp2_with fail
  refine HI.out.mono ?_
  rintro e w1 ⟨r, rfl, hr, hb1⟩
  have HR := Lib.hid hr
  clear hr
  go_wp2_with fail
  go_ret
  exact ⟨ret_bool HR.out, hb1⟩
theorem safeB_any {B : Bn} (h : bnOk B = true) : safeB B = !(B.h.any fun e => decide (e.b ∈ B.f)) := by
  unfold safeB
  rw [h, Bool.true_and, List.not_any_eq_all_not]
  congr 1
  funext e
  congr 1
  rw [Bool.eq_iff_iff, any_mem, decide_eq_true_iff]
set_option maxHeartbeats 1600000 in
theorem impl_SafeBench (a b c d : Value) (B : Bn) (w : World) (r : RdBn w a b c d B) (hw : BnR B) (hsz : szBn B ≤ 16777216) :
    Calls Try.prog 18 #[.agg #[a, b, c, d, .int .i64 B.n]] w fun e w' => e = .returned (.bool (safeB B)) ∧ Below w.heap.size w w' := by
  obtain ⟨A1, c1, A2, c2, A3, c3, A4, c4, ⟨rfl, rfl, rfl, rfl⟩, ⟨g1, g2, g3, g4⟩, ⟨k1, k2, k3, k4⟩⟩ := r.slices
  have hB0 := (Below.refl w.heap.size w).alloc (Nat.le_refl _) (.cells #[.slice A1 B.l.length c1, .slice A2 B.h.length c2, .slice A3 B.w.length c3, .slice A4 B.f.length c4, .int .i64 B.n] 30)
  have k0 := Bk.new w #[.slice A1 B.l.length c1, .slice A2 B.h.length c2, .slice A3 B.w.length c3, .slice A4 B.f.length c4, .int .i64 B.n] 30
  have r0 := r.below hB0
  have hC := impl_BenchOk _ _ _ _ B _ r0 hw hsz
  have hfs : B.f.length ≤ 16777216 := by unfold szBn at hsz; omega
  cases hok : bnOk B
  · rw [hok] at hC
    have HC := Lib.hid hC
    have HO := Lib.hid (safeB_no hok)
    clear hC hok r r0 hsz hw
    go_enter Try.func18, Try.ntmps18
    go_wp2_with (go_at_call 15; refine HC.out.mono ?_; rintro e w1 ⟨rfl, hb1⟩)
    go_ret
    exact ⟨ret_bool HO.out.symm, hB0.trans (hb1.mono hB0.size)⟩
  · rw [hok] at hC
    have HC := Lib.hid hC
    have HO := Lib.hid (safeB_any hok)
    have HOK := Lib.hid (bnOk_iff.1 hok)
    have HR := Lib.hid r0
    have HW := Lib.hid hw
    clear hC hok r r0 hsz hw
    go_enter Try.func18, Try.ntmps18
    go_wp2_with (go_at_call 15; refine HC.out.mono ?_; rintro e w1 ⟨rfl, hb1⟩; have kk := k0.below hb1 k0.lt; obtain ⟨t3, -⟩ := kk.at_ 3 (x := .slice A4 B.f.length c4) rfl)
    have hB1 := hB0.trans (hb1.mono hB0.size)
    have HR1 := Lib.hid (HR.out.below hb1)
    clear hb1 k0 hB0
    refine (impl_setOf _ B.f _ HR1.out.f (fun x hx => HW.out x (by simp [allBn, hx])) hfs).mono ?_
    rintro e w2 ⟨g, D, rfl, hM, hS, hg, hb2⟩
    have kk2 := (kk.below hb2 kk.lt).alloc (.cells #[.map (some g)] 58)
    have kp := Bk.new w2 #[.map (some g)] 58
    have hM2 := hM.alloc (.cells #[.map (some g)] 58)
    have hB2 := (hB1.trans (hb2.mono hB1.size)).alloc (Nat.le_trans hB1.size hb2.size) (.cells #[.map (some g)] 58)
    have r2 := (HR1.out.below hb2).below ((Below.refl _ _).alloc (Nat.le_refl _) (.cells #[.map (some g)] 58))
    obtain ⟨t1, -⟩ := kk2.at_ 1 (x := .slice A2 B.h.length c2) rfl
    have hT : Tells 50 #[.pointer (some ⟨w2.heap.size, 0, none⟩)] B.h (fun e => decide (e.b ∈ B.f)) (w2.alloc (.cells #[.map (some g)] 58)) := fun W e hW he =>
      safe_look w2.heap.size g B.f.length D B.f e.a e.b W ((kp.below hW kp.lt).at_ 0 rfl).1 (kp.below hW kp.lt).lt (hM2.below hW hM2.lt) hS (hIn_wf HOK.out.1.2 (HOK.out.2.2.2.1 e he)).2
    have hCF := containsFuncH _ B.h w2.heap.size (fun e => decide (e.b ∈ B.f)) _ r2.h hT
    have HCF := Lib.hid hCF
    clear hM hM2 hS hb2 hB1 kk hT hCF kp r2
    go_wp2_with (go_at_call 49; refine HCF.out.mono ?_; rintro e w3 ⟨rfl, hb3⟩)
    go_ret
    exact ⟨ret_bool HO.out.symm, hB2.trans (hb3.mono hB2.size)⟩
end Go.Proofs.Ytaokpfdjbpobpaa
