/- FnStripped answers true at every code: stripping a drawn program into which fences were put is stripping the program, and its fences are as many more as the spots. No condition. -/
import Derived.Test.YtgbgjlmkmlhefaaDrawU
import Derived.Test.YtgbgjlmkmlhefaaF3
import Derived.Test.YtgbgjlmkmlhefaaF8
import Derived.Test.YtgbgjlmkmlhefaaV13
import Derived.Test.YtgbgjlmkmlhefaaLaw
namespace Go.Proofs.Ytgbgjlmkmlhefaa
set_option maxRecDepth 20000
set_option linter.unusedSimpArgs false
set_option linter.unusedVariables false
open Go.ChangeShapes Go.WideShapes Go.ChangeAt Go.RowKit
set_option linter.unusedVariables false
set_option maxHeartbeats 1600000 in
theorem sameCodeS (v u : Value) (xs : List Ins) (w : World) (h : Rd w v 4 xs.length (flc xs)) (h' : Rd w u 4 xs.length (flc xs)) :
    Calls Try.prog 71 #[v, u] w fun e w' => e = .returned (.bool true) ∧ Below w.heap.size w w' := by
  obtain ⟨A, c, rfl, -, hnc, hc, hr⟩ := h
  obtain ⟨A', c', rfl, -, hnc', hc', hr'⟩ := h'
  unfold maxLen at hc hc'
  go_enter Try.func71, Try.ntmps71
  go_wp2_with fail
  go_loopw [5] (fun i wr => ∃ k : Nat, k ≤ xs.length ∧ i = .int .i64 k ∧ Below w.heap.size w wr) (fun i _ => xs.length - (intOf i).toNat)
  case atStart => exact ⟨0, Nat.zero_le _, rfl, Below.refl _ _⟩
  case round =>
    obtain ⟨k, hk, rfl, hB⟩ := hrel
    by_cases hlt : k < xs.length
    · obtain ⟨b, o, rfl, hb, hcell⟩ := hr (by omega)
      obtain ⟨b', o', rfl, hb', hcell'⟩ := hr' (by omega)
      obtain ⟨x, hxk, hx0, hx1, hx2, hx3⟩ := ins_at (fun j u hu => (hB.cell (p := ⟨b, o + j, none⟩) hb).trans (hcell j u hu)) hlt
      obtain ⟨y, hyk, hy0, hy1, hy2, hy3⟩ := ins_at (k := k) (fun j u hu => (hB.cell (p := ⟨b', o' + j, none⟩) hb').trans (hcell' j u hu)) hlt
      obtain rfl : x = y := by have := hxk.out.symm.trans hyk.out; injection this
      have HB := Lib.hid hB
      clear hcell hcell' hr hr' hB
      go_wp2_with fail
      go_quiet (fail)
      go_wp2_with fail
      exact ⟨⟨k + 1, by omega, by go_num, HB.out.trans ⟨rfl, rfl, rfl, Nat.le_refl _, fun _ _ => rfl⟩⟩, by simp [intOf]; omega⟩
    · clear hr hr'
      go_wp2_with fail
      go_ret
      exact ⟨rfl, hB⟩
set_option maxHeartbeats 1600000 in
theorem sameProgS (v u : Value) (c : Int) (xss : List (List Ins)) (w : World) (h : RdSS w v xss) (h' : RdSS w u xss) :
    Calls Try.prog 33 #[.agg #[.int .i64 c, v], .agg #[.int .i64 c, u]] w fun e w' => e = .returned (.bool true) ∧ Below w.heap.size w w' := by
  obtain ⟨vs, ⟨A, d, rfl, -, hnc, hc, hr⟩, hin⟩ := h
  obtain ⟨vs', ⟨A', d', rfl, -, hnc', hc', hr'⟩, hin'⟩ := h'
  unfold maxLen at hc hc'
  have k0 := (Bk.new w #[.int .i64 c, .slice A xss.length d] 33).alloc (.cells #[.int .i64 c, .slice A' xss.length d'] 33)
  have k1 := Bk.new (w.alloc (.cells #[.int .i64 c, .slice A xss.length d] 33)) #[.int .i64 c, .slice A' xss.length d'] 33
  have hB0 := ((Below.refl w.heap.size w).alloc (Nat.le_refl _) (.cells #[.int .i64 c, .slice A xss.length d] 33)).alloc (by simp) (.cells #[.int .i64 c, .slice A' xss.length d'] 33)
  rw [World.size_alloc] at k1
  have hcc : (c != c) = false := by simp
  have hll : ((xss.length : Int) != (xss.length : Int)) = false := by simp
  go_enter Try.func33, Try.ntmps33
  go_wp2_with fail
  go_loopw [5] (fun j wr => ∃ k : Nat, k ≤ xss.length ∧ j = .int .i64 k ∧ Below w.heap.size w wr ∧ Bk wr w.heap.size #[.int .i64 c, .slice A xss.length d] 33 ∧ Bk wr (w.heap.size + 1) #[.int .i64 c, .slice A' xss.length d'] 33) (fun j _ => xss.length - (intOf j).toNat)
  case atStart => exact ⟨0, Nat.zero_le _, rfl, hB0, k0, k1⟩
  case round =>
    obtain ⟨k, hk, rfl, hB, p0, p1⟩ := hrel
    clear hB0 k0 k1
    obtain ⟨q0, -⟩ := p0.at_ 1 (x := .slice A xss.length d) rfl
    obtain ⟨q1, -⟩ := p1.at_ 1 (x := .slice A' xss.length d') rfl
    by_cases hlt : k < xss.length
    · obtain ⟨xs, hxk⟩ : ∃ xs, xss[k]? = some xs := ⟨_, List.getElem?_eq_getElem hlt⟩
      obtain ⟨b, o, rfl, hb, hcell⟩ := hr (by omega)
      obtain ⟨b', o', rfl, hb', hcell'⟩ := hr' (by omega)
      obtain ⟨ck, hck, hrk⟩ := hin.at_ hxk
      obtain ⟨ck', hck', hrk'⟩ := hin'.at_ hxk
      have r0 := hrk.below hB
      have r1 := hrk'.below hB
      obtain ⟨Ak, dk, rfl, -, -, -, -⟩ := id r0
      obtain ⟨Ak', dk', rfl, -, -, -, -⟩ := id r1
      have P0 := Past.cell p0.lt q0
      have P1 := Past.cell p1.lt q1
      have P2 := Past.cell (Nat.lt_of_lt_of_le hb hB.size) ((hB.cell (p := ⟨b, o + k, none⟩) hb).trans (hcell k _ hck))
      have P3 := Past.cell (Nat.lt_of_lt_of_le hb' hB.size) ((hB.cell (p := ⟨b', o' + k, none⟩) hb').trans (hcell' k _ hck'))
      have HC : Hid (∀ q : Past wr, Calls Try.prog 71 #[.slice Ak xs.length dk, .slice Ak' xs.length dk'] q.v fun e w' => e = .returned (.bool true) ∧ Below q.v.heap.size q.v w') := Lib.hid fun q => sameCodeS _ _ xs q.v (r0.below q.hb) (r1.below q.hb)
      have HP := Lib.hid (And.intro hB (And.intro p0 p1))
      have hkl : (k : Int) < xss.length := by omega
      clear hcell hcell' hr hr' hin hin' hxk hrk hrk' r0 r1 hck hck' p0 p1 hB
      go_wp2_with fail
      clear q0 q1
      refine wp_region_past (by kernel_rfl) (by kernel_rfl) ?_
      repeat (go_big_quiet_step (first | (go_at_call 71; exact Calls.past_of (HC.out _))))
      refine wpQuiet_nil ?_
      intro _ hw'
      obtain ⟨q, rfl⟩ := hw'
      go_wp2_with fail
      exact ⟨⟨k + 1, by omega, by go_num, HP.out.1.trans (q.hb.mono HP.out.1.size), HP.out.2.1.below q.hb HP.out.2.1.lt, HP.out.2.2.below q.hb HP.out.2.2.lt⟩, by simp [intOf] <;> omega⟩
    · clear hr hr' hin hin'
      go_wp2_with fail
      go_ret
      exact ⟨rfl, hB⟩
set_option maxHeartbeats 400000 in
theorem lawbigS (A : Option Addr) (n c : Nat) (w : World) (hnc : n ≤ c) (hc : c ≤ 9223372036854775807) :
    Calls Try.prog 31 #[.slice A n c] w fun e w' => e = .returned (.bool (decide ((1048576 : Int) < n))) ∧ w = w' := by
  go_enter Try.func31, Try.ntmps31
  go_wp2_with fail
  go_ret
  exact ⟨rfl, rfl⟩
theorem putF_some {p q : Pr} {ss : List P2} (h : putF p ss = some q) : q = putR p ss ∧ progOkF p = true ∧ spotsB p ss = true ∧ progOkF q = true := by
  unfold putF at h
  split at h
  · rename_i h1
    injection h with h
    exact ⟨h.symm, h1.1, h1.2.1, by rw [← h]; exact h1.2.2⟩
  · cases h
theorem costX_le {xss : List (List Ins)} (h : ∀ xs ∈ xss, xs.length ≤ 16) : ∀ k, k ≤ xss.length → costX xss k ≤ 16 * k
  | 0, _ => by simp [costX]
  | k + 1, hk => by
    have ih := costX_le h k (by omega)
    obtain ⟨xs, hx⟩ : ∃ xs, xss[k]? = some xs := ⟨_, List.getElem?_eq_getElem hk⟩
    have h1 := h xs (List.mem_of_getElem? hx)
    have h2 := costN_le xs xs.length
    rw [costX_snoc hx]
    omega
set_option maxHeartbeats 8000000 in
theorem walk_Stripped (A : Option Addr) (n c : Nat) (w : World) (h : Byt w A n) (hnc : n ≤ c) (hc : c ≤ 9223372036854775807) :
    Calls Try.prog 8 #[.slice A n c] w fun e w' => e = .returned (.bool true) ∧ Below w.heap.size w w' := by
  by_cases hn : (1048576 : Int) < n
  · go_enter Try.func8, Try.ntmps8
    go_wp2_with (go_at_call 31; refine (lawbigS _ _ _ _ hnc hc).mono ?_; rintro e w' ⟨rfl, rfl⟩)
    go_ret
    exact ⟨rfl, Below.refl _ _⟩
  · go_enter Try.func8, Try.ntmps8
    go_wp2_with (go_at_call 31; refine (lawbigS _ _ _ _ hnc hc).mono ?_; rintro e w' ⟨rfl, rfl⟩)
    refine (DrawPutFences A n c _ h hnc hc (by omega)).mono ?_
    rintro e w1 ⟨v1, sv, c1, xss, ss, rfl, hR1, hS1, hb1⟩
    obtain ⟨vs1, ⟨A1, d1, rfl, -, -, -, -⟩, -⟩ := id hR1
    obtain ⟨As, ds, rfl, -, hss1, hss2, -⟩ := id hS1
    unfold maxLen at hss2
    obtain ⟨p, hp⟩ : ∃ p : Pr, p = ⟨c1, xss⟩ := ⟨_, rfl⟩
    have hpc : c1 = p.c := by rw [hp]
    have hpx : xss = p.x := by rw [hp]
    rw [hpx] at hR1
    rw [hpc, hpx]
    clear hp
    have k3 := Bk.new w1 #[.int .i64 p.c, .slice A1 p.x.length d1] 33
    have hb2 := (Below.refl _ w1).alloc (Nat.le_refl _) (.cells #[.int .i64 p.c, .slice A1 p.x.length d1] 33)
    obtain ⟨W2, hW2⟩ : ∃ W2, w1.alloc (.cells #[.int .i64 p.c, .slice A1 p.x.length d1] 33) = W2 := ⟨_, rfl⟩
    rw [hW2] at k3 hb2
    have HW2 := Lib.hid hW2
    have HR2 := Lib.hid (hR1.below hb2)
    have HS2 := Lib.hid (hS1.below hb2)
    have HB2 := Lib.hid (hb1.trans (hb2.mono hb1.size))
    have K3 := Lib.hid k3
    have hC := spec_PutFences _ _ p ss W2 HR2.out HS2.out
    obtain ⟨x0, -⟩ := k3.at_ 0 (x := .int .i64 p.c) rfl
    obtain ⟨x1, -⟩ := k3.at_ 1 (x := .slice A1 p.x.length d1) rfl
    clear hR1 hS1 hW2 k3 hb2 hb1 h
    cases hpf : putF p ss with
    | none =>
      rw [hpf] at hC
      have HC := Lib.hid hC
      clear hC hpf
      go_upto_region 4 with (fail)
      rw [HW2.out]
      go_wp2_with fail
      refine HC.out.mono ?_
      rintro e w3 ⟨v3, bs3, rfl, ho3, hlo3, hb3⟩
      have HE := Lib.hid (HB2.out.trans (hb3.mono HB2.out.size))
      simp only [Option.isSome_none]
      obtain ⟨A3, d3, rfl, -, -⟩ := ho3.slice
      clear ho3 hlo3 hb3 x0 x1
      go_wp2_with fail
      go_ret
      exact ⟨rfl, HE.out.alloc HE.out.size _⟩
    | some q =>
      obtain ⟨hq, hokp, hsp, hokq⟩ := putF_some hpf
      have hqc : q.c = p.c := by rw [hq]; rfl
      have hst : strR q = strR p := by rw [hq]; exact strR_put hokp ss
      have hco : costF q = costF p + ss.length := by
        rw [costF_yes hokq, costF_yes hokp, hq, cost_put hokp hsp]
        omega
      have hcb : 0 ≤ costF p ∧ costF p ≤ 48 := by
        have h1 := progOk_parts hokp
        have := costX_le (fun xs hx => codeOk_len (h1.2.2 xs hx)) p.x.length (Nat.le_refl _)
        rw [costF_yes hokp]
        omega
      have hsl := spots_len hsp
      have hsfp : strF p = some (strR p) := by simp [strF, hokp]
      have hsfq : strF q = some (strR p) := by simp [strF, hokq, hst]
      have HP := fun (U : World) (hU : Below W2.heap.size W2 U) => impl_PutFences _ _ p ss U (HR2.out.below hU) (HS2.out.below hU)
      have HT := fun (U : World) (hU : Below W2.heap.size W2 U) => impl_StripFences _ p U (HR2.out.below hU)
      rw [hpf] at hC HP
      rw [hsfp] at HT
      have HC := Lib.hid hC
      have HP := Lib.hid HP
      have HT := Lib.hid HT
      have HSQ := Lib.hid hsfq
      have HCO := Lib.hid hco
      have HCB := Lib.hid hcb
      have HQC := Lib.hid hqc
      clear hC hpf hq hst hco hcb hsfp hsfq hokp hsp hokq hqc
      go_upto_region 4 with (fail)
      rw [HW2.out]
      go_wp2_with fail
      refine HC.out.mono ?_
      rintro e w3 ⟨v3, bs3, rfl, ho3, hlo3, hb3⟩
      simp only [Option.getD_some, Option.isSome_some] at ho3 ⊢
      obtain ⟨A3, d3, rfl, -, -⟩ := ho3.slice
      have k4 := Bk.new w3 #[.int .i64 q.c, .slice A3 q.x.length d3] 33
      have hb4 := (Below.refl _ w3).alloc (Nat.le_refl _) (.cells #[.int .i64 q.c, .slice A3 q.x.length d3] 33)
      obtain ⟨W4, hW4⟩ : ∃ W4, w3.alloc (.cells #[.int .i64 q.c, .slice A3 q.x.length d3] 33) = W4 := ⟨_, rfl⟩
      rw [hW4] at k4 hb4
      have HW4 := Lib.hid hW4
      have K4 := Lib.hid k4
      clear hW4 k4
      have hb4' := hb3.trans (hb4.mono hb3.size)
      have k34 := K3.out.below hb4' K3.out.lt
      have HO4 := Lib.hid (ho3.below hb4)
      have HB4 := Lib.hid hb4'
      clear ho3 hlo3 hb3 hb4 x0 x1
      obtain ⟨x0, -⟩ := k34.at_ 0 (x := .int .i64 p.c) rfl
      obtain ⟨x1, -⟩ := k34.at_ 1 (x := .slice A1 p.x.length d1) rfl
      go_upto_region 7 with (fail)
      rw [HW4.out]
      go_wp2_with fail
      refine (HP.out _ HB4.out).mono ?_
      rintro e w5 ⟨v5, bs5, rfl, ho5, hlo5, hb5⟩
      simp only [Option.getD_some, Option.isSome_some] at ho5 ⊢
      obtain ⟨A5, d5, rfl, -, -⟩ := ho5.slice
      have k6 := Bk.new w5 #[.int .i64 q.c, .slice A5 q.x.length d5] 33
      have hb6 := (Below.refl _ w5).alloc (Nat.le_refl _) (.cells #[.int .i64 q.c, .slice A5 q.x.length d5] 33)
      obtain ⟨W6, hW6⟩ : ∃ W6, w5.alloc (.cells #[.int .i64 q.c, .slice A5 q.x.length d5] 33) = W6 := ⟨_, rfl⟩
      rw [hW6] at k6 hb6
      have HW6 := Lib.hid hW6
      have K6 := Lib.hid k6
      clear hW6 k6
      have hb6' := hb5.trans (hb6.mono hb5.size)
      have hB6 := HB4.out.trans (hb6'.mono HB4.out.size)
      have k36 := K3.out.below hB6 K3.out.lt
      have k46 := K4.out.below hb6' K4.out.lt
      have HO46 := Lib.hid (HO4.out.below hb6')
      have HO6 := Lib.hid (ho5.below hb6)
      have HB6 := Lib.hid hB6
      have K46 := Lib.hid k46
      clear ho5 hlo5 hb5 hb6 hb6' hB6 x0 x1 k34 k46
      obtain ⟨x0, -⟩ := k36.at_ 0 (x := .int .i64 p.c) rfl
      obtain ⟨x1, -⟩ := k36.at_ 1 (x := .slice A1 p.x.length d1) rfl
      go_upto_region 8 with (fail)
      rw [HW6.out]
      go_wp2_with fail
      refine (HT.out _ HB6.out).mono ?_
      rintro e w7 ⟨v7, bs7, rfl, ho7, hlo7, hb7⟩
      simp only [Option.getD_some, Option.isSome_some] at ho7 ⊢
      obtain ⟨A7, d7, rfl, -, -⟩ := ho7.slice
      have k8 := Bk.new w7 #[.int .i64 (strR p).c, .slice A7 (strR p).x.length d7] 33
      have hb8 := (Below.refl _ w7).alloc (Nat.le_refl _) (.cells #[.int .i64 (strR p).c, .slice A7 (strR p).x.length d7] 33)
      obtain ⟨W8, hW8⟩ : ∃ W8, w7.alloc (.cells #[.int .i64 (strR p).c, .slice A7 (strR p).x.length d7] 33) = W8 := ⟨_, rfl⟩
      rw [hW8] at k8 hb8
      have HW8 := Lib.hid hW8
      have K8 := Lib.hid k8
      clear hW8 k8
      have hb8' := hb7.trans (hb8.mono hb7.size)
      have hB8 := HB6.out.trans (hb8'.mono HB6.out.size)
      have k68 := K6.out.below hb8' K6.out.lt
      have K48 := Lib.hid (K46.out.below hb8' K46.out.lt)
      have HO48 := Lib.hid (HO46.out.below hb8')
      have HO68 := Lib.hid (HO6.out.below hb8')
      have HO8 := Lib.hid (ho7.below hb8)
      have HB8 := Lib.hid hB8
      have K68 := Lib.hid k68
      have hTQ := impl_StripFences _ q W8 HO68.out.rd
      rw [HSQ.out] at hTQ
      have HTQ := Lib.hid hTQ
      clear ho7 hlo7 hb7 hb8 hb8' hB8 x0 x1 k36 hTQ
      obtain ⟨x0, -⟩ := k68.at_ 0 (x := .int .i64 q.c) rfl
      obtain ⟨x1, -⟩ := k68.at_ 1 (x := .slice A5 q.x.length d5) rfl
      clear k68
      go_upto_region 9 with (fail)
      rw [HW8.out]
      go_wp2_with fail
      refine HTQ.out.mono ?_
      rintro e w9 ⟨v9, bs9, rfl, ho9, hlo9, hb9⟩
      simp only [Option.getD_some, Option.isSome_some] at ho9 ⊢
      obtain ⟨A9, d9, rfl, -, -⟩ := ho9.slice
      have k10 := Bk.new w9 #[.int .i64 (strR p).c, .slice A9 (strR p).x.length d9] 33
      have hb10 := (Below.refl _ w9).alloc (Nat.le_refl _) (.cells #[.int .i64 (strR p).c, .slice A9 (strR p).x.length d9] 33)
      obtain ⟨W10, hW10⟩ : ∃ W10, w9.alloc (.cells #[.int .i64 (strR p).c, .slice A9 (strR p).x.length d9] 33) = W10 := ⟨_, rfl⟩
      rw [hW10] at k10 hb10
      have HW10 := Lib.hid hW10
      have K10 := Lib.hid k10
      clear hW10 k10
      have hb10' := hb9.trans (hb10.mono hb9.size)
      have hB10 := HB8.out.trans (hb10'.mono HB8.out.size)
      have e3 := K3.out.below hB10 K3.out.lt
      have e4 := K48.out.below hb10' K48.out.lt
      have e6 := K68.out.below hb10' K68.out.lt
      have e8 := K8.out.below hb10' K8.out.lt
      have o4 := HO48.out.below hb10'
      have o6 := HO68.out.below hb10'
      have o8 := HO8.out.below hb10'
      have o10 := ho9.below hb10
      have HB10 := Lib.hid (HB2.out.trans (hB10.mono HB2.out.size))
      have hR10 := HR2.out.below hB10
      have P0 := Past.cell e3.lt (e3.at_ 0 (x := .int .i64 p.c) rfl).1
      have P1 := Past.cell e3.lt (e3.at_ 1 (x := .slice A1 p.x.length d1) rfl).1
      have P2 := Past.cell e4.lt (e4.at_ 0 (x := .int .i64 q.c) rfl).1
      have P3 := Past.cell e4.lt (e4.at_ 1 (x := .slice A3 q.x.length d3) rfl).1
      have P4 := Past.cell e6.lt (e6.at_ 0 (x := .int .i64 q.c) rfl).1
      have P5 := Past.cell e6.lt (e6.at_ 1 (x := .slice A5 q.x.length d5) rfl).1
      have P6 := Past.cell e8.lt (e8.at_ 0 (x := .int .i64 (strR p).c) rfl).1
      have P7 := Past.cell e8.lt (e8.at_ 1 (x := .slice A7 (strR p).x.length d7) rfl).1
      have P8 := Past.cell K10.out.lt (K10.out.at_ 0 (x := .int .i64 (strR p).c) rfl).1
      have P9 := Past.cell K10.out.lt (K10.out.at_ 1 (x := .slice A9 (strR p).x.length d9) rfl).1
      obtain ⟨cp, hcp⟩ : ∃ cp, costF p = cp := ⟨_, rfl⟩
      have hcb := HCB.out
      have D1 : Hid (∀ t : Past W10, Calls Try.prog 33 #[.agg #[.int .i64 q.c, .slice A5 q.x.length d5], .agg #[.int .i64 q.c, .slice A3 q.x.length d3]] t.v fun e w' => e = .returned (.bool true) ∧ Below t.v.heap.size t.v w') := Lib.hid fun t => sameProgS _ _ q.c q.x t.v (o6.rd.below t.hb) (o4.rd.below t.hb)
      have D2 : Hid (∀ t : Past W10, Calls Try.prog 33 #[.agg #[.int .i64 (strR p).c, .slice A7 (strR p).x.length d7], .agg #[.int .i64 (strR p).c, .slice A9 (strR p).x.length d9]] t.v fun e w' => e = .returned (.bool true) ∧ Below t.v.heap.size t.v w') := Lib.hid fun t => sameProgS _ _ (strR p).c (strR p).x t.v (o8.rd.below t.hb) (o10.rd.below t.hb)
      have D3 : Hid (∀ t : Past W10, Calls Try.prog 28 #[.agg #[.int .i64 q.c, .slice A5 q.x.length d5]] t.v fun e w' => e = .returned (.int .i64 (cp + ss.length)) ∧ Below t.v.heap.size t.v w') := Lib.hid fun t => by
        have h := impl_FenceCost _ q t.v (o6.rd.below t.hb)
        rw [HCO.out, hcp] at h
        exact h
      have D4 : Hid (∀ t : Past W10, Calls Try.prog 28 #[.agg #[.int .i64 p.c, .slice A1 p.x.length d1]] t.v fun e w' => e = .returned (.int .i64 cp) ∧ Below t.v.heap.size t.v w') := Lib.hid fun t => by
        have h := impl_FenceCost _ p t.v (hR10.below t.hb)
        rw [hcp] at h
        exact h
      rw [hcp] at hcb
      have hwr : IntKind.i64.wrap (cp + (ss.length : Int)) = cp + ss.length := IntWalk.i64_in _ (by omega)
      clear hcp hB10 hb10 hb10' ho9 hlo9 hb9 e3 e4 e6 e8 o4 o6 o8 o10 hR10 x0 x1
      go_upto_region 10 with (fail)
      rw [HW10.out]
      refine wp_region_past (by kernel_rfl) (by kernel_rfl) ?_
      repeat (go_big_quiet_step (first | (go_at_call_of 33 (Value.slice A5 q.x.length d5 : Value); exact Calls.past_of (D1.out _)) | (go_at_call_of 33 (Value.slice A7 (strR p).x.length d7 : Value); exact Calls.past_of (D2.out _)) | (go_at_call_of 28 (Value.slice A5 q.x.length d5 : Value); exact Calls.past_of (D3.out _)) | (go_at_call_of 28 (Value.slice A1 p.x.length d1 : Value); exact Calls.past_of (D4.out _))))
      refine wpQuiet_nil ?_
      intro _ hw'
      obtain ⟨t, rfl⟩ := hw'
      go_wp2_with fail
      go_ret
      exact ⟨rfl, HB10.out.trans (t.hb.mono HB10.out.size)⟩
set_option maxRecDepth 100000 in
theorem lift_FnStripped (os : Os) (started : os.Started) (H : Type) (enc : TypeId × Value → H) :
    ReturnsInHanded {} Try.checked os 8 .any (Rows.fnStrippedSpec.pre6 enc Try.prog Try.f8 Rows.fnStrippedRow.domain false) (Rows.fnStrippedSpec.post enc Try.prog Try.f8 false true false false) := by
  refine returnsInHanded_of_change (C := Try.checked) (by kernel_rfl) started (by kernel_rfl) Try.func8
    (ChangeSpec.witness6 (enc := enc) (C := Try.checked) false ⟨#[], #[.slice none 0 0], []⟩ 8 (by kernel_rfl) (by kernel_rfl) (by kernel_rfl) (by kernel_rfl)) ?_
  intro W base args ds gs before hval0 hW hcnd _
  have hval : ∀ (j : Nat) t v, Try.f8.params[j]? = some t → args[j]? = some v → Value.okWide Try.prog W .any base t v := hval0
  have hW' := hW
  obtain ⟨p, q, hA0, hV, rfl, hfz, hnd⟩ := hW
  have hA : DataW.TrodAll enc Try.prog W 0 (fun _ => true) true Try.f8.params.toList args.toList ds p := hA0
  rw [Try.params8] at hA hval
  obtain ⟨v0, vs0, d0, ds0, p0, q0, hargs, rfl, rfl, h0, r0⟩ := trodAll_cons hA
  obtain ⟨rfl, rfl, rfl⟩ := trodAll_nil r0
  obtain rfl : args = #[v0] := by cases args; simp_all
  obtain ⟨rfl, rfl⟩ := trodVars_none hV
  obtain ⟨A, n, c, rfl, hb, hnc, hc⟩ := read_bytes Try.underlying51 Try.underlying5 (by kernel_rfl) (hval 0 _ v0 rfl rfl) h0
  refine (walk_Stripped A n c W hb hnc hc).mono fun e W' ⟨he, hb⟩ => ?_
  subst he
  exact ⟨_, rfl, post_law (by kernel_rfl) rfl rfl (by kernel_rfl) Try.underlying4 (of_decide_eq_true (by kernel_rfl)) hW' hb⟩
theorem FnStripped_holds : Rows.FnStrippedSaid :=
  OpenClaim.holds_of_wide 8 Try.f8 rfl rfl rfl rfl rfl rfl rfl ⟨rfl, rfl, rfl, rfl, rfl⟩ rfl rfl rfl rfl rfl (by kernel_rfl) Try.func8 (by kernel_rfl)
    (of_decide_eq_true (by kernel_rfl)) (by unfold Func.isWrapper; first | (rw [if_pos (by decide +kernel)]; kernel_rfl) | (rw [if_neg (by decide +kernel)]; exact ⟨rfl, rfl⟩))
    (fun os started H enc _ => lift_FnStripped os started H enc)
#print axioms FnStripped_holds
end Go.Proofs.Ytgbgjlmkmlhefaa
