/- FnBuffers answers true at every code: reading through a drawn buffer is peeking where it was drained as a whole, and DrainOne again and again is DrainAll. No condition. -/
import Derived.Test.YtiflooopfpcelabDrawD
import Derived.Test.YtiflooopfpcelabB6
import Derived.Test.YtiflooopfpcelabB8
import Derived.Test.YtiflooopfpcelabLBig
import Derived.Test.YtiflooopfpcelabLaw
namespace Go.Proofs.Ytiflooopfpcelab
set_option maxRecDepth 20000
set_option linter.unusedSimpArgs false
set_option linter.unusedVariables false
open Go.ChangeShapes Go.WideShapes Go.ChangeAt Go.RowKit
set_option linter.unusedVariables false
theorem pokeF_ok {ms : List Int} {a v : Int} (h : pokeOk ms a v = true) : ∃ k : Nat, a = k ∧ k < ms.length ∧ pokeF ms a v = ms.set k v ∧ memOk ms = true ∧ valB v = true := by
  have h' := h
  simp only [pokeOk, Bool.and_eq_true] at h'
  obtain ⟨h1, h2⟩ := inB_true h'.1.2
  obtain ⟨k, rfl⟩ := Int.eq_ofNat_of_zero_le h1
  exact ⟨k, rfl, by omega, by simp [pokeF, h], h'.1.1, h'.2⟩
theorem peekF_at {ms : List Int} (hm : memOk ms = true) {i : Nat} (hi : i < ms.length) : peekF ms i = ms.getD i 0 := by
  have h1 : inB (i : Int) 0 (ms.length - 1) = true := by simp [inB]; omega
  simp [peekF, hm, h1]
theorem peek_poke {ms : List Int} {a v : Int} (h : pokeOk ms a v = true) {i : Nat} (hi : i < ms.length) : peekF (pokeF ms a v) i = if a = (i : Int) then v else peekF ms i := by
  obtain ⟨k, rfl, hk, e, hm, hv⟩ := pokeF_ok h
  have hs := memOk_set (k := k) hm hv
  rw [e]
  by_cases hki : k = i
  · subst hki
    rw [if_pos rfl]
    exact peek_same hs hk
  · rw [if_neg (by omega), peek_other hs hi (by omega), peekF_at hm hi]
theorem newest_cons (x : P2) (xs : List P2) (a : Int) : newestF (x :: xs) a = (newestF xs a).or (if x.a == a then some x else none) := by
  unfold newestF
  rw [List.reverse_cons, List.find?_append]
  congr 1
  simp only [List.find?_cons, List.find?_nil]
  cases x.a == a <;> rfl
theorem run_pick : ∀ {xs : List P2} {ms E : List Int}, runF xs ms = some E → ∀ {i : Nat}, i < ms.length → pickF xs ms i = peekF E i
  | [], ms, E, h, i, hi => by
    simp only [runF, Option.some.injEq] at h
    subst h
    rfl
  | x :: xs, ms, E, h, i, hi => by
    unfold runF at h
    split at h
    · rename_i hp
      have h2 := run_pick h (i := i) (by rw [pokeF_len]; exact hi)
      rw [← h2]
      unfold pickF
      rw [newest_cons, peek_poke hp hi]
      cases hn : newestF xs i with
      | some y => rfl
      | none =>
        simp only [Option.none_or]
        by_cases hx : x.a = (i : Int)
        · simp [hx]
        · simp [hx]
    · cases h
theorem run_memOk : ∀ {xs : List P2} {ms E : List Int}, runF xs ms = some E → memOk ms = true → memOk E = true
  | [], ms, E, h, hm => by
    simp only [runF, Option.some.injEq] at h
    subst h
    exact hm
  | x :: xs, ms, E, h, hm => by
    unfold runF at h
    split at h
    · rename_i hp
      obtain ⟨k, e, hk, e2, h3, h4⟩ := pokeF_ok hp
      exact run_memOk h (by rw [e2]; exact memOk_set hm h4)
    · cases h
theorem run_drOk {ys : List P2} {M E : List Int} (hb : bufOk ys = true) (h : runF ys M = some E) (hl : 0 < ys.length) : drOk ys M = true := by
  cases ys with
  | nil => simp at hl
  | cons y zs =>
    unfold runF at h
    split at h
    · rename_i hp
      simp [drOk, hb, hp]
    · cases h
set_option maxHeartbeats 8000000 in
theorem walk_Buffers (A : Option Addr) (n c : Nat) (w : World) (h : Byt w A n) (hnc : n ≤ c) (hc : c ≤ 9223372036854775807) :
    Calls Try.prog 8 #[.slice A n c] w fun e w' => e = .returned (.bool true) ∧ Below w.heap.size w w' := by
  by_cases hn : (1048576 : Int) < n
  · go_enter Try.func8, Try.ntmps8
    go_wp2_with (go_at_call 15; refine (lawbig _ _ _ _ hnc hc).mono ?_; rintro e w' ⟨rfl, rfl⟩)
    go_ret
    exact ⟨rfl, Below.refl _ _⟩
  · go_enter Try.func8, Try.ntmps8
    go_wp2_with (go_at_call 15; refine (lawbig _ _ _ _ hnc hc).mono ?_; rintro e w' ⟨rfl, rfl⟩)
    refine (DrawDrainAll A n c _ h hnc hc (by omega)).mono ?_
    rintro e w1 ⟨v1, L, bs1, v2, ms, bs2, rfl, ho1, hL, ho2, hm17, hl1, hl2, hb1⟩
    obtain ⟨A1, c1, rfl, hcc1, hcm1⟩ := ho1.slice
    obtain ⟨A2, c2, rfl, -, -⟩ := ho2.slice
    have hB2 := hb1.alloc hb1.size (.cells #[.slice A2 ms.length c2] 26)
    have k4 := Bk.new w1 #[.slice A2 ms.length c2] 26
    have ho1a := ho1.below ((Below.refl _ _).alloc (Nat.le_refl _) (.cells #[.slice A2 ms.length c2] 26))
    have ho2a := ho2.below ((Below.refl _ _).alloc (Nat.le_refl _) (.cells #[.slice A2 ms.length c2] 26))
    clear ho1 ho2 hl1 hl2 hn h
    go_wp2_with fail
    refine (spec_DrainAll _ _ L ms _ ho1a.rd ho2a.rd (by omega)).mono ?_
    rintro e w3 ⟨v3, bs3, rfl, ho3, hbs3, hb3⟩
    obtain ⟨A3, c3, rfl, -, -⟩ := ho3.slice
    have hB3 := hB2.trans (hb3.mono hB2.size)
    have hB3a := hB3.alloc hB3.size (.cells #[.slice A3 (daF L ms).length c3] 26)
    have k43 := (k4.below hb3 k4.lt).alloc (.cells #[.slice A3 (daF L ms).length c3] 26)
    have ho1b := (ho1a.below hb3).below ((Below.refl _ _).alloc (Nat.le_refl _) (.cells #[.slice A3 (daF L ms).length c3] 26))
    have ho2b := (ho2a.below hb3).below ((Below.refl _ _).alloc (Nat.le_refl _) (.cells #[.slice A3 (daF L ms).length c3] 26))
    obtain ⟨hc43, -⟩ := k43.at_ 0 (x := .slice A2 ms.length c2) rfl
    clear ho1a ho2a k4 hB2 ho3 hbs3
    cases hok : daOk L ms
    · go_wp2_with fail
      go_ret
      exact ⟨rfl, hB3a⟩
    · have hok' : (bufOk L = true ∧ memOk ms = true) ∧ (runF L ms).isSome = true := by simpa [daOk] using hok
      obtain ⟨⟨hbuf, hmem⟩, hsome⟩ := hok'
      obtain ⟨E, hE⟩ := Option.isSome_iff_exists.1 hsome
      have hdaF : daF L ms = E := by simp [daF, hbuf, hmem, hE]
      have hEl : E.length = ms.length := runF_len hE
      have HBuf := Lib.hid hbuf
      have HMem := Lib.hid hmem
      have HE := Lib.hid hE
      have HEM := Lib.hid (run_memOk hE hmem)
      have hE17 : E.length ≤ 17 := by omega
      have HEl := Lib.hid hEl
      have HD := Lib.hid hdaF
      have HOK := Lib.hid hok
      clear hbuf hmem hsome hE hok hEl hdaF
      go_wp2_with fail
      refine (impl_DrainAll _ _ L ms _ ho1b.rd ho2b.rd (by omega)).mono ?_
      rintro e w5 ⟨v5, bs5, rfl, ho5, hbs5, hb5⟩
      rw [HOK.out]
      rw [HD.out] at ho5
      obtain ⟨A5, c5, rfl, -, -⟩ := ho5.slice
      have hB5 := hB3a.trans (hb5.mono hB3a.size)
      have hB6 := hB5.alloc hB5.size (.cells #[.slice A5 E.length c5] 26)
      have k46 := (k43.below hb5 k43.lt).alloc (.cells #[.slice A5 E.length c5] 26)
      have k76 := Bk.new w5 #[.slice A5 E.length c5] 26
      have ho16 := (ho1b.below hb5).below ((Below.refl _ _).alloc (Nat.le_refl _) (.cells #[.slice A5 E.length c5] 26))
      have ho26 := (ho2b.below hb5).below ((Below.refl _ _).alloc (Nat.le_refl _) (.cells #[.slice A5 E.length c5] 26))
      have hb5lt := ho5.lt
      have ho56 := ho5.below ((Below.refl _ _).alloc (Nat.le_refl _) (.cells #[.slice A5 E.length c5] 26))
      obtain ⟨W6, hW6⟩ : ∃ W6, w5.alloc (.cells #[.slice A5 E.length c5] 26) = W6 := ⟨_, rfl⟩
      rw [hW6] at hB6 k46 k76 ho16 ho26 ho56
      clear hc43 k43 ho1b ho2b hB3 hB3a hb3 hb5 ho5 hbs5 hB5 hb1
      go_wp2_with fail
      go_loopw [9] (fun i wr => ∃ j : Nat, j ≤ ms.length ∧ i = .int .i64 j ∧ Below W6.heap.size W6 wr) (fun i _ => ms.length - (intOf i).toNat)
      case atStart => exact ⟨0, Nat.zero_le _, rfl, Below.refl _ _⟩
      case round =>
        obtain ⟨j, hj, rfl, hbr⟩ := hrel
        have k4r := k46.below hbr k46.lt
        have k7r := k76.below hbr k76.lt
        have o1r := ho16.below hbr
        have o2r := ho26.below hbr
        have o5r := ho56.below hbr
        have hBr := hB6.trans (hbr.mono hB6.size)
        obtain ⟨hc4, hf4⟩ := k4r.at_ 0 (x := .slice A2 ms.length c2) rfl
        obtain ⟨hc7, hf7⟩ := k7r.at_ 0 (x := .slice A5 E.length c5) rfl
        clear hW6
        by_cases hlt : j < ms.length
        · have hpk := run_pick HE.out hlt
          obtain ⟨y, hy⟩ : ∃ y, peekF E j = y := ⟨_, rfl⟩
          have hrd : readF3 L ms j = y := by rw [← hy, ← hpk]; simp [readF3, HBuf.out, HMem.out]
          have HY := Lib.hid hy
          have HRD := Lib.hid hrd
          have hwf : (Lit.int .i64 (j : Int)).wf = true := WalkArith.wf_i64 (by omega)
          have hyy : (y != y) = false := by simp
          have HS9 : Hid (∀ W : World, Below wr.heap.size wr W → Below wr.heap.size wr W ∧ W.cell? ⟨w1.heap.size, 0, none⟩ = some (.slice A2 ms.length c2) ∧ W.cell? ⟨w5.heap.size, 0, none⟩ = some (.slice A5 E.length c5)) :=
            Lib.hid fun W hW => ⟨hW, (hW.cell (p := ⟨w1.heap.size, 0, none⟩) k4r.lt).trans hc4, (hW.cell (p := ⟨w5.heap.size, 0, none⟩) k7r.lt).trans hc7⟩
          have HO1 := Lib.hid o1r
          have HO2 := Lib.hid o2r
          have HO5 := Lib.hid o5r
          clear hpk hrd hy o1r o2r o5r k4r k7r
          go_wp2_with fail
          go_region_held3 (fun W => Below wr.heap.size wr W ∧ W.cell? ⟨w1.heap.size, 0, none⟩ = some (.slice A2 ms.length c2) ∧ W.cell? ⟨w5.heap.size, 0, none⟩ = some (.slice A5 E.length c5))
            (first | (exact HS9.out _ (Below.refl _ _).drew) | (exact HS9.out _ (by assumption)))
            (first
              | (go_at_call 39; have hS := (‹Below wr.heap.size wr _ ∧ _›).1; refine (impl_ReadThrough _ _ L ms j _ (HO1.out.below hS).rd (HO2.out.below hS).rd hwf).mono ?_; rintro e w8 ⟨rfl, hb8⟩; rw [HRD.out]; have hS8 := hS.trans (hb8.mono hS.size); clear hS)
              | (go_at_call 19; have hS := (‹Below wr.heap.size wr _ ∧ _›).1; refine (impl_Peek _ E j _ (HO5.out.below hS).rd hwf).mono ?_; rintro e w9 ⟨rfl, hb9⟩; rw [HY.out]; have hS9 := hS.trans (hb9.mono hS.size); clear hS))
          have hS9 := (‹Below wr.heap.size wr _ ∧ _›).1
          go_wp2_with fail
          exact ⟨⟨j + 1, by omega, by go_num, hbr.trans (hS9.mono hbr.size)⟩, by simp [intOf]; omega⟩
        · obtain ⟨_, _, e0, -, hcy, hcy2, -⟩ := id o1r.rd
          injection e0 with e1 e2 e3
          subst e1 e3
          unfold maxLen at hcy2
          have hB7 := hBr.alloc hBr.size (.cells #[.slice A2 ms.length c2] 26)
          have k77 := k7r.alloc (.cells #[.slice A2 ms.length c2] 26)
          have k11 := Bk.new wr #[.slice A2 ms.length c2] 26
          have q1 := o1r.below ((Below.refl _ _).alloc (Nat.le_refl _) (.cells #[.slice A2 ms.length c2] 26))
          have q2 := o2r.below ((Below.refl _ _).alloc (Nat.le_refl _) (.cells #[.slice A2 ms.length c2] 26))
          have q5 := o5r.below ((Below.refl _ _).alloc (Nat.le_refl _) (.cells #[.slice A2 ms.length c2] 26))
          obtain ⟨W7, hW7⟩ : ∃ W7, wr.alloc (.cells #[.slice A2 ms.length c2] 26) = W7 := ⟨_, rfl⟩
          have hz7 : wr.heap.size < W7.heap.size := by rw [← hW7]; simp
          rw [hW7] at hB7 k77 k11 q1 q2 q5
          have hw5 : w5.heap.size < wr.heap.size := k7r.lt
          have hb5lo : w.heap.size ≤ wr.heap.size := hBr.size
          obtain ⟨g11, hg11⟩ : ∃ g11, wr.heap.size = g11 := ⟨_, rfl⟩
          rw [hg11] at k11 hw5 hz7 hb5lo
          have R1 := q1.rd
          have R2 := q2.rd
          have R5 := q5
          have hms17 : ms.length ≤ 16777215 := by omega
          clear o1r o2r o5r k4r k7r ho16 ho26 ho56 k46 k76 hB6 hbr hBr
          go_wp2_with fail
          clear hW7 hc4 hf4 hc7 hf7 hg11
          go_loopw [10, 12] (fun left i wz => ∃ (k : Nat) (ys : List P2) (M : List Int) (Ay AM : Option Addr) (cy cM : Nat), k ≤ L.length ∧ i = .int .i64 k ∧ ys.length + k = L.length ∧ left = .slice Ay ys.length cy ∧ Hid (runF ys M = some E) ∧ Hid (bufOk ys = true) ∧ M.length ≤ 16777215 ∧
            Rd wz (.slice Ay ys.length cy) 2 ys.length (flc2 ys) ∧ Rd wz (.slice AM M.length cM) 1 M.length (ints M) ∧ Own wz (.slice A5 E.length c5) 1 E.length (ints E) bs5 ∧ Bk wz g11 #[.slice AM M.length cM] 26 ∧ Bk wz w5.heap.size #[.slice A5 E.length c5] 26 ∧ Below w.heap.size w wz) (fun _ i _ => L.length - (intOf i).toNat)
          case atStart => exact ⟨0, L, ms, A1, A2, c1, c2, Nat.zero_le _, rfl, rfl, rfl, HE, HBuf, hms17, R1, R2, R5, k11, k77, hB7⟩
          case round =>
            obtain ⟨k, ys, M, Ay, AM, cy, cM, hk, rfl, hyk, rfl, HRu, HBy, hMl, hRy, hRM, hRE, kM, kE, hB⟩ := hrel
            clear R1 R2 R5 q1 q2 q5 k11 k77 hB7 hz7
            obtain ⟨hcM, hfM⟩ := kM.at_ 0 (x := .slice AM M.length cM) rfl
            obtain ⟨hcE, -⟩ := kE.at_ 0 (x := .slice A5 E.length c5) rfl
            obtain ⟨_, _, e0, -, hcz, hcz2, -⟩ := id hRy
            injection e0 with e1 e2 e3
            subst e1 e3
            unfold maxLen at hcz2
            have hys4 : ys.length ≤ 4 := by omega
            by_cases hlt : k < L.length
            · have hok := run_drOk HBy.out HRu.out (by omega)
              obtain ⟨t1, t2, t3⟩ := dr_true hok
              have hM2 := drM_len ys M
              go_wp2_with fail
              refine (impl_DrainOne _ _ ys M _ hRy hRM (by omega) hMl).mono ?_
              rintro e w6 ⟨x1, bx1, x2, bx2, mid, rfl, p1, p2, lx1, -, lx2, hmid, hb6⟩
              rw [hok]
              obtain ⟨zs, hzs⟩ : ∃ zs, drB ys M = zs := ⟨_, rfl⟩
              obtain ⟨N, hN⟩ : ∃ N, drM ys M = N := ⟨_, rfl⟩
              rw [hzs] at t1 t2 t3 p1
              rw [hN] at t1 hM2 p2
              obtain ⟨A7, c7, rfl, hcc7, hcm7⟩ := p1.slice
              obtain ⟨A8, c8, rfl, -, -⟩ := p2.slice
              have kM6 := (kM.below hb6 kM.lt).alloc (.cells #[.slice A8 N.length c8] 26)
              have kE6 := (kE.below hb6 kE.lt).alloc (.cells #[.slice A8 N.length c8] 26)
              have n6 := Bk.new w6 #[.slice A8 N.length c8] 26
              have hB6' := hB.trans (hb6.mono hB.size)
              have hB7 := hB6'.alloc hB6'.size (.cells #[.slice A8 N.length c8] 26)
              have p1a := p1.below ((Below.refl _ _).alloc (Nat.le_refl _) (.cells #[.slice A8 N.length c8] 26))
              have p2a := p2.below ((Below.refl _ _).alloc (Nat.le_refl _) (.cells #[.slice A8 N.length c8] 26))
              have rE := (hRE.below hb6).below ((Below.refl _ _).alloc (Nat.le_refl _) (.cells #[.slice A8 N.length c8] 26))
              have hMlt := kM.lt
              obtain ⟨hcM6, hfM6⟩ := kM6.at_ 0 (x := .slice AM M.length cM) rfl
              obtain ⟨hcE6, -⟩ := kE6.at_ 0 (x := .slice A5 E.length c5) rfl
              obtain ⟨hcN6, -⟩ := n6.at_ 0 (x := .slice A8 N.length c8) rfl
              have hzl : ((zs.length : Int) != (L.length : Int) - k - 1) = false := by simp; omega
              have hne5 : w5.heap.size ≠ g11 := by omega
              have hz6 := hb6.size
              have hE9 : ∀ W, W = (w6.alloc (.cells #[.slice A8 N.length c8] 26)).setCell ⟨g11, 0, none⟩ (.slice A8 N.length c8) →
                  Rd W (.slice A7 zs.length c7) 2 zs.length (flc2 zs) ∧ Rd W (.slice A8 N.length c8) 1 N.length (ints N) ∧ Own W (.slice A5 E.length c5) 1 E.length (ints E) bs5 ∧ Bk W g11 #[.slice A8 N.length c8] 26 ∧ Bk W w5.heap.size #[.slice A5 E.length c5] 26 ∧ Below w.heap.size w W := by
                rintro W rfl
                have hww : w.heap.size ≤ g11 := by have := hb5lo; omega
                exact ⟨(p1a.far fun k hk => by have := lx1 k hk; omega).rd, (p2a.far fun k hk => by have := lx2 k hk; omega).rd, rE.far fun k hk => by have := hb5lt k hk; omega,
                  (show Bk _ g11 #[.slice A8 N.length c8] 26 from by have := kM6.set_ 0 (.slice A8 N.length c8); simp only [List.setIfInBounds_toArray, List.set_cons_zero] at this; exact this), kE6.far (by show w5.heap.size ≠ g11; omega) _, hB7.setCell (by show w.heap.size ≤ g11; omega) _⟩
              have HE9 := Lib.hid hE9
              have HRu2 := Lib.hid (t1.symm.trans HRu.out)
              have HBz := Lib.hid t2
              have hN2 : N.length ≤ 16777215 := by omega
              have hzk : zs.length + (k + 1) = L.length := by omega
              clear hcM hfM hcE hok t1 t2 t3 hM2 hzs hN p1 p2 p1a p2a kM6 kE6 n6 hB6' hB7 rE hE9 hRy hRM hRE kM kE hB lx1 lx2
              go_wp2_with fail
              exact ⟨⟨k + 1, zs, N, A7, A8, c7, c8, by omega, by go_num, hzk, rfl, HRu2, HBz, hN2, (HE9.out _ rfl).1, (HE9.out _ rfl).2.1, (HE9.out _ rfl).2.2.1, (HE9.out _ rfl).2.2.2.1, (HE9.out _ rfl).2.2.2.2.1, (HE9.out _ rfl).2.2.2.2.2⟩, by simp [intOf]; omega⟩
            · have hl0 : ys.length = 0 := by omega
              have hys : ys = [] := List.eq_nil_of_length_eq_zero hl0
              have hME : M = E := by
                have := HRu.out
                rw [hys] at this
                simpa [runF] using this
              have hdr : drOk ys M = false := by rw [hys]; rfl
              have hsm : sameF M E = true := by rw [hME]; simp [sameF, HEM.out]
              have HSM := Lib.hid hsm
              have HDR := Lib.hid hdr
              clear hl0 hys hME hdr hsm
              go_wp2_with fail
              refine (impl_DrainOne _ _ ys M _ hRy hRM (by omega) hMl).mono ?_
              rintro e w6 ⟨x1, bx1, x2, bx2, mid, rfl, p1, p2, -, -, lx2, hmid, hb6⟩
              rw [HDR.out]
              obtain ⟨A8, c8, rfl, -, -⟩ := p2.slice
              have kM6 := (kM.below hb6 kM.lt).alloc (.cells #[.slice A8 (drM ys M).length c8] 26)
              have kE6 := (kE.below hb6 kE.lt).alloc (.cells #[.slice A8 (drM ys M).length c8] 26)
              have hB6' := hB.trans (hb6.mono hB.size)
              have hB7 := hB6'.alloc hB6'.size (.cells #[.slice A8 (drM ys M).length c8] 26)
              have rM := (hRM.below hb6).below ((Below.refl _ _).alloc (Nat.le_refl _) (.cells #[.slice A8 (drM ys M).length c8] 26))
              have rE := (hRE.below hb6).below ((Below.refl _ _).alloc (Nat.le_refl _) (.cells #[.slice A8 (drM ys M).length c8] 26))
              obtain ⟨hcM6, -⟩ := kM6.at_ 0 (x := .slice AM M.length cM) rfl
              obtain ⟨hcE6, -⟩ := kE6.at_ 0 (x := .slice A5 E.length c5) rfl
              clear hcM hfM hcE
              go_wp2_with fail
              refine (impl_SameMem _ _ M E _ rM rE.rd).mono ?_
              rintro e w7 ⟨rfl, hb7⟩
              rw [HSM.out]
              go_wp2_with fail
              go_ret
              exact ⟨rfl, hB7.trans (hb7.mono hB7.size)⟩
set_option maxRecDepth 100000 in
theorem lift_FnBuffers (os : Os) (started : os.Started) (H : Type) (enc : TypeId × Value → H) :
    ReturnsInHanded {} Try.checked os 8 .any (Rows.fnBuffersSpec.pre6 enc Try.prog Try.f8 Rows.fnBuffersRow.domain false) (Rows.fnBuffersSpec.post enc Try.prog Try.f8 false true false false) := by
  refine returnsInHanded_of_change (C := Try.checked) (by kernel_rfl) started (by kernel_rfl) Try.func8
    (ChangeSpec.witness6 (enc := enc) (C := Try.checked) false ⟨#[], #[.slice none 0 0], []⟩ 8 (by kernel_rfl) (by kernel_rfl) (by kernel_rfl) (by kernel_rfl)) ?_
  intro W base args ds gs before hval0 hW hcnd _
  have hval : ∀ (j : Nat) t v, Try.f8.params[j]? = some t → args[j]? = some v → Value.okWide Try.prog W .any base t v := hval0
  have hW' := hW
  obtain ⟨p, q, hA0, hV, rfl, hfz, hnd⟩ := hW
  have hA : DataW.TrodAll enc Try.prog W 0 (fun _ => true) true Try.f8.params.toList args.toList ds p := hA0
  rw [Try.params8] at hA hval
  obtain ⟨v0, vs0, d0, ds0, p0, q0, hargs, rfl, rfl, h0, r0⟩ := trodAll_cons hA
  obtain ⟨rfl, rfl, rfl⟩ := trodAll_nil r0
  obtain rfl : args = #[v0] := by cases args; simp_all
  obtain ⟨rfl, rfl⟩ := trodVars_none hV
  obtain ⟨A, n, c, rfl, hb, hnc, hc⟩ := read_bytes Try.underlying22 Try.underlying5 (by kernel_rfl) (hval 0 _ v0 rfl rfl) h0
  refine (walk_Buffers A n c W hb hnc hc).mono fun e W' ⟨he, hb⟩ => ?_
  subst he
  exact ⟨_, rfl, post_law (by kernel_rfl) rfl rfl (by kernel_rfl) Try.underlying4 (of_decide_eq_true (by kernel_rfl)) hW' hb⟩
theorem FnBuffers_holds : Rows.FnBuffersSaid :=
  OpenClaim.holds_of_wide 8 Try.f8 rfl rfl rfl rfl rfl rfl rfl ⟨rfl, rfl, rfl, rfl, rfl⟩ rfl rfl rfl rfl rfl (by kernel_rfl) Try.func8 (by kernel_rfl)
    (of_decide_eq_true (by kernel_rfl)) (by unfold Func.isWrapper; first | (rw [if_pos (by decide +kernel)]; kernel_rfl) | (rw [if_neg (by decide +kernel)]; exact ⟨rfl, rfl⟩))
    (fun os started H enc _ => lift_FnBuffers os started H enc)
#print axioms FnBuffers_holds
end Go.Proofs.Ytiflooopfpcelab
