/- Contracts of chapter 3's model functions (package spec): DrainAll. Condition: the slices can be read. -/
import Derived.Test.YtiflooopfpcelabB3
import Derived.Deep.RegionHeld3
import Derived.Deep.DeepCutAuto
namespace Go.Proofs.Ytiflooopfpcelab
set_option maxRecDepth 20000
set_option linter.unusedSimpArgs false
set_option linter.unusedVariables false
open Go.ChangeShapes Go.WideShapes Go.ChangeAt Go.RowKit
set_option linter.unusedVariables false
def runF : List P2 → List Int → Option (List Int)
  | [], ms => some ms
  | x :: xs, ms => if pokeOk ms x.a x.b then runF xs (pokeF ms x.a x.b) else none
def daOk (xs : List P2) (ms : List Int) : Bool := bufOk xs && memOk ms && (runF xs ms).isSome
def daF (xs : List P2) (ms : List Int) : List Int := if bufOk xs && memOk ms then (runF xs ms).getD ms else ms
theorem runF_len : ∀ {xs : List P2} {ms ns : List Int}, runF xs ms = some ns → ns.length = ms.length
  | [], ms, ns, h => by simp only [runF, Option.some.injEq] at h; rw [h]
  | x :: xs, ms, ns, h => by
    unfold runF at h
    split at h
    · rw [runF_len h, pokeF_len]
    · cases h
theorem daF_len (xs : List P2) (ms : List Int) : (daF xs ms).length = ms.length := by
  unfold daF
  split
  · cases h : runF xs ms with
    | none => rfl
    | some ns => exact runF_len h
  · rfl
theorem runF_drop {xs : List P2} {k : Nat} {x : P2} {M : List Int} (h : xs[k]? = some x) : runF (xs.drop k) M = if pokeOk M x.a x.b then runF (xs.drop (k + 1)) (pokeF M x.a x.b) else none := by
  obtain ⟨h1, h2⟩ := List.getElem?_eq_some_iff.1 h
  rw [List.drop_eq_getElem_cons h1, h2]
  rfl
/-- the end of DrainAll: a copy of the memory, in the result's cell -/
theorem mem_back {w wc w7 : World} {ms L : List Int} {ok o2 : Bool} {A7 : Option Addr} {c7 : Nat} {bs7 : List Nat} {x : Value} (hB : Below w.heap.size w wc) (hlc : w.heap.size + 2 ≤ wc.heap.size) (h7 : Own w7 (.slice A7 ms.length c7) 1 ms.length (ints ms) bs7) (hbs7 : ∀ b ∈ bs7, wc.heap.size ≤ b) (hb7 : Below wc.heap.size wc w7)
    (HF : L = ms ∧ ok = o2) : RetMemB L ok w (.returned (.tuple #[.agg #[.slice A7 ms.length c7], .bool o2])) (w7.setCell ⟨w.heap.size + 1, 0, none⟩ x) := by
  obtain ⟨rfl, rfl⟩ := HF
  exact ⟨_, bs7, rfl, h7.far fun k hk => by have := hbs7 k hk; omega, fun b hb => by have := hbs7 b hb; omega, (hB.trans (hb7.mono hB.size)).setCell (Nat.le_succ _) _⟩
set_option maxHeartbeats 3200000 in
theorem spec_DrainAll (v u : Value) (xs : List P2) (ms : List Int) (w : World) (h : Rd w v 2 xs.length (flc2 xs)) (hm : Rd w u 1 ms.length (ints ms)) (hsm : ms.length ≤ 16777215) :
    Calls Try.prog 37 #[v, .agg #[u]] w (RetMemB (daF xs ms) (daOk xs ms) w) := by
  obtain ⟨A, c, rfl, -, hnc, hc, hr⟩ := id h
  obtain ⟨Am, cm, rfl, -, hncm, hcm, -⟩ := id hm
  unfold maxLen at hc hcm
  have hBa := ((Below.refl w.heap.size w).alloc (Nat.le_refl _) (.cells #[.slice Am ms.length cm] 26)).alloc (by simp) (.cells #[.slice none 0 0] 26)
  have k1 := (Bk.new w #[.slice Am ms.length cm] 26).alloc (.cells #[.slice none 0 0] 26)
  have k2 := Bk.new (w.alloc (.cells #[.slice Am ms.length cm] 26)) #[.slice none 0 0] 26
  rw [World.size_alloc] at k2
  obtain ⟨W0, hW0⟩ : ∃ W0, (w.alloc (.cells #[.slice Am ms.length cm] 26)).alloc (.cells #[.slice none 0 0] 26) = W0 := ⟨_, rfl⟩
  have hsz0 : W0.heap.size = w.heap.size + 2 := by rw [← hW0]; simp
  rw [hW0] at hBa k1 k2
  have HR : Hid (∀ W, Below w.heap.size w W → Rd W (.slice A xs.length c) 2 xs.length (flc2 xs)) := Lib.hid fun W hW => h.below hW
  have HM : Hid (∀ W, Below w.heap.size w W → Rd W (.slice Am ms.length cm) 1 ms.length (ints ms)) := Lib.hid fun W hW => hm.below hW
  clear h hm
  obtain ⟨hc1, -⟩ := k1.at_ 0 (x := .slice Am ms.length cm) rfl
  obtain ⟨hc2, hf2⟩ := k2.at_ 0 (x := .slice none 0 0) rfl
  have K1 := Lib.hid k1
  have K2 := Lib.hid k2
  have HBa := Lib.hid hBa
  have HZ0 := Lib.hid hsz0
  clear k1 k2 hBa hsz0
  go_enter Try.func37, Try.ntmps37
  go_wp2_with fail
  refine (spec_BufOk _ xs _ (HR.out _ HBa.out)).mono ?_
  rintro e w3 ⟨rfl, rfl⟩
  clear hW0
  cases hb : bufOk xs
  · have HF : Hid (daF xs ms = ms ∧ daOk xs ms = false) := Lib.hid ⟨by simp [daF, hb], by simp [daOk, hb]⟩
    clear hb
    go_wp2_with fail
    refine (l03Mem _ ms _ (HM.out _ HBa.out) (by omega)).mono ?_
    rintro e w7 ⟨v7, bs7, rfl, ho7, hbs7, hb7⟩
    obtain ⟨A7, c7, rfl, -, -⟩ := ho7.slice
    have q7 := K2.out.below hb7 K2.out.lt
    obtain ⟨hd2, hg2⟩ := q7.at_ 0 (x := .slice none 0 0) rfl
    have HE := Lib.hid (mem_back (x := .slice A7 ms.length c7) (L := daF xs ms) (ok := daOk xs ms) HBa.out (by have := HZ0.out; omega) ho7 hbs7 hb7 HF.out)
    go_wp2_with fail
    exact bodyPost_ret (v := .tuple #[.agg #[.slice A7 ms.length c7], .bool false]) (by simp [results, Try.results37, go_sem, hd2]) rfl HE.out
  · have HB := Lib.hid hb
    clear hb
    go_wp2_with fail
    refine (spec_MemOk _ ms _ (HM.out _ HBa.out)).mono ?_
    rintro e w4 ⟨rfl, hb4⟩
    have hB4 := HBa.out.trans (hb4.mono HBa.out.size)
    have k1 := K1.out.below hb4 K1.out.lt
    have k2 := K2.out.below hb4 K2.out.lt
    obtain ⟨hc1, -⟩ := k1.at_ 0 (x := .slice Am ms.length cm) rfl
    obtain ⟨hc2, hf2⟩ := k2.at_ 0 (x := .slice none 0 0) rfl
    have hl4 : w.heap.size + 2 ≤ w4.heap.size := by have := k2.lt; omega
    cases hmo : memOk ms
    · have HF : Hid (daF xs ms = ms ∧ daOk xs ms = false) := Lib.hid ⟨by simp [daF, hmo], by simp [daOk, hmo]⟩
      clear hmo
      go_wp2_with fail
      refine (l03Mem _ ms _ (HM.out _ hB4) (by omega)).mono ?_
      rintro e w7 ⟨v7, bs7, rfl, ho7, hbs7, hb7⟩
      obtain ⟨A7, c7, rfl, -, -⟩ := ho7.slice
      have q7 := k2.below hb7 k2.lt
      obtain ⟨hd2, hg2⟩ := q7.at_ 0 (x := .slice none 0 0) rfl
      have HE := Lib.hid (mem_back (x := .slice A7 ms.length c7) (L := daF xs ms) (ok := daOk xs ms) hB4 hl4 ho7 hbs7 hb7 HF.out)
      go_wp2_with fail
      exact bodyPost_ret (v := .tuple #[.agg #[.slice A7 ms.length c7], .bool false]) (by simp [results, Try.results37, go_sem, hd2]) rfl HE.out
    · have HMO := Lib.hid hmo
      have HDF : Hid (daF xs ms = (runF xs ms).getD ms ∧ daOk xs ms = (runF xs ms).isSome) := Lib.hid ⟨by simp [daF, hmo, HB.out], by simp [daOk, hmo, HB.out]⟩
      have hB5 := hB4.alloc hB4.size (.cells #[.slice Am ms.length cm] 26)
      have k3 := Bk.new w4 #[.slice Am ms.length cm] 26
      have hR5 := HM.out _ hB5
      have k15 := k1.alloc (.cells #[.slice Am ms.length cm] 26)
      have k25 := k2.alloc (.cells #[.slice Am ms.length cm] 26)
      clear hmo
      go_wp2_with fail
      go_loopw [7] (fun i wr => ∃ (k : Nat) (M : List Int) (AM : Option Addr) (cM : Nat), k ≤ xs.length ∧ i = .int .i64 k ∧ Hid (runF xs ms = runF (xs.drop k) M) ∧ M.length ≤ 16777215 ∧ Hid (M.length = ms.length) ∧
        Rd wr (.slice AM M.length cM) 1 M.length (ints M) ∧ Bk wr w4.heap.size #[.slice AM M.length cM] 26 ∧ Bk wr w.heap.size #[.slice Am ms.length cm] 26 ∧ Bk wr (w.heap.size + 1) #[.slice none 0 0] 26 ∧ Below w.heap.size w wr) (fun i _ => xs.length - (intOf i).toNat)
      case atStart => exact ⟨0, ms, Am, cm, Nat.zero_le _, rfl, Lib.hid rfl, hsm, Lib.hid rfl, hR5, k3, k15, k25, hB5⟩
      case round =>
        obtain ⟨k, M, AM, cM, hk, rfl, HRu, hMl, HMl, hRM, kM, kA, kR, hB⟩ := hrel
        clear hB5 k3 hR5 k15 k25 hc1 hc2 hf2 k1 k2 hB4 hb4
        obtain ⟨hcM, hfM⟩ := kM.at_ 0 (x := .slice AM M.length cM) rfl
        obtain ⟨hcA, -⟩ := kA.at_ 0 (x := .slice Am ms.length cm) rfl
        obtain ⟨hcR, hfR⟩ := kR.at_ 0 (x := .slice none 0 0) rfl
        have hlr : w.heap.size + 2 ≤ wr.heap.size := by have := kM.lt; omega
        by_cases hlt : k < xs.length
        · obtain ⟨b, o, rfl, hbl, hcell⟩ := hr (by omega)
          obtain ⟨x, hxk, hx0, hx1⟩ := p2_at (fun j u hu => (hB.cell (p := ⟨b, o + j, none⟩) hbl).trans (hcell j u hu)) hlt
          have hwf := slot_wf HB.out hxk.out
          obtain ⟨xa, xb⟩ := x
          simp only at hx0 hx1 hwf
          have HD := Lib.hid (runF_drop (M := M) hxk.out)
          have hbr : b < wr.heap.size := by omega
          have hMlt := kM.lt
          have HRM : Hid (∀ W, Below wr.heap.size wr W → Rd W (.slice AM M.length cM) 1 M.length (ints M)) := Lib.hid fun W hW => hRM.below hW
          have HS : Hid (∀ W : World, Below wr.heap.size wr W → Below wr.heap.size wr W ∧ W.cell? ⟨w4.heap.size, 0, none⟩ = some (.slice AM M.length cM) ∧ W.cell? ⟨b, o + k * 2, none⟩ = some (.int .i64 xa) ∧ W.cell? ⟨b, o + k * 2 + 1, none⟩ = some (.int .i64 xb)) :=
            Lib.hid fun W hW => ⟨hW, (hW.cell (p := ⟨w4.heap.size, 0, none⟩) hMlt).trans hcM, (hW.cell (p := ⟨b, o + k * 2, none⟩) hbr).trans hx0, (hW.cell (p := ⟨b, o + k * 2 + 1, none⟩) hbr).trans hx1⟩
          have KN : Hid (Bk ((wr.alloc (.cells #[.slice none 0 0] 26)).drew) wr.heap.size #[.slice none 0 0] 26) := Lib.hid (Bk.new wr #[.slice none 0 0] 26)
          have HN : Hid (Below wr.heap.size wr (wr.alloc (.cells #[.slice none 0 0] 26)).drew) := Lib.hid ((Below.refl _ wr).alloc (Nat.le_refl _) _).drew
          have hne : b ≠ wr.heap.size := by omega
          have hne2 : w4.heap.size ≠ wr.heap.size := by omega
          have HBr := Lib.hid hB
          have KM := Lib.hid kM
          have KA := Lib.hid kA
          have KR := Lib.hid kR
          clear hcell hr hRM kM kA kR hB hxk
          go_wp2_with fail
          go_cut [8, 9] (fun p ok wc => ∃ (g : Nat) (A9 : Option Addr) (c9 : Nat) (bs9 : List Nat), p = .pointer (some ⟨g, 0, none⟩) ∧ ok = .bool (pokeOk M xa xb) ∧ Bk wc g #[.slice A9 (pokeF M xa xb).length c9] 26 ∧
            Own wc (.slice A9 (pokeF M xa xb).length c9) 1 (pokeF M xa xb).length (ints (pokeF M xa xb)) bs9 ∧ (∀ b ∈ bs9, wr.heap.size ≤ b) ∧ g ∉ bs9 ∧ wr.heap.size ≤ g ∧ Below wr.heap.size wr wc)
          case first =>
            go_region_held3 (fun W => Below wr.heap.size wr W ∧ W.cell? ⟨w4.heap.size, 0, none⟩ = some (.slice AM M.length cM) ∧ W.cell? ⟨b, o + k * 2, none⟩ = some (.int .i64 xa) ∧ W.cell? ⟨b, o + k * 2 + 1, none⟩ = some (.int .i64 xb)) (first | (exact HS.out _ (Below.refl _ _).drew) | (exact HS.out _ HN.out) | (exact HS.out _ (hS2.alloc hS2.size _)) | (exact HS.out _ (hS2.setCell (Nat.le_refl _) _)) | (exact HS.out _ (by assumption)))
              (first
                | (go_at_call 17; have hS := ‹Below wr.heap.size wr _ ∧ _›.1; refine (spec_Poke _ M xa xb _ (HRM.out _ hS) (by omega) hwf.2.2).mono ?_; rintro e w9 ⟨v9, bs9, rfl, ho9, hbs9, hb9⟩; obtain ⟨A9, c9, rfl, -, -⟩ := ho9.slice; have hS2 := hS.trans (hb9.mono hS.size); clear hS; try (have q9 := KN.out.below hb9 KN.out.lt; obtain ⟨hq9, hg9⟩ := q9.at_ 0 (x := .slice none 0 0) rfl)))
            · go_wp2_with fail
              go_meet
              exact ⟨_, A9, c9, bs9, rfl, rfl, Bk.new _ _ _, ho9.below ((Below.refl _ _).alloc (Nat.le_refl _) _), fun b hb => hbs9 b hb, fun hm => by have := ho9.lt _ hm; omega, hS2.size, hS2.alloc hS2.size _⟩
            · go_wp2_with fail
              go_meet
              exact ⟨_, A9, c9, bs9, rfl, rfl, by simpa using q9.set_ 0 (.slice A9 (pokeF M xa xb).length c9), ho9.far (fun k hk => by have := hbs9 k hk; simp at this; omega), fun b hb => by have := hbs9 b hb; simp at this; omega, fun hm => by have := hbs9 _ hm; simp at this; omega, Nat.le_refl _, hS2.setCell (Nat.le_refl _) _⟩
          case rest =>
            obtain ⟨g, A9, c9, bs9, rfl, rfl, kg, ho9, hbs9, hg9, hgl, hBc⟩ := hcut
            have kM := KM.out.below hBc KM.out.lt
            have kA := KA.out.below hBc KA.out.lt
            have kR := KR.out.below hBc KR.out.lt
            have hB := HBr.out.trans (hBc.mono HBr.out.size)
            obtain ⟨hcM, hfM⟩ := kM.at_ 0 (x := .slice AM M.length cM) rfl
            obtain ⟨hcA, -⟩ := kA.at_ 0 (x := .slice Am ms.length cm) rfl
            obtain ⟨hcR, hfR⟩ := kR.at_ 0 (x := .slice none 0 0) rfl
            obtain ⟨hcg, hfg⟩ := kg.at_ 0 (x := .slice A9 (pokeF M xa xb).length c9) rfl
            have hlc : w.heap.size + 2 ≤ wc.heap.size := by have := hBc.size; omega
            cases hp : pokeOk M xa xb
            · have HF : Hid (daF xs ms = ms ∧ daOk xs ms = false) := Lib.hid (by
                have e : runF xs ms = none := by rw [HRu.out, HD.out, hp]; rfl
                rw [HDF.out.1, HDF.out.2, e]
                exact ⟨rfl, rfl⟩)
              clear hp
              go_wp2_with fail
              refine (l03Mem _ ms _ (HM.out _ hB) (by omega)).mono ?_
              rintro e w7 ⟨v7, bs7, rfl, ho7, hbs7, hb7⟩
              obtain ⟨A7, c7, rfl, -, -⟩ := ho7.slice
              have q7 := kR.below hb7 kR.lt
              obtain ⟨hd2, hg2⟩ := q7.at_ 0 (x := .slice none 0 0) rfl
              have HE := Lib.hid (mem_back (x := .slice A7 ms.length c7) (L := daF xs ms) (ok := daOk xs ms) hB hlc ho7 hbs7 hb7 HF.out)
              go_wp2_with fail
              exact bodyPost_ret (v := .tuple #[.agg #[.slice A7 ms.length c7], .bool false]) (by simp [results, Try.results37, go_sem, hd2]) rfl HE.out
            · have hRu : runF xs ms = runF (xs.drop (k + 1)) (pokeF M xa xb) := by rw [HRu.out, HD.out, hp]; rfl
              have HRu2 := Lib.hid hRu
              have hpl := pokeF_len M xa xb
              obtain ⟨M2, hM2⟩ : ∃ M2, pokeF M xa xb = M2 := ⟨_, rfl⟩
              rw [hM2] at ho9 kg hcg hpl HRu2
              have HM2 : Hid (M2.length = ms.length) := Lib.hid (by rw [hpl, HMl.out])
              have hM2l : M2.length ≤ 16777215 := by omega
              have k4 := kM.set_ 0 (.slice A9 M2.length c9)
              have k5 := kA.far (p := ⟨w4.heap.size, 0, none⟩) (by show w.heap.size ≠ w4.heap.size; omega) (.slice A9 M2.length c9)
              have k6 := kR.far (p := ⟨w4.heap.size, 0, none⟩) (by show w.heap.size + 1 ≠ w4.heap.size; omega) (.slice A9 M2.length c9)
              have o6 := (ho9.far (b := w4.heap.size) (i := 0) (u := .slice A9 M2.length c9) (fun k hk => by have := hbs9 k hk; omega)).rd
              have b6 := hB.setCell (p := ⟨w4.heap.size, 0, none⟩) (by show w.heap.size ≤ w4.heap.size; omega) (.slice A9 M2.length c9)
              have HE := Lib.hid (And.intro o6 (And.intro k4 (And.intro k5 (And.intro k6 b6))))
              clear hp hRu o6 k4 k5 k6 b6 hM2 hpl kM kA kR hB hBc ho9 kg
              go_wp2_with fail
              exact ⟨⟨k + 1, M2, A9, c9, by omega, by go_num, HRu2, hM2l, HM2, HE.out.1, by simpa using HE.out.2.1, HE.out.2.2.1, HE.out.2.2.2.1, HE.out.2.2.2.2⟩, by simp [intOf]; omega⟩
        · obtain rfl : k = xs.length := by omega
          have HF : Hid (daF xs ms = M ∧ daOk xs ms = true) := Lib.hid (by
            have e : runF xs ms = some M := by rw [HRu.out, List.drop_length]; rfl
            rw [HDF.out.1, HDF.out.2, e]
            exact ⟨rfl, rfl⟩)
          clear hr
          go_wp2_with fail
          refine (l03Mem _ M _ hRM (by omega)).mono ?_
          rintro e w7 ⟨v7, bs7, rfl, ho7, hbs7, hb7⟩
          obtain ⟨A7, c7, rfl, -, -⟩ := ho7.slice
          have q7 := kR.below hb7 kR.lt
          obtain ⟨hd2, hg2⟩ := q7.at_ 0 (x := .slice none 0 0) rfl
          have HE := Lib.hid (mem_back (x := .slice A7 M.length c7) (L := daF xs ms) (ok := daOk xs ms) hB hlr ho7 hbs7 hb7 HF.out)
          go_wp2_with fail
          exact bodyPost_ret (v := .tuple #[.agg #[.slice A7 M.length c7], .bool true]) (by simp [results, Try.results37, go_sem, hd2]) rfl HE.out
end Go.Proofs.Ytiflooopfpcelab
