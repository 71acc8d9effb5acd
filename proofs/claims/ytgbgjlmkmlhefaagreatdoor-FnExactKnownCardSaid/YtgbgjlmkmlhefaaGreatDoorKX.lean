import Derived.Test.YtgbgjlmkmlhefaaGreatDoorLaid
import Derived.Test.YtgbgjlmkmlhefaaGreatDoorEnv
import Derived.Deep.DeepWitnessRowRef
import Derived.ChangeMaps5
import Derived.LaidLaws
import Derived.Test.YtgbgjlmkmlhefaaGreatDoorLaw
import Derived.Test.YtgbgjlmkmlhefaaGreatDoorLaw2
import Derived.Test.YtgbgjlmkmlhefaaGreatDoorKN
import Derived.Test.YtgbgjlmkmlhefaaGreatDoorKD
import Derived.Deep.RegionHeld3
/- Rows that list the library's error variables too: what they give, and a world for the witness. -/
namespace Go.Proofs.YtgbgjlmkmlhefaaGreatDoor
set_option maxRecDepth 20000
set_option linter.unusedSimpArgs false
set_option linter.unusedVariables false
open Go.ChangeShapes Go.WideShapes Go.ChangeAt Go.RowKit
set_option linter.unusedVariables false
theorem star : "*" ++ "errors.errorString" = "*errors.errorString" := by decide
theorem rowErr (u : TypeId) (h : Tryz.prog.typeName? 3 u = some "*errors.errorString") : u = 179 :=
  typeName_ptr_named (nm := "errors.errorString") (by rw [star]; kernel_rfl) (by kernel_rfl) (by decide) u (by rw [star]; exact h)
theorem sentinel {n : String} {text : List UInt8} {W : World} {l r : List (String × DataW Unit)} (k g : Nat) (hp : (l.all fun x => x.2.handleName?.isNone) = true) (hk : l.drop k = (n, .iface "*errors.errorString" (.ptr (.agg [.lit (.string text)]))) :: r)
    (hg : Tryz.prog.globalNamed n = some g) (ht : (Tryz.prog.globals[g]?).map (·.type) = some 119) (h : laidMetH Tryz.prog l W) : ∃ tp p, W.var? Tryz.prog n = some #[.iface tp p] := by
  rw [MakeChecks.laidMetH_plain _ _ _ hp] at h
  have h1 := laidMet_drop k h
  rw [hk] at h1
  obtain ⟨a, s, hv, -, -, -⟩ := laid_sentinel h1 hg ht Tryz.underlying119 rowErr Tryz.underlying179 Tryz.underlying181 rfl rfl Tryz.underlying9 (by kernel_rfl) (by kernel_rfl)
  exact ⟨_, _, hv⟩
theorem max_of {W : World} (h : W.ShapedOpen Tryz.prog) : MaxSet W := Tryz.laysM147.s1_3 W h
def flatCells : DataW Unit → Array Value
  | .agg l => (l.flatMap fun
    | .lit (.int k z) => [.int k z]
    | .lit (.string t) => [.string ⟨t.toArray⟩]
    | .agg m => m.map litOf
    | _ => []).toArray
  | _ => #[]
def errText : DataW Unit → List UInt8
  | .iface _ (.ptr (.agg [.lit (.string t)])) => t
  | _ => []
def errTexts (l : List (String × DataW Unit)) : List (List UInt8) := (l.map fun x => errText x.2).filter fun t => !t.isEmpty
noncomputable def cellsIn (N : Nat) (l : List (String × DataW Unit)) (x : String × DataW Unit) : Array Value :=
  match x.2 with
  | .iface _ _ => #[.iface 179 (.pointer (some ⟨N + (errTexts l).idxOf (errText x.2), 0, none⟩))]
  | d => flatCells d
noncomputable def layInE (N : Nat) (l : List (String × DataW Unit)) (w : World) (x : String × DataW Unit) : World :=
  match Tryz.prog.globalNamed x.1 with
  | some g => { w with heap := w.heap.modify g fun
      | .cells _ t frozen => .cells (cellsIn N l x) t frozen
      | o => o }
  | none => w
/-- the settled world, each listed variable holding what the list says, an error's struct in a block of its own -/
noncomputable def laidWorldE (os : Os) (l : List (String × DataW Unit)) : World :=
  l.foldl (layInE (World.settled Tryz.prog os).heap.size l) (World.holding Tryz.prog os ⟨((errTexts l).map fun t => Obj.cells #[.string ⟨t.toArray⟩] 181).toArray, #[], []⟩)
end Go.Proofs.YtgbgjlmkmlhefaaGreatDoor

/- FnExactKnown answers true at every input: Known answers as its model does, leaves its arguments alone and owns its answer. Conditions: none. -/
namespace Go.Proofs.YtgbgjlmkmlhefaaGreatDoor
set_option maxRecDepth 20000
set_option linter.unusedSimpArgs false
set_option linter.unusedVariables false
open Go.ChangeShapes Go.WideShapes Go.ChangeAt Go.RowKit
set_option linter.unusedVariables false
set_option maxHeartbeats 4000000 in
theorem walk_Known (s0 : List UInt8) (w : World) (hT : EnvP w) :
    Calls Tryz.prog 4 #[str s0] w fun e w' => e = .returned (.bool true) ∧ Below w.heap.size w w' := by
  have hqs := (kn_tot s0).2
  have hqt := (kn_tot s0).1
  have hqm := cntSS_all (knP s0).x
  have HT := Lib.hid hT
  clear hT
  have hB := Below.refl w.heap.size w
  by_cases hbig : 1048576 < s0.length
  · go_enter Tryz.func4, Tryz.ntmps4
    go_wp2_with fail
    go_ret
    exact ⟨rfl, Below.refl _ _⟩
  go_enter Tryz.func4, Tryz.ntmps4
  go_wp2_with fail
  refine (spec_Known s0 _).mono ?_
  rintro e w3 ⟨v2x0, bs2, v3x0, bs3, mid1, rfl, ho2, ho3, lo2, mi1, lo3, hmid1, hb1⟩
  try simp only [World.size_alloc] at hmid1
  have sz4 := hb1.size
  try simp only [World.size_alloc] at sz4
  have hB' := hB.trans (hb1.mono hB.size)
  clear hB
  have hi2 := ho2.lt
  try simp only [World.size_alloc] at lo2
  obtain ⟨A2, d2, rfl, -, -⟩ := ho2.slice
  have hi3 := ho3.lt
  try simp only [World.size_alloc] at lo3
  obtain ⟨A3, d3, rfl, -, -⟩ := ho3.slice
  go_wp2_with fail
  have ho2' := ho2.below ((Below.refl _ _).alloc (Nat.le_refl _) (.cells #[.int .i64 (knP s0).c, .slice A2 (knP s0).x.length d2] 26))
  clear ho2
  have ho3' := ho3.below ((Below.refl _ _).alloc (Nat.le_refl _) (.cells #[.int .i64 (knP s0).c, .slice A2 (knP s0).x.length d2] 26))
  clear ho3
  have hB'' := hB'.alloc hB'.size (.cells #[.int .i64 (knP s0).c, .slice A2 (knP s0).x.length d2] 26)
  clear hB'
  have k5 := Bk.new w3 #[.int .i64 (knP s0).c, .slice A2 (knP s0).x.length d2] 26
  refine (impl_Known s0 _ (HT.out.below hB'' (Nat.le_refl _))).mono ?_
  rintro e w8 ⟨v7x0, bs7, v8x0, bs8, mid6, rfl, ho7, ho8, lo7, mi6, lo8, hmid6, hb6⟩
  try simp only [World.size_alloc] at hmid6
  have sz9 := hb6.size
  try simp only [World.size_alloc] at sz9
  have hB''' := hB''.trans (hb6.mono hB''.size)
  clear hB''
  have k5' := k5.below hb6 k5.lt
  clear k5
  have ho2'' := ho2'.below hb6
  clear ho2'
  have ho3'' := ho3'.below hb6
  clear ho3'
  have hi7 := ho7.lt
  try simp only [World.size_alloc] at lo7
  obtain ⟨A7, d7, rfl, -, -⟩ := ho7.slice
  have hi8 := ho8.lt
  try simp only [World.size_alloc] at lo8
  obtain ⟨A8, d8, rfl, -, -⟩ := ho8.slice
  obtain ⟨hc5x0, gc5x0⟩ := k5'.at_ 0 (x := .int .i64 (knP s0).c) rfl
  obtain ⟨hc5x1, gc5x1⟩ := k5'.at_ 1 (x := .slice A2 (knP s0).x.length d2) rfl
  have l5 := k5'.lt
  go_wp2_with fail
  clear hc5x0 gc5x0 hc5x1 gc5x1 l5
  have k5'' := k5'.alloc (.cells #[.int .i64 (knP s0).c, .slice A7 (knP s0).x.length d7] 26)
  clear k5'
  have ho2''' := ho2''.below ((Below.refl _ _).alloc (Nat.le_refl _) (.cells #[.int .i64 (knP s0).c, .slice A7 (knP s0).x.length d7] 26))
  clear ho2''
  have ho3''' := ho3''.below ((Below.refl _ _).alloc (Nat.le_refl _) (.cells #[.int .i64 (knP s0).c, .slice A7 (knP s0).x.length d7] 26))
  clear ho3''
  have ho7' := ho7.below ((Below.refl _ _).alloc (Nat.le_refl _) (.cells #[.int .i64 (knP s0).c, .slice A7 (knP s0).x.length d7] 26))
  clear ho7
  have ho8' := ho8.below ((Below.refl _ _).alloc (Nat.le_refl _) (.cells #[.int .i64 (knP s0).c, .slice A7 (knP s0).x.length d7] 26))
  clear ho8
  have hB'''' := hB'''.alloc hB'''.size (.cells #[.int .i64 (knP s0).c, .slice A7 (knP s0).x.length d7] 26)
  clear hB'''
  have k10 := Bk.new w8 #[.int .i64 (knP s0).c, .slice A7 (knP s0).x.length d7] 26
  refine (eqProg _ _ ((knP s0)) ((knP s0)) _ ho7'.rd ho2'''.rd).mono ?_
  rintro e w11 ⟨rfl, hb11⟩
  rw [decide_eq_true rfl]
  have sz12 := hb11.size
  try simp only [World.size_alloc] at sz12
  have hB''''' := hB''''.trans (hb11.mono hB''''.size)
  clear hB''''
  have k5''' := k5''.below hb11 k5''.lt
  clear k5''
  have k10' := k10.below hb11 k10.lt
  clear k10
  have ho2'''' := ho2'''.below hb11
  clear ho2'''
  have ho3'''' := ho3'''.below hb11
  clear ho3'''
  have ho7'' := ho7'.below hb11
  clear ho7'
  have ho8'' := ho8'.below hb11
  clear ho8'
  obtain ⟨hc5x0, gc5x0⟩ := k5'''.at_ 0 (x := .int .i64 (knP s0).c) rfl
  obtain ⟨hc5x1, gc5x1⟩ := k5'''.at_ 1 (x := .slice A2 (knP s0).x.length d2) rfl
  have l5 := k5'''.lt
  obtain ⟨hc10x0, gc10x0⟩ := k10'.at_ 0 (x := .int .i64 (knP s0).c) rfl
  obtain ⟨hc10x1, gc10x1⟩ := k10'.at_ 1 (x := .slice A7 (knP s0).x.length d7) rfl
  have l10 := k10'.lt
  go_wp2_with fail
  refine (eqAtomS _ _ ((knA s0)) ((knA s0)) _ ho8''.rd ho3''''.rd).mono ?_
  rintro e w13 ⟨rfl, hb13⟩
  rw [decide_eq_true rfl]
  clear hc5x0 gc5x0 hc5x1 gc5x1 l5 hc10x0 gc10x0 hc10x1 gc10x1 l10
  have sz14 := hb13.size
  try simp only [World.size_alloc] at sz14
  have hB'''''' := hB'''''.trans (hb13.mono hB'''''.size)
  clear hB'''''
  have k5'''' := k5'''.below hb13 k5'''.lt
  clear k5'''
  have k10'' := k10'.below hb13 k10'.lt
  clear k10'
  have ho2''''' := ho2''''.below hb13
  clear ho2''''
  have ho3''''' := ho3''''.below hb13
  clear ho3''''
  have ho7''' := ho7''.below hb13
  clear ho7''
  have ho8''' := ho8''.below hb13
  clear ho8''
  obtain ⟨hc5x0, gc5x0⟩ := k5''''.at_ 0 (x := .int .i64 (knP s0).c) rfl
  obtain ⟨hc5x1, gc5x1⟩ := k5''''.at_ 1 (x := .slice A2 (knP s0).x.length d2) rfl
  have l5 := k5''''.lt
  obtain ⟨hc10x0, gc10x0⟩ := k10''.at_ 0 (x := .int .i64 (knP s0).c) rfl
  obtain ⟨hc10x1, gc10x1⟩ := k10''.at_ 1 (x := .slice A7 (knP s0).x.length d7) rfl
  have l10 := k10''.lt
  go_wp2_with fail
  refine (markProg _ (knP s0) bs7 (1) _ ho7''' (by omega) (by omega) (by omega)).mono ?_
  rintro e w15 ⟨rfl, hq15, hon15⟩
  clear hc5x0 gc5x0 hc5x1 gc5x1 l5 hc10x0 gc10x0 hc10x1 gc10x1 l10
  have sz16 := hon15.size
  try simp only [World.size_alloc] at sz16
  have hB''''''' := hB''''''.trans (hon15.below hB''''''.size (fun b hb => by have := lo7 b hb; omega))
  clear hB''''''
  have k5''''' := k5''''.only hon15 (fun hm => by have := lo7 _ hm; have := hi7 _ hm; omega)
  clear k5''''
  have k10''' := k10''.only hon15 (fun hm => by have := lo7 _ hm; have := hi7 _ hm; omega)
  clear k10''
  have ho2'''''' := ho2'''''.only hon15 (fun b hb hm => by have := lo7 b hm; have := hi7 b hm; have := lo2 b hb; have := hi2 b hb; omega)
  clear ho2'''''
  have ho3'''''' := ho3'''''.only hon15 (fun b hb hm => by have := mi1 b hb; have := lo7 b hm; have := hi7 b hm; have := lo3 b hb; have := hi3 b hb; omega)
  clear ho3'''''
  have ho8'''' := ho8'''.only hon15 (fun b hb hm => by have := mi6 b hb; have := lo7 b hm; have := hi7 b hm; have := lo8 b hb; have := hi8 b hb; omega)
  clear ho8'''
  obtain ⟨hc5x0, gc5x0⟩ := k5'''''.at_ 0 (x := .int .i64 (knP s0).c) rfl
  obtain ⟨hc5x1, gc5x1⟩ := k5'''''.at_ 1 (x := .slice A2 (knP s0).x.length d2) rfl
  have l5 := k5'''''.lt
  obtain ⟨hc10x0, gc10x0⟩ := k10'''.at_ 0 (x := .int .i64 (knP s0).c) rfl
  obtain ⟨hc10x1, gc10x1⟩ := k10'''.at_ 1 (x := .slice A7 (knP s0).x.length d7) rfl
  have l10 := k10'''.lt
  go_wp2_with fail
  refine (markAtomS _ _ (knA s0).length bs8 (1 + (cntSS (knP s0).x : Int)) _ ho8'''' (by omega) (by omega) (by omega)).mono ?_
  rintro e w17 ⟨rfl, hq17, hon17⟩
  clear hc5x0 gc5x0 hc5x1 gc5x1 l5 hc10x0 gc10x0 hc10x1 gc10x1 l10
  have sz18 := hon17.size
  try simp only [World.size_alloc] at sz18
  have hB'''''''' := hB'''''''.trans (hon17.below hB'''''''.size (fun b hb => by have := lo8 b hb; omega))
  clear hB'''''''
  have k5'''''' := k5'''''.only hon17 (fun hm => by have := lo8 _ hm; have := hi8 _ hm; omega)
  clear k5'''''
  have k10'''' := k10'''.only hon17 (fun hm => by have := lo8 _ hm; have := hi8 _ hm; omega)
  clear k10'''
  have ho2''''''' := ho2''''''.only hon17 (fun b hb hm => by have := mi6 b hm; have := lo8 b hm; have := hi8 b hm; have := lo2 b hb; have := hi2 b hb; omega)
  clear ho2''''''
  have ho3''''''' := ho3''''''.only hon17 (fun b hb hm => by have := mi6 b hm; have := mi1 b hb; have := lo8 b hm; have := hi8 b hm; have := lo3 b hb; have := hi3 b hb; omega)
  clear ho3''''''
  have hq15' := hq15.only hon17 (fun b hb hm => by have := mi6 b hm; have := lo8 b hm; have := hi8 b hm; have := lo7 b hb; have := hi7 b hb; omega)
  clear hq15
  obtain ⟨hc5x0, gc5x0⟩ := k5''''''.at_ 0 (x := .int .i64 (knP s0).c) rfl
  obtain ⟨hc5x1, gc5x1⟩ := k5''''''.at_ 1 (x := .slice A2 (knP s0).x.length d2) rfl
  have l5 := k5''''''.lt
  obtain ⟨hc10x0, gc10x0⟩ := k10''''.at_ 0 (x := .int .i64 (knP s0).c) rfl
  obtain ⟨hc10x1, gc10x1⟩ := k10''''.at_ 1 (x := .slice A7 (knP s0).x.length d7) rfl
  have l10 := k10''''.lt
  go_wp2_with fail
  refine (heldProg _ (knP s0) (1) _ hq15'.rd (by omega) (by omega) (by omega)).mono ?_
  rintro e w19 ⟨rfl, hb19⟩
  clear hc5x0 gc5x0 hc5x1 gc5x1 l5 hc10x0 gc10x0 hc10x1 gc10x1 l10
  have sz20 := hb19.size
  try simp only [World.size_alloc] at sz20
  have hB''''''''' := hB''''''''.trans (hb19.mono hB''''''''.size)
  clear hB''''''''
  have k5''''''' := k5''''''.below hb19 k5''''''.lt
  clear k5''''''
  have k10''''' := k10''''.below hb19 k10''''.lt
  clear k10''''
  have ho2'''''''' := ho2'''''''.below hb19
  clear ho2'''''''
  have ho3'''''''' := ho3'''''''.below hb19
  clear ho3'''''''
  have hq15'' := hq15'.below hb19
  clear hq15'
  have hq17' := hq17.below hb19
  clear hq17
  obtain ⟨hc5x0, gc5x0⟩ := k5'''''''.at_ 0 (x := .int .i64 (knP s0).c) rfl
  obtain ⟨hc5x1, gc5x1⟩ := k5'''''''.at_ 1 (x := .slice A2 (knP s0).x.length d2) rfl
  have l5 := k5'''''''.lt
  obtain ⟨hc10x0, gc10x0⟩ := k10'''''.at_ 0 (x := .int .i64 (knP s0).c) rfl
  obtain ⟨hc10x1, gc10x1⟩ := k10'''''.at_ 1 (x := .slice A7 (knP s0).x.length d7) rfl
  have l10 := k10'''''.lt
  go_wp2_with fail
  refine (heldAtomSB _ (knA s0).length _ _ hq17'.rd (by omega) (by omega) (by omega)).mono ?_
  rintro e w21 ⟨rfl, hb21⟩
  clear hc5x0 gc5x0 hc5x1 gc5x1 l5 hc10x0 gc10x0 hc10x1 gc10x1 l10
  have sz22 := hb21.size
  try simp only [World.size_alloc] at sz22
  have hB'''''''''' := hB'''''''''.trans (hb21.mono hB'''''''''.size)
  clear hB'''''''''
  have k5'''''''' := k5'''''''.below hb21 k5'''''''.lt
  clear k5'''''''
  have k10'''''' := k10'''''.below hb21 k10'''''.lt
  clear k10'''''
  have ho2''''''''' := ho2''''''''.below hb21
  clear ho2''''''''
  have ho3''''''''' := ho3''''''''.below hb21
  clear ho3''''''''
  have hq15''' := hq15''.below hb21
  clear hq15''
  have hq17'' := hq17'.below hb21
  clear hq17'
  obtain ⟨hc5x0, gc5x0⟩ := k5''''''''.at_ 0 (x := .int .i64 (knP s0).c) rfl
  obtain ⟨hc5x1, gc5x1⟩ := k5''''''''.at_ 1 (x := .slice A2 (knP s0).x.length d2) rfl
  have l5 := k5''''''''.lt
  obtain ⟨hc10x0, gc10x0⟩ := k10''''''.at_ 0 (x := .int .i64 (knP s0).c) rfl
  obtain ⟨hc10x1, gc10x1⟩ := k10''''''.at_ 1 (x := .slice A7 (knP s0).x.length d7) rfl
  have l10 := k10''''''.lt
  go_wp2_with fail
  refine (impl_Known s0 _ (HT.out.below hB'''''''''' (Nat.le_refl _))).mono ?_
  rintro e w25 ⟨v24x0, bs24, v25x0, bs25, mid23, rfl, ho24, ho25, lo24, mi23, lo25, hmid23, hb23⟩
  try simp only [World.size_alloc] at hmid23
  clear hc5x0 gc5x0 hc5x1 gc5x1 l5 hc10x0 gc10x0 hc10x1 gc10x1 l10
  have sz26 := hb23.size
  try simp only [World.size_alloc] at sz26
  have hB''''''''''' := hB''''''''''.trans (hb23.mono hB''''''''''.size)
  clear hB''''''''''
  have k5''''''''' := k5''''''''.below hb23 k5''''''''.lt
  clear k5''''''''
  have k10''''''' := k10''''''.below hb23 k10''''''.lt
  clear k10''''''
  have ho2'''''''''' := ho2'''''''''.below hb23
  clear ho2'''''''''
  have ho3'''''''''' := ho3'''''''''.below hb23
  clear ho3'''''''''
  have hq15'''' := hq15'''.below hb23
  clear hq15'''
  have hq17''' := hq17''.below hb23
  clear hq17''
  have hi24 := ho24.lt
  try simp only [World.size_alloc] at lo24
  obtain ⟨A24, d24, rfl, -, -⟩ := ho24.slice
  have hi25 := ho25.lt
  try simp only [World.size_alloc] at lo25
  obtain ⟨A25, d25, rfl, -, -⟩ := ho25.slice
  obtain ⟨hc5x0, gc5x0⟩ := k5'''''''''.at_ 0 (x := .int .i64 (knP s0).c) rfl
  obtain ⟨hc5x1, gc5x1⟩ := k5'''''''''.at_ 1 (x := .slice A2 (knP s0).x.length d2) rfl
  have l5 := k5'''''''''.lt
  obtain ⟨hc10x0, gc10x0⟩ := k10'''''''.at_ 0 (x := .int .i64 (knP s0).c) rfl
  obtain ⟨hc10x1, gc10x1⟩ := k10'''''''.at_ 1 (x := .slice A7 (knP s0).x.length d7) rfl
  have l10 := k10'''''''.lt
  go_wp2_with fail
  clear hc5x0 gc5x0 hc5x1 gc5x1 l5 hc10x0 gc10x0 hc10x1 gc10x1 l10
  have k5'''''''''' := k5'''''''''.alloc (.cells #[.int .i64 (knP s0).c, .slice A24 (knP s0).x.length d24] 26)
  clear k5'''''''''
  have k10'''''''' := k10'''''''.alloc (.cells #[.int .i64 (knP s0).c, .slice A24 (knP s0).x.length d24] 26)
  clear k10'''''''
  have ho2''''''''''' := ho2''''''''''.below ((Below.refl _ _).alloc (Nat.le_refl _) (.cells #[.int .i64 (knP s0).c, .slice A24 (knP s0).x.length d24] 26))
  clear ho2''''''''''
  have ho3''''''''''' := ho3''''''''''.below ((Below.refl _ _).alloc (Nat.le_refl _) (.cells #[.int .i64 (knP s0).c, .slice A24 (knP s0).x.length d24] 26))
  clear ho3''''''''''
  have hq15''''' := hq15''''.below ((Below.refl _ _).alloc (Nat.le_refl _) (.cells #[.int .i64 (knP s0).c, .slice A24 (knP s0).x.length d24] 26))
  clear hq15''''
  have hq17'''' := hq17'''.below ((Below.refl _ _).alloc (Nat.le_refl _) (.cells #[.int .i64 (knP s0).c, .slice A24 (knP s0).x.length d24] 26))
  clear hq17'''
  have ho24' := ho24.below ((Below.refl _ _).alloc (Nat.le_refl _) (.cells #[.int .i64 (knP s0).c, .slice A24 (knP s0).x.length d24] 26))
  clear ho24
  have ho25' := ho25.below ((Below.refl _ _).alloc (Nat.le_refl _) (.cells #[.int .i64 (knP s0).c, .slice A24 (knP s0).x.length d24] 26))
  clear ho25
  have hB'''''''''''' := hB'''''''''''.alloc hB'''''''''''.size (.cells #[.int .i64 (knP s0).c, .slice A24 (knP s0).x.length d24] 26)
  clear hB'''''''''''
  have k27 := Bk.new w25 #[.int .i64 (knP s0).c, .slice A24 (knP s0).x.length d24] 26
  refine (eqProg _ _ ((knP s0)) ((knP s0)) _ ho24'.rd ho2'''''''''''.rd).mono ?_
  rintro e w28 ⟨rfl, hb28⟩
  rw [decide_eq_true rfl]
  have sz29 := hb28.size
  try simp only [World.size_alloc] at sz29
  have hB''''''''''''' := hB''''''''''''.trans (hb28.mono hB''''''''''''.size)
  clear hB''''''''''''
  have k5''''''''''' := k5''''''''''.below hb28 k5''''''''''.lt
  clear k5''''''''''
  have k10''''''''' := k10''''''''.below hb28 k10''''''''.lt
  clear k10''''''''
  have k27' := k27.below hb28 k27.lt
  clear k27
  have ho2'''''''''''' := ho2'''''''''''.below hb28
  clear ho2'''''''''''
  have ho3'''''''''''' := ho3'''''''''''.below hb28
  clear ho3'''''''''''
  have hq15'''''' := hq15'''''.below hb28
  clear hq15'''''
  have hq17''''' := hq17''''.below hb28
  clear hq17''''
  have ho24'' := ho24'.below hb28
  clear ho24'
  have ho25'' := ho25'.below hb28
  clear ho25'
  obtain ⟨hc5x0, gc5x0⟩ := k5'''''''''''.at_ 0 (x := .int .i64 (knP s0).c) rfl
  obtain ⟨hc5x1, gc5x1⟩ := k5'''''''''''.at_ 1 (x := .slice A2 (knP s0).x.length d2) rfl
  have l5 := k5'''''''''''.lt
  obtain ⟨hc10x0, gc10x0⟩ := k10'''''''''.at_ 0 (x := .int .i64 (knP s0).c) rfl
  obtain ⟨hc10x1, gc10x1⟩ := k10'''''''''.at_ 1 (x := .slice A7 (knP s0).x.length d7) rfl
  have l10 := k10'''''''''.lt
  obtain ⟨hc27x0, gc27x0⟩ := k27'.at_ 0 (x := .int .i64 (knP s0).c) rfl
  obtain ⟨hc27x1, gc27x1⟩ := k27'.at_ 1 (x := .slice A24 (knP s0).x.length d24) rfl
  have l27 := k27'.lt
  go_wp2_with fail
  refine (eqAtomS _ _ ((knA s0)) ((knA s0)) _ ho25''.rd ho3''''''''''''.rd).mono ?_
  rintro e w30 ⟨rfl, hb30⟩
  rw [decide_eq_true rfl]
  clear hc5x0 gc5x0 hc5x1 gc5x1 l5 hc10x0 gc10x0 hc10x1 gc10x1 l10 hc27x0 gc27x0 hc27x1 gc27x1 l27
  have sz31 := hb30.size
  try simp only [World.size_alloc] at sz31
  have hB'''''''''''''' := hB'''''''''''''.trans (hb30.mono hB'''''''''''''.size)
  clear hB'''''''''''''
  have k5'''''''''''' := k5'''''''''''.below hb30 k5'''''''''''.lt
  clear k5'''''''''''
  have k10'''''''''' := k10'''''''''.below hb30 k10'''''''''.lt
  clear k10'''''''''
  have k27'' := k27'.below hb30 k27'.lt
  clear k27'
  have ho2''''''''''''' := ho2''''''''''''.below hb30
  clear ho2''''''''''''
  have ho3''''''''''''' := ho3''''''''''''.below hb30
  clear ho3''''''''''''
  have hq15''''''' := hq15''''''.below hb30
  clear hq15''''''
  have hq17'''''' := hq17'''''.below hb30
  clear hq17'''''
  have ho24''' := ho24''.below hb30
  clear ho24''
  have ho25''' := ho25''.below hb30
  clear ho25''
  obtain ⟨hc5x0, gc5x0⟩ := k5''''''''''''.at_ 0 (x := .int .i64 (knP s0).c) rfl
  obtain ⟨hc5x1, gc5x1⟩ := k5''''''''''''.at_ 1 (x := .slice A2 (knP s0).x.length d2) rfl
  have l5 := k5''''''''''''.lt
  obtain ⟨hc10x0, gc10x0⟩ := k10''''''''''.at_ 0 (x := .int .i64 (knP s0).c) rfl
  obtain ⟨hc10x1, gc10x1⟩ := k10''''''''''.at_ 1 (x := .slice A7 (knP s0).x.length d7) rfl
  have l10 := k10''''''''''.lt
  obtain ⟨hc27x0, gc27x0⟩ := k27''.at_ 0 (x := .int .i64 (knP s0).c) rfl
  obtain ⟨hc27x1, gc27x1⟩ := k27''.at_ 1 (x := .slice A24 (knP s0).x.length d24) rfl
  have l27 := k27''.lt
  go_wp2_with fail
  refine (heldProg _ (knP s0) (1) _ hq15'''''''.rd (by omega) (by omega) (by omega)).mono ?_
  rintro e w32 ⟨rfl, hb32⟩
  clear hc5x0 gc5x0 hc5x1 gc5x1 l5 hc10x0 gc10x0 hc10x1 gc10x1 l10 hc27x0 gc27x0 hc27x1 gc27x1 l27
  have sz33 := hb32.size
  try simp only [World.size_alloc] at sz33
  have hB''''''''''''''' := hB''''''''''''''.trans (hb32.mono hB''''''''''''''.size)
  clear hB''''''''''''''
  have k5''''''''''''' := k5''''''''''''.below hb32 k5''''''''''''.lt
  clear k5''''''''''''
  have k10''''''''''' := k10''''''''''.below hb32 k10''''''''''.lt
  clear k10''''''''''
  have k27''' := k27''.below hb32 k27''.lt
  clear k27''
  have ho2'''''''''''''' := ho2'''''''''''''.below hb32
  clear ho2'''''''''''''
  have ho3'''''''''''''' := ho3'''''''''''''.below hb32
  clear ho3'''''''''''''
  have hq15'''''''' := hq15'''''''.below hb32
  clear hq15'''''''
  have hq17''''''' := hq17''''''.below hb32
  clear hq17''''''
  have ho24'''' := ho24'''.below hb32
  clear ho24'''
  have ho25'''' := ho25'''.below hb32
  clear ho25'''
  obtain ⟨hc5x0, gc5x0⟩ := k5'''''''''''''.at_ 0 (x := .int .i64 (knP s0).c) rfl
  obtain ⟨hc5x1, gc5x1⟩ := k5'''''''''''''.at_ 1 (x := .slice A2 (knP s0).x.length d2) rfl
  have l5 := k5'''''''''''''.lt
  obtain ⟨hc10x0, gc10x0⟩ := k10'''''''''''.at_ 0 (x := .int .i64 (knP s0).c) rfl
  obtain ⟨hc10x1, gc10x1⟩ := k10'''''''''''.at_ 1 (x := .slice A7 (knP s0).x.length d7) rfl
  have l10 := k10'''''''''''.lt
  obtain ⟨hc27x0, gc27x0⟩ := k27'''.at_ 0 (x := .int .i64 (knP s0).c) rfl
  obtain ⟨hc27x1, gc27x1⟩ := k27'''.at_ 1 (x := .slice A24 (knP s0).x.length d24) rfl
  have l27 := k27'''.lt
  go_wp2_with fail
  refine (heldAtomSB _ (knA s0).length _ _ hq17'''''''.rd (by omega) (by omega) (by omega)).mono ?_
  rintro e w34 ⟨rfl, hb34⟩
  clear hc5x0 gc5x0 hc5x1 gc5x1 l5 hc10x0 gc10x0 hc10x1 gc10x1 l10 hc27x0 gc27x0 hc27x1 gc27x1 l27
  have sz35 := hb34.size
  try simp only [World.size_alloc] at sz35
  have hB'''''''''''''''' := hB'''''''''''''''.trans (hb34.mono hB'''''''''''''''.size)
  clear hB'''''''''''''''
  have k5'''''''''''''' := k5'''''''''''''.below hb34 k5'''''''''''''.lt
  clear k5'''''''''''''
  have k10'''''''''''' := k10'''''''''''.below hb34 k10'''''''''''.lt
  clear k10'''''''''''
  have k27'''' := k27'''.below hb34 k27'''.lt
  clear k27'''
  have ho2''''''''''''''' := ho2''''''''''''''.below hb34
  clear ho2''''''''''''''
  have ho3''''''''''''''' := ho3''''''''''''''.below hb34
  clear ho3''''''''''''''
  have hq15''''''''' := hq15''''''''.below hb34
  clear hq15''''''''
  have hq17'''''''' := hq17'''''''.below hb34
  clear hq17'''''''
  have ho24''''' := ho24''''.below hb34
  clear ho24''''
  have ho25''''' := ho25''''.below hb34
  clear ho25''''
  obtain ⟨hc5x0, gc5x0⟩ := k5''''''''''''''.at_ 0 (x := .int .i64 (knP s0).c) rfl
  obtain ⟨hc5x1, gc5x1⟩ := k5''''''''''''''.at_ 1 (x := .slice A2 (knP s0).x.length d2) rfl
  have l5 := k5''''''''''''''.lt
  obtain ⟨hc10x0, gc10x0⟩ := k10''''''''''''.at_ 0 (x := .int .i64 (knP s0).c) rfl
  obtain ⟨hc10x1, gc10x1⟩ := k10''''''''''''.at_ 1 (x := .slice A7 (knP s0).x.length d7) rfl
  have l10 := k10''''''''''''.lt
  obtain ⟨hc27x0, gc27x0⟩ := k27''''.at_ 0 (x := .int .i64 (knP s0).c) rfl
  obtain ⟨hc27x1, gc27x1⟩ := k27''''.at_ 1 (x := .slice A24 (knP s0).x.length d24) rfl
  have l27 := k27''''.lt
  go_wp2_with fail
  go_ret
  exact ⟨rfl, hB''''''''''''''''⟩
theorem tab_Known {W : World} (h : laidMetH Tryz.prog Rows.fnExactKnownRow.laid W) (hS : W.ShapedOpen Tryz.prog) : EnvP W := ⟨⟨tab_of 2 (by kernel_rfl) rfl h, ⟨sentinel 5 3 (by kernel_rfl) rfl (by kernel_rfl) (by kernel_rfl) h, sentinel 4 4 (by kernel_rfl) rfl (by kernel_rfl) (by kernel_rfl) h⟩, max_of hS⟩, names_of 6 (by kernel_rfl) rfl h⟩
set_option maxRecDepth 100000 in
theorem contract_Known (H : Type) (enc : TypeId × Value → H) (W : World) (base : Nat) (args : Array Value) (ds gs : List (DataW H)) (before : List MemPlace)
    (hval0 : ∀ (j : Nat) t v, Tryz.f4.params[j]? = some t → args[j]? = some v → Value.okWide Tryz.prog W .any base t v)
    (hW : DataW.Whole enc Tryz.prog Tryz.f4.params.toList Rows.fnExactKnownSpec.vars false W args.toList ds gs before) (hL : laidMetH Tryz.prog Rows.fnExactKnownRow.laid W) (hS : W.ShapedOpen Tryz.prog) :
    Calls Tryz.prog 4 args W fun e W' => ∃ v, e = .returned v ∧ Rows.fnExactKnownSpec.post enc Tryz.prog Tryz.f4 false true false false W args v W' := by
  have hval : ∀ (j : Nat) t v, Tryz.f4.params[j]? = some t → args[j]? = some v → Value.okWide Tryz.prog W .any base t v := hval0
  have hW' := hW
  obtain ⟨p, q, hA0, hV, rfl, hfz, hnd⟩ := hW
  have hA : DataW.TrodAll enc Tryz.prog W 0 (fun _ => true) true Tryz.f4.params.toList args.toList ds p := hA0
  rw [Tryz.params4] at hA hval
  obtain ⟨v0, vs0, d0, ds0, p0, q0, hargs, rfl, rfl, h0, r0⟩ := trodAll_cons hA
  obtain ⟨rfl, rfl, rfl⟩ := trodAll_nil r0
  obtain rfl : args = #[v0] := by cases args; simp_all
  obtain ⟨gV, tV, csV, fuelV, dV, pV, rfl, -, -, -, -, rfl⟩ := trodVars_one hV
  obtain ⟨b0, rfl, rfl, rfl, _⟩ := Go.ChangeMaps.open_string Tryz.underlying9 (hval 0 _ v0 rfl rfl) h0
  have hL' := tab_Known hL hS
  refine (walk_Known b0.data.toList W hL').mono fun e W' ⟨he, hb⟩ => ?_
  subst he
  exact ⟨_, rfl, post_lawV (by kernel_rfl) rfl (by kernel_rfl) (by kernel_rfl) Tryz.underlying4 (of_decide_eq_true (by kernel_rfl)) hW' hb⟩
noncomputable def world_Known (os : Os) : World := laidWorldE os Rows.fnExactKnownRow.laid
theorem met_Known (os : Os) : laidMet Tryz.prog Rows.fnExactKnownRow.laid ((world_Known os).forCall (fun _ _ => 0) ⟨#[], #[.string ⟨#[]⟩], []⟩).memory := laidMet_of_run' 8 (by kernel_rfl) (by kernel_rfl)
theorem reads_Known (os : Os) {H : Type} (enc : TypeId × Value → H) : ∃ places, DataW.whole enc Tryz.prog ((world_Known os).forCall (fun _ _ => 0) ⟨#[], #[.string ⟨#[]⟩], []⟩).memory Tryz.f4.params.toList Rows.fnExactKnownSpec.vars false (#[.string ⟨#[]⟩] : Array Value).toList 8 = some ([.lit (.string [])], [Rows.laid_loop_example_g00712_impl_opNames], places) :=
  ⟨MemPlace.row ⟨0, 0, none⟩ 9, by kernel_rfl⟩
set_option maxRecDepth 100000 in
theorem lift_Known (os : Os) (started : os.Started) (H : Type) (enc : TypeId × Value → H) (F : Stop.Interp) :
    ReturnsInHanded {} Tryz.checked os 4 .any ((OpenSpec.ofChange Rows.fnExactKnownSpec).preRow enc Tryz.prog Tryz.f4 Rows.fnExactKnownRow.domain false Rows.fnExactKnownRow.laid) (((OpenSpec.ofChange Rows.fnExactKnownSpec).at F).post enc Tryz.prog Tryz.f4 false true false false) := by
  obtain ⟨places, hx⟩ := reads_Known os enc
  refine returnsInHanded_of_row (C := Tryz.checked) (s := OpenSpec.ofChange Rows.fnExactKnownSpec) (by kernel_rfl) started (by kernel_rfl) Tryz.func4
    (witness_row_atRef (enc := enc) (C := Tryz.checked) false (world_Known os) #[.string ⟨#[]⟩] rfl (by kernel_rfl) (by kernel_rfl) (by kernel_rfl)
      (OpenSpec.preRow_of_cond 8 hx (by kernel_rfl) (fun k hk => by cases hk) (by kernel_rfl) (met_Known os))) ?_
  intro W base args ds gs before hval hW _ _ _ hL hS _
  exact contract_Known H enc W base args ds gs before hval hW hL hS
theorem FnExactKnown_row : Rows.FnExactKnownSaid :=
  OpenClaim.holds_of_cond 4 Tryz.f4 rfl rfl rfl rfl rfl rfl rfl ⟨rfl, rfl, rfl, rfl, rfl⟩ rfl rfl rfl rfl rfl (by kernel_rfl) Tryz.func4 (by kernel_rfl)
    (of_decide_eq_true (by kernel_rfl)) (by unfold Func.isWrapper; first | (rw [if_pos (by decide +kernel)]; kernel_rfl) | (rw [if_neg (by decide +kernel)]; exact ⟨rfl, rfl⟩))
    (fun os started H enc _ F => by rw [OpenClaim.pre_eq_preRow]; exact lift_Known os started H enc F)
theorem plain_Known (f : FuncId) (fn : Func) (hf : Tryz.pinned.checked.prog.funcNamed Rows.fnExactKnownRow.func = some f) (hfn : Tryz.pinned.checked.prog.funcs[f]? = some fn) :
    true = Tryz.pinned.checked.prog.looks [] ∧ ∀ (j : Nat) t, fn.params[j]? = some t → Tryz.pinned.checked.prog.wantsStandIn t = false := by
  obtain rfl : f = 4 := Option.some.inj ((show Tryz.prog.funcNamed Rows.fnExactKnownRow.func = some 4 by kernel_rfl).symm.trans hf) |>.symm
  obtain rfl : fn = Tryz.f4 := (Option.some.inj (Tryz.func4.symm.trans hfn)).symm
  refine ⟨by kernel_rfl, fun j t ht => ?_⟩
  rw [Tryz.params4] at ht
  obtain rfl : t = 9 := by simpa using Array.mem_of_getElem? ht
  kernel_rfl
theorem FnExactKnown_holds : Rows.FnExactKnownCardSaid :=
  Claim7.holds_tied_plain_at .later [] _ _ _ _ FnExactKnown_row (fun _ h => by cases h) (by kernel_rfl) (fun _ h => by cases h) fnExactKnown_row_tie rfl ⟨rfl, rfl⟩ (by kernel_rfl) rfl plain_Known (by kernel_rfl)
#print axioms FnExactKnown_holds
end Go.Proofs.YtgbgjlmkmlhefaaGreatDoor
