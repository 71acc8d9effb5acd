/- The table of names out of the row's list, beside the table of powers of ten. -/
import Derived.Test.YtgbgjlmkmlhefaaGreatDoorLaid
import Derived.Test.YtgbgjlmkmlhefaaGreatDoorT4
import Derived.Test.YtgbgjlmkmlhefaaGreatDoorLaw2
import Derived.OpenVars
import Derived.ChangeVars
namespace Go.Proofs.YtgbgjlmkmlhefaaGreatDoor
set_option maxRecDepth 20000
set_option linter.unusedSimpArgs false
set_option linter.unusedVariables false
open Go.ChangeShapes Go.WideShapes Go.ChangeAt Go.RowKit
set_option linter.unusedVariables false
def strData {H : Type} (l : List (List UInt8)) : DataW H := .agg (l.map fun s => .lit (.string s))
theorem cells_of_strs {H : Type} {enc : TypeId × Value → H} {P : Program} {w : World} {base : Nat} {sp : Nat → Bool} {held : Bool} {fuel : Nat} {t e : TypeId} {n : Nat} {cs : List Value} {zs : List (List UInt8)} {p : List MemPlace}
    (ht : P.underlying t = some (.array n e)) (he : P.underlying e = some .string) (hce : P.cellsOf e = 1) (hct : P.cellsOf t = n)
    (h : DataW.trod enc P w base sp held fuel t cs = some (strData zs, p)) : cs = zs.map str := by
  cases fuel with
  | zero => simp [DataW.trod] at h
  | succ fuel =>
    simp only [DataW.trod, ht, hce, hct, Nat.mul_one] at h
    split at h
    · rename_i hl
      obtain ⟨xs, hm, hx⟩ := Option.map_eq_some_iff.1 h
      have hxs : xs.map (·.1) = zs.map fun z => (DataW.lit (.string z) : DataW H) := by
        have := congrArg Prod.fst hx
        simpa [strData] using this
      have hxl : xs.length = n := by simpa using Lib.mapM_length hm
      have hzl : zs.length = n := by
        have := congrArg List.length hxs
        simp at this
        omega
      apply List.ext_getElem?
      intro i
      by_cases hi : i < n
      · obtain ⟨b, hb, hf⟩ := Lib.mapM_at hm i i (by simp [hi])
        obtain ⟨z, hc, rfl, _⟩ := DataW.trod_string he hf
        have h1 : cs[i]? = some (.string z) := by
          have := congrArg (·[0]?) hc
          simpa [List.getElem?_take, List.getElem?_drop] using this
        have h2 : (xs.map (·.1))[i]? = some (DataW.lit (.string z.data.toList) : DataW H) := by simp [hb]
        rw [hxs] at h2
        simp only [List.getElem?_map, Option.map_eq_some_iff, DataW.lit.injEq, Lit.string.injEq] at h2
        obtain ⟨z', hz', rfl⟩ := h2
        rw [List.getElem?_map, hz', h1]
        rfl
      · rw [List.getElem?_eq_none (by omega), List.getElem?_eq_none (by simp; omega)]
    · cases h
theorem names_of {W : World} {l rest : List (String × DataW Unit)} (k : Nat) (hp : (l.all fun x => x.2.handleName?.isNone) = true) (hk : l.drop k = ("loop.example/g00712/impl.opNames", strData wordTab) :: rest)
    (h : laidMetH Tryz.prog l W) : Names W := by
  rw [MakeChecks.laidMetH_plain _ _ _ hp] at h
  have h1 := laidMet_drop k h
  rw [hk] at h1
  obtain ⟨ps, ⟨g', t', cs, fuel, p, q, hg', ht', hvar, hd, _, _⟩, _⟩ := h1
  obtain rfl := Option.some.inj ((show Tryz.prog.globalNamed "loop.example/g00712/impl.opNames" = some 0 by kernel_rfl).symm.trans hg')
  obtain rfl := Option.some.inj ((show (Tryz.prog.globals[0]?).map (·.type) = some 92 by kernel_rfl).symm.trans ht')
  have hcs := cells_of_strs (t := 92) (e := 9) (n := 9) (by kernel_rfl) (by kernel_rfl) (by kernel_rfl) (by kernel_rfl) hd
  intro k x hx
  have h2 := World.var?_cell (show Tryz.prog.globalNamed "loop.example/g00712/impl.opNames" = some 0 by kernel_rfl) hvar k
  rw [h2]
  rw [← Array.getElem?_toList, hcs]
  simp [hx]
/-- the last step of a law whose row names variables of the program's own: they read as they did -/
theorem post_lawV {H : Type} {enc : TypeId × Value → H} {P : Program} {f : Func} {s : ChangeSpec} {apart : Bool} {W W' : World} {args : Array Value} {ds gs : List (DataW H)} {before : List MemPlace} {tb : TypeId} (hl : laidOutB P = true)
    (hfn : s.fn H (ds ++ gs) = { results := [.lit (.bool true)], args := ds, vars := gs }) (hvr : varsRowed P s.vars = true) (hrt : f.resultTypes = #[tb]) (htb : P.underlying tb = some .bool)
    (hread : ∀ t ∈ f.params.toList, P.readableRec t = true ∧ t < P.types.size) (hW : DataW.Whole enc P f.params.toList s.vars apart W args.toList ds gs before) (hb : Below W.heap.size W W') :
    s.post enc P f apart true false false W args (.bool true) W' := by
  have hlt : ∀ p ∈ before, p.block < W.heap.size := fun p hp => hW.lt p hp
  obtain ⟨p, q, hA, hV, hpq, hz, hn⟩ := id hW
  have hap : ∀ x ∈ p, x.block < W.heap.size := fun x hx => hlt x (by rw [hpq]; simp [hx])
  refine ⟨ds, gs, before, [], p, q, hW, ?_, ?_, ?_, World.keptBut_mono (fun x hx => ⟨hx, ?_⟩) (hb.frame (· ∈ before)), fun h => by cases h⟩
  · rw [hfn, hrt]
    exact trodAll_cons_mk (shut_bool htb _) trodAll_mk0
  · rw [hfn]
    exact args_stay hl hb hread hA hap
  · rw [hfn]
    exact Below.trodVars hl hb hvr hV
  · rw [hpq] at hx
    exact .inr (List.mem_append.1 hx)
structure EnvT (w : World) : Prop where
  tab : Tab w
  names : Names w
theorem EnvT.below {B : Nat} {w w' : World} (h : EnvT w) (hb : Below B w w') (hB : w.heap.size ≤ B) : EnvT w' := ⟨h.tab.below hb hB, h.names.below hb hB⟩
theorem wf_rng {x : Int} (h : (Lit.int .i64 x).wf = true) : Rng x := by
  simp [Lit.wf, IntKind.min, IntKind.max, IntKind.signed, IntKind.bits] at h
  unfold Rng
  omega
theorem insR_of {x : Ins} (h : (Lit.int .i64 x.o).wf = true ∧ (Lit.int .i64 x.r).wf = true ∧ (Lit.int .i64 x.s).wf = true ∧ (Lit.int .i64 x.n).wf = true) : InsR x := ⟨wf_rng h.1, wf_rng h.2.1, wf_rng h.2.2.1, wf_rng h.2.2.2⟩
end Go.Proofs.YtgbgjlmkmlhefaaGreatDoor
