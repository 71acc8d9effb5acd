/- The text of a code: the model's and the program's. Conditions: the code can be read, its fields are integers of 64 bits; the tables of names and of powers of ten stand as written. -/
import Derived.Test.YtgbgjlmkmlhefaaGreatDoorLaidN
import Derived.Test.YtgbgjlmkmlhefaaGreatDoorS2p
namespace Go.Proofs.YtgbgjlmkmlhefaaGreatDoor
set_option maxRecDepth 20000
set_option linter.unusedSimpArgs false
set_option linter.unusedVariables false
open Go.ChangeShapes Go.WideShapes Go.ChangeAt Go.RowKit
set_option linter.unusedVariables false
def ctext (xs : List Ins) : List UInt8 := Lib.join (xs.map instrTF) [59, 32]
def opsOk (xs : List Ins) : Bool := xs.all fun i => inB i.o 0 8
def codeTF (xs : List Ins) : Option (List UInt8) := if xs.length ≤ 16 ∧ opsOk xs = true then some (ctext xs) else none
theorem instrTF_ne {i : Ins} (h : inB i.o 0 8 = true) : ∃ c L, instrTF i = c :: L := by
  unfold instrTF
  rw [if_pos h]
  rcases op_cases h with h | h | h | h | h | h | h | h | h <;> rw [h] <;> exact ⟨_, _, rfl⟩
theorem ctext_take {xs : List Ins} {k : Nat} {x : Ins} (h : xs[k]? = some x) : ctext (xs.take (k + 1)) = if k = 0 then instrTF x else ctext (xs.take k) ++ [59, 32] ++ instrTF x := by
  unfold ctext
  rw [List.take_add_one, h]
  split
  · rename_i h0
    subst h0
    simp [Lib.join_one]
  · rename_i h0
    have hk : k < xs.length := (List.getElem?_eq_some_iff.1 h).1
    simp only [Option.toList_some, List.map_append, List.map_cons, List.map_nil]
    rw [join_snoc _ _ _ (fun e => by have := congrArg List.length e; rw [List.length_map, List.length_take, List.length_nil] at this; omega)]
theorem ctext_len : ∀ (k : Nat) (xs : List Ins), (∀ x ∈ xs, InsR x) → (ctext (xs.take k)).length ≤ 70 * k
  | 0, xs, _ => by simp [ctext, Lib.join_nil]
  | k + 1, xs, hr => by
    cases hx : xs[k]? with
    | none =>
      have hk := List.getElem?_eq_none_iff.1 hx
      have := ctext_len k xs hr
      rw [List.take_of_length_le (by omega)] at this ⊢
      omega
    | some x =>
      have h1 := instrTF_len (hr x (List.mem_of_getElem? hx))
      have := ctext_len k xs hr
      rw [ctext_take hx]
      split
      · omega
      · simp only [List.length_append, List.length_cons, List.length_nil]
        omega
def RetStrB (L : List UInt8) (ok : Bool) (w : World) (e : Ending) (w' : World) : Prop := e = .returned (.tuple #[str L, .bool ok]) ∧ Below w.heap.size w w'
theorem read_codeR {H : Type} {enc : TypeId × Value → H} {P : Program} {w : World} {t e : TypeId} {f0 f1 f2 f3 : Field} {n : Nat} {c : Value} {y : DataW H × List MemPlace} (ht : P.underlying t = some (.slice e)) (hs : P.underlying e = some (.struct #[f0, f1, f2, f3])) (hC : P.cellsOf e = 4)
    (ho : f0.offset = 0 ∧ f1.offset = 1 ∧ f2.offset = 2 ∧ f3.offset = 3) (hk : P.cellsOf f0.type = 1 ∧ P.cellsOf f1.type = 1 ∧ P.cellsOf f2.type = 1 ∧ P.cellsOf f3.type = 1)
    (hi : P.underlying f0.type = some (.int .i64) ∧ P.underlying f1.type = some (.int .i64) ∧ P.underlying f2.type = some (.int .i64) ∧ P.underlying f3.type = some (.int .i64))
    (h : DataW.trod enc P w 0 (fun _ => true) true n t [c] = some y) : ∃ xs : List Ins, RdA w c 4 xs.length (flc xs) ∧ ∀ x ∈ xs, InsR x := by
  haveI : Inhabited Ins := ⟨⟨0, 0, 0, 0⟩⟩
  obtain ⟨xs, h1, h2⟩ := read_sl (α := Ins) insC InsR 4 (fun _ => rfl) (by omega) ht hC (fun n cs y h => by obtain ⟨x, hx, hw⟩ := cells_ins hs hC ho hk hi h; exact ⟨x, hx, insR_of hw⟩) h
  refine ⟨xs, ?_, h2⟩
  have e : xs.flatMap insC = flc xs := by
    unfold flc fl ints
    rw [List.map_flatMap]
    rfl
  rwa [e] at h1
def tpS (ts : List (List UInt8)) (k : Nat) : List Value := (ts.take k).map str ++ List.replicate (ts.length - k) (.string ⟨#[]⟩)
theorem tpS_zero (ts : List (List UInt8)) : List.replicate ts.length (Value.string ⟨#[]⟩) = tpS ts 0 := by simp [tpS]
theorem tpS_at {ts : List (List UInt8)} {k : Nat} (h : k < ts.length) : (tpS ts k)[k]? = some (.string ⟨#[]⟩) := by
  have hl : ((ts.take k).map str).length = k := by simp; omega
  unfold tpS
  rw [List.getElem?_append_right (by omega), hl, Nat.sub_self, List.getElem?_replicate, if_pos (by omega)]
theorem tpS_set {ts : List (List UInt8)} {k : Nat} {t : List UInt8} (h : ts[k]? = some t) : (tpS ts k).set k (str t) = tpS ts (k + 1) := by
  obtain ⟨hk, hx⟩ := List.getElem?_eq_some_iff.1 h
  have hl : ((ts.take k).map str).length = k := by simp; omega
  unfold tpS
  rw [List.set_append, if_neg (by omega), hl, Nat.sub_self, show ts.length - k = (ts.length - (k + 1)) + 1 from by omega, List.replicate_succ, List.set_cons_zero,
    List.take_add_one, h]
  simp
theorem tpS_get {ts : List (List UInt8)} {k : Nat} {t : List UInt8} (h : ts[k]? = some t) : (tpS ts (k + 1))[k]? = some (str t) := by
  obtain ⟨hk, hx⟩ := List.getElem?_eq_some_iff.1 h
  have hl : ((ts.take k).map str).length = k := by simp; omega
  unfold tpS
  rw [List.take_add_one, h]
  simp only [Option.toList_some, List.map_append, List.map_cons, List.map_nil, List.append_assoc]
  rw [List.getElem?_append_right (by omega), hl, Nat.sub_self]
  rfl
theorem tpS_all (ts : List (List UInt8)) : tpS ts ts.length = ts.map str := by simp [tpS]
theorem joinS_call (g base : Nat) (ts : List (List UInt8)) (w : World) (hO : w.ownsRow base 9 1 (.slice (some ⟨g, 0, none⟩) ts.length ts.length) ts.length (tpS ts ts.length)) (hl : ts.length ≤ 16777216) (hj : (Lib.join ts [59, 32]).length ≤ 140737488355328) :
    Calls Tryz.prog 53 #[.slice (some ⟨g, 0, none⟩) ts.length ts.length, .string ⟨#[59, 32]⟩] w fun e w' => e = .returned (str (Lib.join ts [59, 32])) ∧ Below w.heap.size w w' := by
  have he : Lib.join ((ts.map fun t => (⟨t.toArray⟩ : ByteArray)).map (·.data.toList)) (⟨#[59, 32]⟩ : ByteArray).data.toList = Lib.join ts [59, 32] := by
    simp [List.map_map, Function.comp_def]
  have hj := Tryz.strings_Join g 0 ts.length (ts.map fun t => (⟨t.toArray⟩ : ByteArray)) ⟨#[59, 32]⟩ w (fun j y hy => by
    rw [Nat.zero_add]
    have hjl : j < ts.length := by have := (List.getElem?_eq_some_iff.1 hy).1; simpa using this
    rw [hO.cellAt j (by omega), tpS_all]
    rw [List.getElem?_map] at hy ⊢
    cases hx : ts[j]? with
    | none => rw [hx] at hy; cases hy
    | some x =>
      rw [hx] at hy
      injection hy with hy
      subst hy
      rfl) (hO.lt g rfl).2 (by rw [List.length_map]; omega) (by rw [List.length_map]; omega) (by rw [he]; exact hj)
  rw [he, List.length_map] at hj
  exact hj
set_option maxHeartbeats 1600000 in
theorem joinInstr (v : Value) (xs : List Ins) (w : World) (h : Rd w v 4 xs.length (flc xs)) (hR : ∀ x ∈ xs, InsR x) (hE : EnvT w) :
    Calls Tryz.prog 28 #[v, .int .i64 16, .string ⟨#[59, 32]⟩, .func (.func 29) #[] #[]] w (RetStrB ((codeTF xs).getD []) (codeTF xs).isSome w) := by
  obtain ⟨A, c, rfl, -, hnc, hc, hr⟩ := h
  unfold maxLen at hc
  have HRr := Lib.hid hR
  have HE := Lib.hid hE
  clear hR hE
  by_cases hlen : xs.length ≤ 16
  · obtain ⟨i, hi, hz0, hz1, hz2⟩ := info_parts infoStr
    obtain ⟨ts, hts⟩ : ∃ ts, xs.map instrTF = ts := ⟨_, rfl⟩
    have htl : ts.length = xs.length := by rw [← hts]; simp
    have HTS := Lib.hid hts
    have HTL := Lib.hid htl
    clear hts
    go_enter Tryz.func28, Tryz.ntmps28
    go_wp2_with (at_make; refine wpList_make_full _ rfl _ _ 65 rfl w.heap.size 9 i (.string ⟨#[]⟩) 1 Tryz.underlying65 hi hz0 hz1 _ _ _ _ xs.length rfl rfl rfl rfl (by rw [hz2]; omega) (by unfold maxLen; omega) (Nat.le_refl _) ?_)
    intro w2 hown hg2
    have hO0 : w2.ownsRow w.heap.size 9 1 (.slice (some ⟨w.heap.size, 0, none⟩) xs.length xs.length) xs.length (tpS ts 0) := by
      rw [← tpS_zero, HTL.out]
      simpa [toList_madeCells_one, Value.cells] using hown
    have hB2 : Below w.heap.size w w2 := (Below.refl _ _).grown hg2 (Nat.le_refl _) (by simp)
    clear hown hg2 htl
    go_wp2_with fail
    go_loopw [22] (fun i wr => ∃ k : Nat, k ≤ xs.length ∧ i = .int .i64 k ∧ wr.ownsRow w.heap.size 9 1 (.slice (some ⟨w.heap.size, 0, none⟩) xs.length xs.length) xs.length (tpS ts k) ∧ Hid ((xs.take k).all (fun i => inB i.o 0 8) = true) ∧ Below w.heap.size w wr) (fun i _ => xs.length - (intOf i).toNat)
    case atStart => exact ⟨0, Nat.zero_le _, rfl, hO0, Lib.hid (by simp), hB2⟩
    case round =>
      obtain ⟨k, hk, rfl, hO, HA, hB⟩ := hrel
      clear hO0 hB2
      by_cases hlt : k < xs.length
      · obtain ⟨b, o, rfl, hb, hcell⟩ := hr (by omega)
        obtain ⟨x, hxk, hx0, hx1, hx2, hx3⟩ := ins_at (fun j u hu => (hB.cell (p := ⟨b, o + j, none⟩) hb).trans (hcell j u hu)) hlt
        have hRx := HRr.out x (List.mem_of_getElem? hxk.out)
        have htk : ts[k]? = some (instrTF x) := by rw [← HTS.out, List.getElem?_map, hxk.out]; rfl
        have hC := fun (W : World) (hE : EnvT W) => impl_InstrText x W hRx hE.tab hE.names
        have k1 := Bk.new wr #[.int .i64 x.o, .int .i64 x.r, .int .i64 x.s, .int .i64 x.n] 37
        have hBa := hB.alloc hB.size (.cells #[.int .i64 x.o, .int .i64 x.r, .int .i64 x.s, .int .i64 x.n] 37)
        have hOa := hO.alloc (.cells #[.int .i64 x.o, .int .i64 x.r, .int .i64 x.s, .int .i64 x.n] 37)
        have HEa := Lib.hid (HE.out.below hBa (Nat.le_refl _))
        have HC := Lib.hid hC
        have HX := Lib.hid hxk.out
        have HTK := Lib.hid htk
        clear hcell hr hC hRx htk
        go_wp2_with fail
        refine (HC.out _ HEa.out).mono ?_
        rintro e w1 ⟨rfl, hb1⟩
        have hO1 := ownsRow_below hOa hb1
        have hB1 := hBa.trans (hb1.mono hBa.size)
        have hck : w1.cell? ⟨w.heap.size, k, none⟩ = some (.string ⟨#[]⟩) := (hO1.cellAt k (by omega)).trans (tpS_at (by rw [HTL.out]; exact hlt))
        have hfz := hO1.frozenAt k
        have hst := hO1.stored k (str (instrTF x))
        have hO2 := hst.1
        rw [tpS_set HTK.out] at hO2
        have hB3 := hB1.setCell (p := ⟨w.heap.size, k, none⟩) (Nat.le_refl _) (str (instrTF x))
        have hOf : (w1.setCell ⟨w.heap.size, k, none⟩ (str (instrTF x))).cell? ⟨w.heap.size, k, none⟩ = some (str (instrTF x)) := (hO2.cellAt k (by omega)).trans (tpS_get HTK.out)
        clear hst hx0 hx1 hx2 hx3 k1 hOa hO1 hb1 hO
        cases hin : inB x.o 0 8
        · have HF : Hid (codeTF xs = none) := Lib.hid (by
            have := allN_false (p := fun i : Ins => inB i.o 0 8) HX.out hin
            simp [codeTF, opsOk, this])
          rw [show instrTF x = [] by simp [instrTF, hin]] at hO2 hB3 hOf ⊢
          clear hin
          go_wp2_with fail
          exact bodyPost_ret (v := .tuple #[.string ⟨#[]⟩, .bool false]) (by simp [results, Tryz.results28, go_sem]) rfl ⟨by rw [HF.out]; rfl, hB3⟩
        · obtain ⟨ch, L2, hne⟩ := instrTF_ne hin
          have HA' := Lib.hid (allN_snoc HA.out HX.out hin)
          rw [hne] at hO2 hB3 hOf ⊢
          clear hin hne
          go_wp2_with fail
          exact ⟨⟨k + 1, by omega, by go_num, hO2, HA', hB3⟩, by simp [intOf]; omega⟩
      · obtain rfl : k = xs.length := by omega
        have hA := HA.out
        rw [List.take_length] at hA
        have HF : Hid (codeTF xs = some (Lib.join ts [59, 32])) := Lib.hid (by
          unfold codeTF ctext
          rw [if_pos ⟨hlen, hA⟩, HTS.out])
        have hJ := joinS_call w.heap.size w.heap.size ts wr (by rw [HTL.out]; exact hO) (by rw [HTL.out]; omega) (by
          have := ctext_len xs.length xs HRr.out
          rw [List.take_length] at this
          unfold ctext at this
          rw [HTS.out] at this
          omega)
        rw [HTL.out] at hJ
        have HJ := Lib.hid hJ
        clear hA hr hJ
        go_wp2_with fail
        refine HJ.out.mono ?_
        rintro e w1 ⟨rfl, hb1⟩
        go_wp2_with fail
        exact bodyPost_ret (v := .tuple #[str (Lib.join ts [59, 32]), .bool true]) (by simp [results, Tryz.results28, go_sem]) rfl ⟨by rw [HF.out]; rfl, hB.trans (hb1.mono hB.size)⟩
  · have HF : Hid (codeTF xs = none) := Lib.hid (by simp [codeTF, hlen])
    clear hr
    go_enter Tryz.func28, Tryz.ntmps28
    go_wp2_with fail
    exact bodyPost_ret (v := .tuple #[.string ⟨#[]⟩, .bool false]) (by simp [results, Tryz.results28, go_sem]) rfl ⟨by rw [HF.out]; rfl, Below.refl _ _⟩
set_option maxHeartbeats 800000 in
theorem impl_CodeText (v : Value) (xs : List Ins) (w : World) (h : Rd w v 4 xs.length (flc xs)) (hR : ∀ x ∈ xs, InsR x) (hE : EnvT w) :
    Calls Tryz.prog 8 #[v] w (RetStrB ((codeTF xs).getD []) (codeTF xs).isSome w) := by
  have HC := Lib.hid (joinInstr v xs w h hR hE)
  obtain ⟨A, c, rfl, -⟩ := id h
  clear h hR hE
  go_enter Tryz.func8, Tryz.ntmps8
  go_wp2_with fail
  refine HC.out.mono ?_
  rintro e w1 ⟨rfl, hb1⟩
  go_wp2_with fail
  go_ret2
  exact ⟨rfl, hb1⟩
end Go.Proofs.YtgbgjlmkmlhefaaGreatDoor
