/- Contract of slices.DeleteFunc of a row of one's own by FreeSome's closure: what the set holds stays, in its order. Conditions: the row is one's own and holds numbers of 64 bits; the set's box and its map are other blocks. -/
import Derived.Test.YtiamkgkhamnaeaaN20
import Derived.Test.YtiamkgkhamnaeaaN16
namespace Go.Proofs.Ytiamkgkhamnaeaa
set_option maxRecDepth 20000
set_option linter.unusedSimpArgs false
set_option linter.unusedVariables false
open Go.ChangeShapes Go.WideShapes Go.ChangeAt Go.RowKit Go.Maps
set_option linter.unusedVariables false
theorem owns_beyonds {lo : Nat} {e : TypeId} {size g cap m : Nat} {L : List Value} : ∀ (vs : List Value) (o : Nat) (w : World), w.ownsRow lo e size (.slice (some ⟨g, 0, none⟩) m cap) m L → m * size ≤ o → (w.setCells g o vs).ownsRow lo e size (.slice (some ⟨g, 0, none⟩) m cap) m L ∧ Only [g] w (w.setCells g o vs)
  | [], _, w, h, _ => ⟨h, Only.refl _ _⟩
  | v :: vs, o, w, h, ho => by
    obtain ⟨h1, h2⟩ := owns_beyonds vs (o + 1) _ (owns_beyond h ho v) (by omega)
    exact ⟨h1, (Only.setCell w v).trans h2⟩
/-- what lies in the row while DeleteFunc goes on: i kept ones of the first j, then what stood from j on -/
structure DF (wf xs L : List Int) (i j : Nat) : Prop where
  len : L.length = xs.length
  lt : i < j
  le : j ≤ xs.length
  kept : L.take i = (xs.take j).filter fun y => decide (y ∈ wf)
  rest : L.drop j = xs.drop j
theorem DF.start {wf xs : List Int} {k : Nat} (hk : k < xs.length) (h1 : ∀ y ∈ xs.take k, y ∈ wf) (h2 : ∀ y, xs[k]? = some y → y ∉ wf) : DF wf xs xs k (k + 1) := by
  refine ⟨rfl, by omega, hk, ?_, rfl⟩
  have hx : xs[k]? = some xs[k] := List.getElem?_eq_getElem hk
  rw [List.take_add_one, hx, Option.toList_some, List.filter_append, List.filter_eq_self.2 (fun y hy => by simpa using h1 y hy)]
  simp [h2 _ hx]
theorem DF.at_ {wf xs L : List Int} {i j : Nat} (h : DF wf xs L i j) (hj : j < xs.length) : L[j]? = xs[j]? := by
  have := congrArg (fun l => l[0]?) h.rest
  simpa using this
theorem DF.skip {wf xs L : List Int} {i j : Nat} {x : Int} (h : DF wf xs L i j) (hx : L[j]? = some x) (hj : j < xs.length) (hm : x ∉ wf) : DF wf xs L i (j + 1) := by
  have hx' := (h.at_ hj).symm.trans hx
  refine ⟨h.len, by have := h.lt; omega, hj, ?_, ?_⟩
  · rw [List.take_add_one, hx', Option.toList_some, List.filter_append, h.kept]
    simp [hm]
  · have := congrArg (List.drop 1) h.rest
    rwa [List.drop_drop, List.drop_drop] at this
theorem DF.keep {wf xs L : List Int} {i j : Nat} {x : Int} (h : DF wf xs L i j) (hx : L[j]? = some x) (hj : j < xs.length) (hm : x ∈ wf) : DF wf xs (L.set i x) (i + 1) (j + 1) := by
  have hx' := (h.at_ hj).symm.trans hx
  have hl := h.lt
  have hlen := h.len
  refine ⟨by simpa using h.len, by omega, hj, ?_, ?_⟩
  · rw [List.take_add_one (l := xs), hx', Option.toList_some, List.filter_append, ← h.kept]
    rw [List.take_add_one, List.take_set_of_le (Nat.le_refl _), List.getElem?_set_self (by omega)]
    simp [hm]
  · rw [List.drop_set_of_lt (by omega)]
    have := congrArg (List.drop 1) h.rest
    rwa [List.drop_drop, List.drop_drop] at this
theorem DF.done {wf xs L : List Int} {i : Nat} (h : DF wf xs L i xs.length) : L.take i = xs.filter (fun y => decide (y ∈ wf)) ∧ (xs.filter fun y => decide (y ∈ wf)).length = i := by
  have hk := h.kept
  rw [List.take_length] at hk
  refine ⟨hk, ?_⟩
  rw [← hk, List.length_take, h.len]
  have := h.lt
  omega
theorem first_unique {wf xs : List Int} {k k' : Nat} (h1 : ∀ y ∈ xs.take k, y ∈ wf) (hk' : k' < xs.length) (h2 : ∀ y, xs[k']? = some y → y ∉ wf) : k ≤ k' := by
  refine Nat.le_of_not_lt fun h => ?_
  have hx : xs[k']? = some xs[k'] := List.getElem?_eq_getElem hk'
  refine h2 _ hx (h1 _ ?_)
  exact List.mem_of_getElem? (i := k') (by rw [List.getElem?_take_of_lt h, hx])
set_option maxHeartbeats 1600000 in
theorem deleteFuncI (g cap : Nat) (xs wf : List Int) (lo p gm n : Nat) (D : DU) (w : World) (hO : w.ownsRow lo 3 1 (.slice (some ⟨g, 0, none⟩) xs.length cap) xs.length (ints xs)) (hcn : xs.length ≤ cap) (hcm : cap ≤ 9223372036854775807)
    (hs : SetAt w p gm n D wf) (hp : p ≠ g) (hg : gm ≠ g) (hw : ∀ x ∈ xs, (Lit.int .i64 x).wf = true) (hrd : Rd w (.slice (some ⟨g, 0, none⟩) xs.length cap) 1 xs.length (ints xs)) :
    Calls Try.prog 88 #[.slice (some ⟨g, 0, none⟩) xs.length cap, .func (.func 89) #[] #[.pointer (some ⟨p, 0, none⟩)]] w fun e w' =>
      e = .returned (.slice (some ⟨g, 0, none⟩) (xs.filter fun y => decide (y ∈ wf)).length cap) ∧
      w'.ownsRow lo 3 1 (.slice (some ⟨g, 0, none⟩) (xs.filter fun y => decide (y ∈ wf)).length cap) (xs.filter fun y => decide (y ∈ wf)).length (ints (xs.filter fun y => decide (y ∈ wf))) ∧ Only [g] w w' := by
  have HI := Lib.hid (indexFuncI _ xs p gm n D wf w hrd hs hw)
  have HS := Lib.hid (And.intro hs (And.intro hp hg))
  have HW := Lib.hid hw
  have HO := Lib.hid hO
  clear hs hp hg hw hrd hO
  by_cases hfirst : ∃ k : Nat, k < xs.length ∧ (∀ y ∈ xs.take k, y ∈ wf) ∧ ∀ y, xs[k]? = some y → y ∉ wf
  · obtain ⟨k, hk, h1, h2⟩ := hfirst
    have HQ : Hid (Calls Try.prog 112 #[.slice (some ⟨g, 0, none⟩) xs.length cap, .func (.func 89) #[] #[.pointer (some ⟨p, 0, none⟩)]] w fun e w' => e = .returned (.int .i64 k) ∧ w = w') := Lib.hid (HI.out.mono (by
      rintro e w1 ⟨r, rfl, ⟨rfl, hall⟩ | ⟨k', rfl, hk', h1', h2'⟩, rfl⟩
      · exact absurd (hall _ (List.getElem_mem hk)) (h2 _ (List.getElem?_eq_getElem hk))
      · obtain rfl : k' = k := Nat.le_antisymm (first_unique h1' hk h2) (first_unique h1 hk' h2')
        exact ⟨rfl, rfl⟩))
    have HD := Lib.hid (DF.start hk h1 h2)
    have hkm : ((k : Int) == -1) = false := by simp
    clear HI h1 h2
    go_enter Try.func88, Try.ntmps88
    go_wp2_with (go_at_call 112; refine HQ.out.mono ?_; rintro e w1 ⟨rfl, rfl⟩)
    clear HQ
    go_loopw [5, 6] (fun a b wr => ∃ (i j : Nat) (L : List Int), a = .int .i64 i ∧ b = .int .i64 j ∧ i < j ∧ j ≤ xs.length ∧ Hid (DF wf xs L i j) ∧ Hid (wr.ownsRow lo 3 1 (.slice (some ⟨g, 0, none⟩) xs.length cap) xs.length (ints L)) ∧ Only [g] w wr) (fun _ b _ => xs.length - (intOf b).toNat)
    case atStart => exact ⟨k, k + 1, xs, rfl, by go_num, by omega, hk, HD, HO, Only.refl _ _⟩
    case round =>
      obtain ⟨i, j, L, rfl, rfl, hij, hj, HD', HO', hon⟩ := hrel
      clear hkm hk HD HO
      by_cases hlt : j < xs.length
      · have hL := HD'.out.len
        obtain ⟨x, hxk, hx⟩ := int_at (xs := L) (b := g) (o := 0) (k := j) (fun q u hu => by rw [Nat.zero_add]; exact (HO'.out.cellAt q (by have := (List.getElem?_eq_some_iff.1 hu).1; simp [ints] at this; omega)).trans hu) (by omega)
        rw [Nat.zero_add] at hx
        have HL := Lib.hid hL
        have hwx := HW.out x (List.mem_of_getElem? ((HD'.out.at_ hlt).symm.trans hxk.out))
        have hq := free_look p gm n D wf x _ (HS.out.1.only hon HS.out.2.1 HS.out.2.2) hwx
        have HWX := Lib.hid hwx
        clear hL hwx
        by_cases hm : x ∈ wf
        · rw [show (!decide (x ∈ wf)) = false by simp [hm]] at hq
          have HQ := Lib.hid hq
          have HN := Lib.hid (HD'.out.keep hxk.out hlt hm)
          have hst := HO'.out.stored i (.int .i64 x)
          rw [ints_set] at hst
          have HST := Lib.hid hst
          have hfz := HO'.out.frozenAt i
          obtain ⟨y, hyk, hy⟩ := int_at (xs := L) (b := g) (o := 0) (k := i) (fun q u hu => by rw [Nat.zero_add]; exact (HO'.out.cellAt q (by have := (List.getElem?_eq_some_iff.1 hu).1; simp [ints] at this; have := HL.out; omega)).trans hu) (by have := HL.out; omega)
          rw [Nat.zero_add] at hy
          have hil : i < xs.length := by omega
          clear hq hm hst
          go_wp2_with (go_at_call 89; refine HQ.out.mono ?_; rintro e w1 ⟨rfl, rfl⟩)
          refine ⟨⟨i + 1, j + 1, L.set i x, by go_num, by go_num, by omega, by omega, HN, Lib.hid HST.out.1, hon.trans (Only.setCell _ _)⟩, by simp [intOf]; omega⟩
        · rw [show (!decide (x ∈ wf)) = true by simp [hm]] at hq
          have HQ := Lib.hid hq
          have HN := Lib.hid (HD'.out.skip hxk.out hlt hm)
          clear hq hm
          go_wp2_with (go_at_call 89; refine HQ.out.mono ?_; rintro e w1 ⟨rfl, rfl⟩)
          exact ⟨⟨i, j + 1, L, rfl, by go_num, by omega, by omega, HN, HO', hon⟩, by simp [intOf]; omega⟩
      · obtain rfl : j = xs.length := by omega
        have hd := HD'.out.done
        have HD2 := Lib.hid hd
        have hpre := owns_prefix HO'.out (Nat.le_of_lt hij)
        obtain ⟨w6, hw6⟩ : ∃ w6, w6 = wr.setCells g i (List.replicate (xs.length - i) (.int .i64 0)) := ⟨_, rfl⟩
        have hcl : ∀ ty c, (Builtin.clear_ #[22] ty #[.slice (some ⟨g, i, none⟩) (xs.length - i) c]).run Try.prog wr = .ok (.tuple #[]) w6 := fun ty c => by
          rw [hw6]
          exact Lib.run_clear_slice (P := Try.prog) wr 22 3 ty (.int .i64 0) Try.underlying22 (fun w => by kernel_rfl) rfl rfl g i (xs.length - i) c (by omega) (fun q hq => (owns_spare HO'.out (by omega)).1) (fun q hq => HO'.out.frozenAt _)
        have hb := owns_beyonds (List.replicate (xs.length - i) (.int .i64 0)) i wr hpre (by omega)
        rw [← hw6, Nat.mul_one, show (ints L).take i = ints (L.take i) by simp [ints], hd.1] at hb
        have HB := Lib.hid (And.intro hb.1 (hon.trans hb.2))
        have hci : cap ≠ i := by omega
        have hil : i < xs.length := hij
        have HD3 := Lib.hid HD2.out.2
        clear hb hpre hd hw6
        go_wp2_with fail
        go_ret
        rw [HD3.out]
        exact ⟨rfl, HB.out⟩
  · have HQ : Hid (Calls Try.prog 112 #[.slice (some ⟨g, 0, none⟩) xs.length cap, .func (.func 89) #[] #[.pointer (some ⟨p, 0, none⟩)]] w fun e w' => e = .returned (.int .i64 (-1)) ∧ (∀ y ∈ xs, y ∈ wf) ∧ w = w') := Lib.hid (HI.out.mono (by
      rintro e w1 ⟨r, rfl, ⟨rfl, hall⟩ | ⟨k', rfl, hk', h1', h2'⟩, rfl⟩
      · exact ⟨rfl, hall, rfl⟩
      · exact absurd ⟨k', hk', h1', h2'⟩ hfirst))
    clear HI hfirst
    go_enter Try.func88, Try.ntmps88
    go_wp2_with (go_at_call 112; refine HQ.out.mono ?_; rintro e w1 ⟨rfl, hall, rfl⟩)
    have HF : Hid ((xs.filter fun y => decide (y ∈ wf)) = xs) := Lib.hid (List.filter_eq_self.2 fun y hy => by simpa using hall y hy)
    clear hall
    go_ret
    rw [HF.out]
    exact ⟨rfl, HO.out, Only.refl _ _⟩
end Go.Proofs.Ytiamkgkhamnaeaa
