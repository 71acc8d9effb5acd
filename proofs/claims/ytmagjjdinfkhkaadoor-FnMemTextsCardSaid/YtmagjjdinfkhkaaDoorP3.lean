/- ParseMem, the program's way: strings.SplitN, strconv.Atoi and Itoa. -/
import Derived.Test.YtmagjjdinfkhkaaDoorP4
namespace Go.Proofs.YtmagjjdinfkhkaaDoor
set_option maxRecDepth 20000
set_option linter.unusedSimpArgs false
set_option linter.unusedVariables false
open Go.ChangeShapes Go.WideShapes Go.ChangeAt Go.RowKit
set_option linter.unusedVariables false
def pieces (s : List UInt8) : List ByteArray := Lib.splitB ⟨#[32]⟩ 0 (min 17 ((⟨s.toArray⟩ : ByteArray).size + 1) - 1) ⟨s.toArray⟩
def listP (ws : List ByteArray) : Option (List Int) := ws.mapM fun p => parseF p.data.toList
def implParseF (s : List UInt8) : Option (List Int) := memF (listP (pieces s))
def MaxSet (w : World) : Prop := ∃ m, w.cell? ⟨0, 0, none⟩ = some (.int .i64 m)
theorem MaxSet.alloc {w : World} (h : MaxSet w) (o : Obj) : MaxSet (w.alloc o) := by
  obtain ⟨m, h⟩ := h
  have := ((Below.refl w.heap.size w).alloc (Nat.le_refl _) o).cell (p := ⟨0, 0, none⟩) (by have := World.block_lt_of_cell? _ _ h; exact this)
  exact ⟨m, this.trans h⟩
theorem pieces_len (s : List UInt8) : 1 ≤ (pieces s).length ∧ (pieces s).length ≤ min 17 ((⟨s.toArray⟩ : ByteArray).size + 1) := by
  have h := Lib.splitB_length_le ⟨#[32]⟩ 0 (min 17 ((⟨s.toArray⟩ : ByteArray).size + 1) - 1) ⟨s.toArray⟩
  refine ⟨?_, by unfold pieces; omega⟩
  unfold pieces
  cases min 17 ((⟨s.toArray⟩ : ByteArray).size + 1) - 1 with
  | zero => simp [Lib.splitB]
  | succ k =>
    unfold Lib.splitB
    split <;> simp
theorem pieces_part (s : List UInt8) (p : ByteArray) (h : p ∈ pieces s) : p.data.toList.length ≤ s.length := by
  have h1 := Lib.splitB_data ⟨#[32]⟩ 0 (min 17 ((⟨s.toArray⟩ : ByteArray).size + 1) - 1) ⟨s.toArray⟩
  refine splitK_part 32 (min 17 ((⟨s.toArray⟩ : ByteArray).size + 1) - 1) s _ ?_
  have h2 : p.data.toList ∈ (pieces s).map (·.data.toList) := List.mem_map_of_mem h
  unfold pieces at h2
  rw [h1] at h2
  simpa using h2
theorem impl_same (s : List UInt8) : implParseF s = specParseF s := by
  have h1 := Lib.splitB_data ⟨#[32]⟩ 0 (min 17 ((⟨s.toArray⟩ : ByteArray).size + 1) - 1) ⟨s.toArray⟩
  have h2 := parse_same s (min 17 ((⟨s.toArray⟩ : ByteArray).size + 1) - 1) (by show min 17 (s.toArray.size + 1) - 1 = _; simp)
  have h3 : listP (pieces s) = listQ ((pieces s).map (·.data.toList)) := by
    unfold listP listQ
    rw [List.mapM_map]
    rfl
  unfold implParseF
  rw [h3, ← h2]
  unfold pieces
  rw [h1]
theorem split_call (s : List UInt8) (w : World) (hs : s.length ≤ 1048576) (hm : MaxSet w) :
    Calls Tryd.prog 30 #[str s, .string ⟨#[32]⟩, .int .i64 17] w fun e w' => ∃ N, e = .returned (.slice (some ⟨w.heap.size, 0, none⟩) (pieces s).length N) ∧ (pieces s).length ≤ N ∧ N ≤ 17 ∧ w.heap.size < w'.heap.size ∧ Below w.heap.size w w' ∧
      ∀ j p, (pieces s)[j]? = some p → w'.cell? ⟨w.heap.size, j, none⟩ = some (.string p) := by
  obtain ⟨m0, hm0⟩ := hm
  refine (Tryd.strings_SplitN ⟨s.toArray⟩ ⟨#[32]⟩ 17 m0 w (by show s.toArray.size < _; simp; omega) hm0 (by decide) (by decide) (by decide)).mono ?_
  rintro e w' ⟨rfl, rfl⟩
  refine ⟨_, rfl, (pieces_len s).2, by omega, by simp, (Below.refl _ _).alloc (Nat.le_refl _) _, fun j p hp => ?_⟩
  rw [World.cell?_alloc_new]
  unfold pieces at hp
  have hj := (List.getElem?_eq_some_iff.1 hp).1
  unfold Lib.cellsOf
  simp only [List.getElem?_toArray]
  rw [List.getElem?_append_left (by simpa using hj), List.getElem?_map, hp]
  rfl
theorem str_of (p : ByteArray) : str p.data.toList = .string p := rfl
def apart (xs : List Int) (n : Nat) : List Value := ints xs ++ List.replicate (n - xs.length) (.int .i64 0)
theorem apart_at {xs : List Int} {n k : Nat} (h : xs.length = k) (hk : k < n) : (apart xs n)[k]? = some (.int .i64 0) := by
  have hl : (ints xs).length = k := by simp [ints, h]
  unfold apart
  rw [List.getElem?_append_right (by omega), hl, Nat.sub_self, List.getElem?_replicate, if_pos (by omega)]
theorem apart_set {xs : List Int} {n k : Nat} (h : xs.length = k) (hk : k < n) (x : Int) : (apart xs n).set k (.int .i64 x) = apart (xs ++ [x]) n := by
  have hl : (ints xs).length = k := by simp [ints, h]
  unfold apart
  rw [List.set_append, if_neg (by omega), hl, Nat.sub_self, show n - xs.length = (n - (xs ++ [x]).length) + 1 from by simp; omega, List.replicate_succ, List.set_cons_zero]
  simp [ints]
theorem listP_take_succ {ws : List ByteArray} {k : Nat} {xs : List Int} {p : ByteArray} {x : Int} (h : listP (ws.take k) = some xs) (hp : ws[k]? = some p) (hx : parseF p.data.toList = some x) : listP (ws.take (k + 1)) = some (xs ++ [x]) := by
  unfold listP at *
  rw [List.take_add_one, hp, List.mapM_append, h]
  simp [hx]
theorem listP_none {ws : List ByteArray} {k : Nat} {p : ByteArray} (hp : ws[k]? = some p) (hx : parseF p.data.toList = none) : listP ws = none := by
  obtain ⟨hk, he⟩ := List.getElem?_eq_some_iff.1 hp
  unfold listP
  rw [← List.take_append_drop k ws, List.drop_eq_getElem_cons hk, he, List.mapM_append]
  cases (ws.take k).mapM fun p => parseF p.data.toList with
  | none => rfl
  | some xs => simp [hx]
theorem Errs.below {B : Nat} {w w' : World} (h : Errs w) (hb : Below B w w') (hB : w.heap.size ≤ B) : Errs w' := by
  have key : ∀ (n : String) (cs : Array Value), w.var? Tryd.prog n = some cs → w'.var? Tryd.prog n = some cs := by
    intro n cs h
    unfold World.var? at *
    cases hg : Tryd.prog.globalNamed n with
    | none => simp [hg] at h
    | some g =>
      simp only [hg, Option.bind_some] at h ⊢
      have hlt : g < w.heap.size := by
        rcases Nat.lt_or_ge g w.heap.size with h' | h'
        · exact h'
        · rw [Array.getElem?_eq_none h'] at h; simp at h
      rw [hb.block g (by omega)]
      exact h
  obtain ⟨⟨t1, p1, h1⟩, ⟨t2, p2, h2⟩⟩ := h
  exact ⟨⟨t1, p1, key _ _ h1⟩, ⟨t2, p2, key _ _ h2⟩⟩
set_option maxRecDepth 20000 in
set_option maxHeartbeats 2000000 in
theorem impl_ParseMem (s : List UInt8) (w : World) (hs : s.length ≤ 1048576) (ht : Tab w) (he : Errs w) (hm : MaxSet w) :
    Calls Tryd.prog 14 #[str s] w (RetMemB ((implParseF s).getD []) (implParseF s).isSome w) := by
  obtain ⟨i, hi, hz0, hz1, hz2⟩ := info_parts infoInt
  have hL := (pieces_len s).1
  have hPP := pieces_part s
  have hm1 := hm.alloc (.cells #[.slice none 0 0] 27)
  have hB0 := (Below.refl w.heap.size w).alloc (Nat.le_refl _) (.cells #[.slice none 0 0] 27)
  have HT := Lib.hid ht
  have HE := Lib.hid he
  clear ht he hm
  go_enter Tryd.func14, Tryd.ntmps14
  go_wp2_with fail
  refine (split_call s _ hs hm1).mono ?_
  rintro e w1 ⟨N, rfl, hN, hN2, hsz1, hb1, hcell⟩
  have HI : Hid (implParseF s = memF (listP (pieces s))) := Lib.hid rfl
  generalize pieces s = ws at *
  have k0 := (Bk.new w #[.slice none 0 0] 27).below hb1 (by simp)
  have hB1 := hB0.trans (hb1.mono hB0.size)
  simp only [World.size_alloc] at hsz1 hcell
  clear hm1 hB0
  go_wp2_with (at_make; refine wpList_make_full _ rfl _ _ 22 rfl w1.heap.size 3 i (.int .i64 0) 1 Tryd.underlying22 hi hz0 hz1 _ _ _ _ ws.length rfl rfl rfl rfl (by rw [hz2]; omega) (by unfold maxLen; omega) (Nat.le_refl _) ?_)
  intro w2 hown hg2
  rw [toList_madeCells_one] at hown
  have hb2 : Below w1.heap.size w1 w2 := (Below.refl _ _).grown hg2 (Nat.le_refl _) (by simp)
  obtain ⟨bs, ho, hbs⟩ := Own.of_owns hown
  clear hown hbs hg2
  obtain ⟨hat, hgl⟩ := own_at ho (by omega)
  clear ho
  have k0' := (k0.below hb2 k0.lt).alloc (.cells #[.slice (some ⟨w1.heap.size, 0, none⟩) ws.length ws.length] 27)
  have k1 := Bk.new w2 #[.slice (some ⟨w1.heap.size, 0, none⟩) ws.length ws.length] 27
  have hb3 := (Below.refl w2.heap.size w2).alloc (Nat.le_refl _) (.cells #[.slice (some ⟨w1.heap.size, 0, none⟩) ws.length ws.length] 27)
  have hat3 := hat.of_block (hb3.block _ hgl)
  have hB3 := (hB1.trans (hb2.mono hB1.size)).trans (hb3.mono (Nat.le_trans hB1.size hb2.size))
  have hs2 := hb2.size
  have hcell3 : ∀ j p, ws[j]? = some p → (w2.alloc (.cells #[.slice (some ⟨w1.heap.size, 0, none⟩) ws.length ws.length] 27)).cell? ⟨w.heap.size + 1, j, none⟩ = some (.string p) := fun j p hp =>
    (hb3.cell (p := ⟨w.heap.size + 1, j, none⟩) (by show w.heap.size + 1 < _; omega)).trans ((hb2.cell (p := ⟨w.heap.size + 1, j, none⟩) hsz1).trans (hcell j p hp))
  have hs3 : (w2.alloc (.cells #[.slice (some ⟨w1.heap.size, 0, none⟩) ws.length ws.length] 27)).heap.size = w2.heap.size + 1 := by simp
  clear k0 hat hcell hb3 hB1
  go_wp2_with fail
  generalize hw3 : w2.alloc (.cells #[.slice (some ⟨w1.heap.size, 0, none⟩) ws.length ws.length] 27) = w3 at *
  clear hw3
  go_loopw [18] (fun i wr => ∃ (k : Nat) (xs : List Int), i = .int .i64 k ∧ k ≤ ws.length ∧ Hid (xs.length = k ∧ listP (ws.take k) = some xs) ∧ At wr w1.heap.size 0 (apart xs ws.length) ∧ Bk wr w.heap.size #[.slice none 0 0] 27 ∧ Bk wr w2.heap.size #[.slice (some ⟨w1.heap.size, 0, none⟩) ws.length ws.length] 27 ∧ Only [w1.heap.size] w3 wr) (fun i _ => ws.length - (intOf i).toNat)
  case atStart => exact ⟨0, [], rfl, Nat.zero_le _, Lib.hid ⟨rfl, rfl⟩, by simpa [apart, ints] using hat3, k0', k1, Only.refl _ _⟩
  case round =>
    obtain ⟨k, xs, rfl, hk, HL, hA, k0'', k1', hOn⟩ := hrel
    clear k0' k1 hat3
    have hBr := hB3.trans (hOn.below (B := w.heap.size) (by omega) (by simp; omega))
    by_cases hlt : k < ws.length
    · obtain ⟨p, hp⟩ : ∃ p, ws[k]? = some p := ⟨ws[k], List.getElem?_eq_getElem hlt⟩
      have hx := (World.cell?_of_block (a := ⟨w.heap.size + 1, k, none⟩) (hOn.block (w.heap.size + 1) (by omega) (by simp; omega))).trans (hcell3 k p hp)
      have hpl := Nat.le_trans (hPP p (List.mem_of_getElem? hp)) (Nat.le_trans hs (by decide : 1048576 ≤ 1099511627776))
      have HW := Lib.hid hp
      have HA := Lib.hid hA
      clear hp hcell3 hA
      go_wp2_with fail
      have hpn := impl_parseNumber p.data.toList wr hpl (HT.out.below hBr (Nat.le_refl _)) (HE.out.below hBr (Nat.le_refl _))
      rw [str_of] at hpn
      refine hpn.mono ?_
      rintro e w4 ⟨rfl, hb4⟩
      clear hpn hx
      have kk0 := k0''.below hb4 k0''.lt
      have kk1 := k1'.below hb4 k1'.lt
      have hgr : w1.heap.size < wr.heap.size := by have := hOn.size; omega
      have hA4 := HA.out.of_block (hb4.block _ hgr)
      have hB4 := hBr.trans (hb4.mono hBr.size)
      have hOn4 := hOn.trans (Only.of_below hb4 _)
      clear k0'' k1'
      cases hr : parseF p.data.toList with
      | none =>
        obtain ⟨hc0, hf0⟩ := kk0.at_ 0 (x := .slice none 0 0) rfl
        have hl0 := kk0.lt
        have HF := Lib.hid (listP_none HW.out hr)
        clear hr hA4
        go_wp2_with fail
        rw [HI.out, HF.out]
        show bodyPost _ _ (RetMemB [] false w) _ _ _
        exact bodyPost_ret (v := .tuple #[.agg #[.slice none 0 0], .bool false]) (by simp [results, Tryd.results14, go_sem, hc0]) rfl ⟨_, [], rfl, Own.nil _ _, by simp, hB4.setCell (Nat.le_refl _) _⟩
      | some x =>
        have HF := Lib.hid (listP_take_succ HL.out.2 HW.out hr)
        have HX := Lib.hid HL.out.1
        obtain ⟨hcA, hfA⟩ := hA4 k _ (apart_at HL.out.1 hlt)
        rw [Nat.zero_add] at hcA hfA
        obtain ⟨hc1, hf1⟩ := kk1.at_ 0 (x := .slice (some ⟨w1.heap.size, 0, none⟩) ws.length ws.length) rfl
        have hl1 := kk1.lt
        clear hr
        have HA4 := Lib.hid hA4
        clear hA4
        go_wp2_with fail
        refine ⟨⟨k + 1, xs ++ [x], by go_num, by omega, Lib.hid ⟨by simp [HX.out], HF.out⟩, ?_, kk0.far (by show w.heap.size ≠ w1.heap.size; omega) _, kk1.far (by show w2.heap.size ≠ w1.heap.size; omega) _, ?_⟩, by simp [intOf]; omega⟩
        · rw [← apart_set HX.out hlt]
          exact HA4.out.set0 k (.int .i64 x)
        · exact hOn4.trans (Only.setCell _ _)
    · obtain rfl : k = ws.length := by omega
      have HL2 : Hid (listP ws = some xs) := Lib.hid (by have := HL.out.2; rwa [List.take_length] at this)
      have hxl := HL.out.1
      have hgr : w1.heap.size < wr.heap.size := by have := hOn.size; omega
      have hA' : At wr w1.heap.size 0 (ints xs) := by
        have := hA
        unfold apart at this
        rw [hxl, Nat.sub_self] at this
        simpa using this
      have hown : Own wr (.slice (some ⟨w1.heap.size, 0, none⟩) ws.length ws.length) 1 ws.length (ints xs) [w1.heap.size] :=
        ⟨_, _, rfl, by simp [ints, hxl], Nat.le_refl _, by unfold maxLen; omega, .inr ⟨by omega, _, _, rfl, rfl, hgr, hA'⟩⟩
      have hrd : Rd wr (.slice (some ⟨w1.heap.size, 0, none⟩) ws.length ws.length) 1 xs.length (ints xs) := by rw [hxl]; exact hown.rd
      have HX := Lib.hid hxl
      clear hxl hA hA' hcell3
      obtain ⟨hc1, hf1⟩ := k1'.at_ 0 (x := .slice (some ⟨w1.heap.size, 0, none⟩) ws.length ws.length) rfl
      have hl1 := k1'.lt
      go_wp2_with fail
      refine (impl_MemOk _ xs _ hrd).mono ?_
      rintro e w4 ⟨rfl, hb4⟩
      have kk0 := k0''.below hb4 k0''.lt
      have kk1 := k1'.below hb4 k1'.lt
      clear hc1 hf1 hl1 k0'' k1'
      have ho' := hown.below hb4
      have hB4 := hBr.trans (hb4.mono hBr.size)
      obtain ⟨hc0, hf0⟩ := kk0.at_ 0 (x := .slice none 0 0) rfl
      have hl0 := kk0.lt
      obtain ⟨hc1, hf1⟩ := kk1.at_ 0 (x := .slice (some ⟨w1.heap.size, 0, none⟩) ws.length ws.length) rfl
      have hl1 := kk1.lt
      clear hown hrd
      cases hm : memOk xs
      · have HF : Hid (memF (listP ws) = none) := Lib.hid (by rw [HL2.out]; simp [memF, hm])
        go_wp2_with fail
        rw [HI.out, HF.out]
        show bodyPost _ _ (RetMemB [] false w) _ _ _
        exact bodyPost_ret (v := .tuple #[.agg #[.slice none 0 0], .bool false]) (by simp [results, Tryd.results14, go_sem, hc0]) rfl ⟨_, [], rfl, Own.nil _ _, by simp, hB4.setCell (Nat.le_refl _) _⟩
      · have HF : Hid (memF (listP ws) = some xs) := Lib.hid (by rw [HL2.out]; simp [memF, hm])
        go_wp2_with fail
        rw [HI.out, HF.out]
        show bodyPost _ _ (RetMemB xs true w) _ _ _
        exact bodyPost_ret (v := .tuple #[.agg #[.slice (some ⟨w1.heap.size, 0, none⟩) ws.length ws.length], .bool true]) (by simp [results, Tryd.results14, go_sem, hc0]) rfl ⟨_, [w1.heap.size], rfl, by rw [HX.out]; exact ho'.only (Only.setCell _ _) (fun b hb hm => by simp at hb hm; omega), fun b hb => by simp at hb; omega, hB4.setCell (Nat.le_refl _) _⟩
end Go.Proofs.YtmagjjdinfkhkaaDoor
