/- The text of a buffer: the model's and the program's. The program's asks for the library's table of powers of ten. Condition: the buffer can be read. -/
import Derived.Test.YtiflooopfpcelacDoorT1
import Derived.Test.YtiflooopfpcelacDoorB2
import Derived.Deep.RegionHeld3
namespace Go.Proofs.YtiflooopfpcelacDoor
set_option maxRecDepth 20000
set_option linter.unusedSimpArgs false
set_option linter.unusedVariables false
open Go.ChangeShapes Go.WideShapes Go.ChangeAt Go.RowKit
set_option linter.unusedVariables false
def slotT (x : P2) : List UInt8 := Lib.itoa x.a ++ [61] ++ Lib.itoa x.b
def bufT (xs : List P2) : List UInt8 := Lib.join (xs.map slotT) [32]
def bufTextF (xs : List P2) : List UInt8 := if bufOk xs then (if xs.length = 0 then [45] else bufT xs) else []
theorem slot_rng {xs : List P2} (h : bufOk xs = true) : ∀ x ∈ xs, (0 ≤ x.a ∧ x.a ≤ 15) ∧ (-1000000 ≤ x.b ∧ x.b ≤ 1000000) := by
  intro x hx
  simp only [bufOk, Bool.and_eq_true, List.all_eq_true] at h
  have := h.2 x hx
  simp only [slotOk, Bool.and_eq_true] at this
  exact ⟨inB_true this.1, inB_true this.2⟩
theorem slotT_len {x : P2} (h : (0 ≤ x.a ∧ x.a ≤ 15) ∧ (-1000000 ≤ x.b ∧ x.b ≤ 1000000)) : (slotT x).length ≤ 41 := by
  have h1 := digs_len (x := x.a) (by omega)
  have h2 := digs_len (x := x.b) (by omega)
  simp only [slotT, List.length_append, List.length_cons, List.length_nil]
  omega
theorem bufT_take {xs : List P2} {k : Nat} {x : P2} (h : xs[k]? = some x) : bufT (xs.take (k + 1)) = if k = 0 then slotT x else bufT (xs.take k) ++ [32] ++ slotT x := by
  unfold bufT
  rw [List.take_add_one, h]
  split
  · rename_i h0
    subst h0
    simp [Lib.join_one]
  · rename_i h0
    have hk : k < xs.length := (List.getElem?_eq_some_iff.1 h).1
    simp only [Option.toList_some, List.map_append, List.map_cons, List.map_nil]
    rw [join_snoc _ _ _ (fun e => by have := congrArg List.length e; rw [List.length_map, List.length_take, List.length_nil] at this; omega)]
theorem bufT_len {xs : List P2} (hr : ∀ x ∈ xs, (0 ≤ x.a ∧ x.a ≤ 15) ∧ (-1000000 ≤ x.b ∧ x.b ≤ 1000000)) : ∀ k : Nat, (bufT (xs.take k)).length ≤ 42 * k
  | 0 => by simp [bufT, Lib.join_nil]
  | k + 1 => by
    have := bufT_len hr k
    cases hx : xs[k]? with
    | none =>
      have hk := List.getElem?_eq_none_iff.1 hx
      rw [List.take_of_length_le (by omega)] at this ⊢
      omega
    | some x =>
      have h1 := slotT_len (hr x (List.mem_of_getElem? hx))
      rw [bufT_take hx]
      split
      · omega
      · simp only [List.length_append, List.length_cons, List.length_nil]
        omega
set_option maxHeartbeats 3200000 in
theorem spec_BufText (v : Value) (xs : List P2) (w : World) (h : Rd w v 2 xs.length (flc2 xs)) :
    Calls Tryd.prog 20 #[v] w fun e w' => e = .returned (str (bufTextF xs)) ∧ Below w.heap.size w w' := by
  obtain ⟨A, c, rfl, -, hnc, hc, hr⟩ := id h
  unfold maxLen at hc
  cases hb : bufOk xs
  · have HF : Hid (bufTextF xs = []) := Lib.hid (by simp [bufTextF, hb])
    go_enter Tryd.func20, Tryd.ntmps20
    go_wp2_with fail
    refine (spec_BufOk _ xs _ h).mono ?_
    rintro e w1 ⟨rfl, rfl⟩
    rw [hb]
    go_wp2_with fail
    go_ret
    exact ⟨ret_str HF.out.symm, Below.refl _ _⟩
  · have hlen := bufOk_len hb
    have HRg := Lib.hid (slot_rng hb)
    by_cases h0 : xs.length = 0
    · have HF : Hid (bufTextF xs = [45]) := Lib.hid (by simp [bufTextF, hb, h0])
      have hl0 : ((xs.length : Int) == 0) = true := by rw [h0]; rfl
      clear hr h0
      go_enter Tryd.func20, Tryd.ntmps20
      go_wp2_with fail
      refine (spec_BufOk _ xs _ h).mono ?_
      rintro e w1 ⟨rfl, rfl⟩
      rw [hb]
      go_wp2_with fail
      go_ret
      exact ⟨ret_str HF.out.symm, Below.refl _ _⟩
    · have HF : Hid (bufTextF xs = bufT xs) := Lib.hid (by simp [bufTextF, hb, h0])
      have hl0 : ((xs.length : Int) == 0) = false := by rw [beq_eq_false_iff_ne]; omega
      clear h0
      go_enter Tryd.func20, Tryd.ntmps20
      go_wp2_with fail
      refine (spec_BufOk _ xs _ h).mono ?_
      rintro e w1 ⟨rfl, rfl⟩
      rw [hb]
      clear hb h
      go_wp2_with fail
      go_loopw [3, 4] (fun t i wr => ∃ (k : Nat) (L : List UInt8), k ≤ xs.length ∧ i = .int .i64 k ∧ t = str L ∧ Hid (L = bufT (xs.take k)) ∧ Below w.heap.size w wr) (fun _ i _ => xs.length - (intOf i).toNat)
      case atStart => exact ⟨0, [], Nat.zero_le _, rfl, rfl, Lib.hid (by simp [bufT, Lib.join_nil]), Below.refl _ _⟩
      case round =>
        obtain ⟨k, L, hk, rfl, rfl, HL, hB⟩ := hrel
        by_cases hlt : k < xs.length
        · obtain ⟨b, o, rfl, hbl, hcell⟩ := hr (by omega)
          obtain ⟨x, hxk, hx0, hx1⟩ := p2_at (fun j u hu => (hB.cell (p := ⟨b, o + j, none⟩) hbl).trans (hcell j u hu)) hlt
          have hRx := HRg.out x (List.mem_of_getElem? hxk.out)
          have HT := Lib.hid (bufT_take hxk.out)
          have hLl : L.length ≤ 168 := by
            have := bufT_len HRg.out k
            rw [HL.out]
            omega
          have ha := digs_len (x := x.a) (by omega)
          have hb2 := digs_len (x := x.b) (by omega)
          have hca := fun W : World => l01Num x.a W (by omega)
          have hcb := fun W : World => l01Num x.b W (by omega)
          have HST : Hid (slotT x = Lib.itoa x.a ++ [61] ++ Lib.itoa x.b) := Lib.hid rfl
          obtain ⟨xa, xb⟩ := x
          simp only at hx0 hx1 ha hb2 hca hcb HST
          obtain ⟨ta, hta⟩ : ∃ ta, Lib.itoa xa = ta := ⟨_, rfl⟩
          obtain ⟨tb, htb⟩ : ∃ tb, Lib.itoa xb = tb := ⟨_, rfl⟩
          rw [hta] at ha hca HST
          rw [htb] at hb2 hcb HST
          have HCA := Lib.hid hca
          have HCB := Lib.hid hcb
          have hbr : b < wr.heap.size := Nat.lt_of_lt_of_le hbl hB.size
          have HS : Hid (∀ W : World, Below wr.heap.size wr W → Below wr.heap.size wr W ∧ W.cell? ⟨b, o + k * 2, none⟩ = some (.int .i64 xa) ∧ W.cell? ⟨b, o + k * 2 + 1, none⟩ = some (.int .i64 xb)) :=
            Lib.hid fun W hW => ⟨hW, (hW.cell (p := ⟨b, o + k * 2, none⟩) hbr).trans hx0, (hW.cell (p := ⟨b, o + k * 2 + 1, none⟩) hbr).trans hx1⟩
          have HB := Lib.hid hB
          clear hcell hr hca hcb hta htb hRx hxk hB
          by_cases hk0 : k = 0
          · have hz : ¬ 0 < k := by omega
            have HE : Hid (L = []) := Lib.hid (by rw [HL.out, hk0]; simp [bufT, Lib.join_nil])
            have H0 := Lib.hid hk0
            clear hk0
            have q1 : ¬ (9223372036854775807 < L.length + ta.length) := by omega
            have q2 : ¬ (9223372036854775807 < L.length + ta.length + 1) := by omega
            have q3 : ¬ (9223372036854775807 < L.length + ta.length + 1 + tb.length) := by omega
            go_wp2_with fail
            go_region_held3 (fun W => Below wr.heap.size wr W ∧ W.cell? ⟨b, o + k * 2, none⟩ = some (.int .i64 xa) ∧ W.cell? ⟨b, o + k * 2 + 1, none⟩ = some (.int .i64 xb)) (first | (exact HS.out _ (Below.refl _ _).drew) | (exact HS.out _ (by assumption)))
              (first
                | (go_at_call_of 50 (Value.int .i64 xa : Value); have hS := ‹Below wr.heap.size wr _ ∧ _›.1; refine (HCA.out _).mono ?_; rintro e w2 ⟨rfl, hb3⟩; have hS2 := hS.trans (hb3.mono hS.size); clear hS)
                | (go_at_call_of 50 (Value.int .i64 xb : Value); have hS := ‹Below wr.heap.size wr _ ∧ _›.1; refine (HCB.out _).mono ?_; rintro e w3 ⟨rfl, hb4⟩; have hS3 := hS.trans (hb4.mono hS.size); clear hS))
            all_goals
              have hS := (‹Below wr.heap.size wr _ ∧ _›).1
              have HN := Lib.hid (HB.out.trans (hS.mono HB.out.size))
              go_wp2_with fail
              refine ⟨⟨k + 1, L ++ ta ++ [61] ++ tb, by omega, by go_num, ?_, Lib.hid (by rw [HT.out, if_pos H0.out, HE.out, HST.out]; simp), HN.out⟩, by simp [intOf]; omega⟩
              simp [str, bytes_app]
          · have hz : 0 < k := by omega
            have q1 : ¬ (9223372036854775807 < L.length + 1 + ta.length) := by omega
            have q2 : ¬ (9223372036854775807 < L.length + 1 + ta.length + 1) := by omega
            have q3 : ¬ (9223372036854775807 < L.length + 1 + ta.length + 1 + tb.length) := by omega
            go_wp2_with fail
            go_region_held3 (fun W => Below wr.heap.size wr W ∧ W.cell? ⟨b, o + k * 2, none⟩ = some (.int .i64 xa) ∧ W.cell? ⟨b, o + k * 2 + 1, none⟩ = some (.int .i64 xb)) (first | (exact HS.out _ (Below.refl _ _).drew) | (exact HS.out _ (by assumption)))
              (first
                | (go_at_call_of 50 (Value.int .i64 xa : Value); have hS := ‹Below wr.heap.size wr _ ∧ _›.1; refine (HCA.out _).mono ?_; rintro e w2 ⟨rfl, hb3⟩; have hS2 := hS.trans (hb3.mono hS.size); clear hS)
                | (go_at_call_of 50 (Value.int .i64 xb : Value); have hS := ‹Below wr.heap.size wr _ ∧ _›.1; refine (HCB.out _).mono ?_; rintro e w3 ⟨rfl, hb4⟩; have hS3 := hS.trans (hb4.mono hS.size); clear hS))
            all_goals
              have hS := (‹Below wr.heap.size wr _ ∧ _›).1
              have HN := Lib.hid (HB.out.trans (hS.mono HB.out.size))
              go_wp2_with fail
              refine ⟨⟨k + 1, L ++ [32] ++ ta ++ [61] ++ tb, by omega, by go_num, ?_, Lib.hid (by rw [HT.out, if_neg hk0, HST.out, HL.out]; simp), HN.out⟩, by simp [intOf]; omega⟩
              simp [str, bytes_app]
        · obtain rfl : k = xs.length := by omega
          have HT : Hid (bufTextF xs = L) := Lib.hid (by rw [HF.out, HL.out, List.take_length])
          clear hr
          go_wp2_with fail
          go_ret
          exact ⟨ret_str HT.out.symm, hB⟩
set_option maxHeartbeats 1600000 in
theorem impl_slotText (x : P2) (w : World) (hx : (0 ≤ x.a ∧ x.a ≤ 15) ∧ (-1000000 ≤ x.b ∧ x.b ≤ 1000000)) (ht : Tab w) :
    Calls Tryd.prog 53 #[.agg #[.int .i64 x.a, .int .i64 x.b]] w fun e w' => e = .returned (str (slotT x)) ∧ Below w.heap.size w w' := by
  obtain ⟨xa, xb⟩ := x
  simp only at hx
  have ha := digs_len (x := xa) (by omega)
  have hb2 := digs_len (x := xb) (by omega)
  have HT := Lib.hid ht
  have hBa := (Below.refl w.heap.size w).alloc (Nat.le_refl _) (.cells #[.int .i64 xa, .int .i64 xb] 81)
  have k1 := Bk.new w #[.int .i64 xa, .int .i64 xb] 81
  obtain ⟨hc0, -⟩ := k1.at_ 0 (x := .int .i64 xa) rfl
  obtain ⟨hc1, -⟩ := k1.at_ 1 (x := .int .i64 xb) rfl
  obtain ⟨W0, hW0⟩ : ∃ W0, w.alloc (.cells #[.int .i64 xa, .int .i64 xb] 81) = W0 := ⟨_, rfl⟩
  rw [hW0] at hBa k1 hc0 hc1
  have hca := fun (W : World) (hW : Below w.heap.size w W) => itoa_call xa W (by omega) (HT.out.below hW (Nat.le_refl _))
  have hcb := fun (W : World) (hW : Below w.heap.size w W) => itoa_call xb W (by omega) (HT.out.below hW (Nat.le_refl _))
  have HST : Hid (slotT ⟨xa, xb⟩ = Lib.itoa xa ++ [61] ++ Lib.itoa xb) := Lib.hid rfl
  obtain ⟨ta, hta⟩ : ∃ ta, Lib.itoa xa = ta := ⟨_, rfl⟩
  obtain ⟨tb, htb⟩ : ∃ tb, Lib.itoa xb = tb := ⟨_, rfl⟩
  rw [hta] at ha hca HST
  rw [htb] at hb2 hcb HST
  have HCA := Lib.hid hca
  have HCB := Lib.hid hcb
  have HBa := Lib.hid hBa
  have HS : Hid (∀ W : World, Below W0.heap.size W0 W → Below W0.heap.size W0 W ∧ W.cell? ⟨w.heap.size, 0, none⟩ = some (.int .i64 xa) ∧ W.cell? ⟨w.heap.size, 1, none⟩ = some (.int .i64 xb)) :=
    Lib.hid fun W hW => ⟨hW, (hW.cell (p := ⟨w.heap.size, 0, none⟩) k1.lt).trans hc0, (hW.cell (p := ⟨w.heap.size, 1, none⟩) k1.lt).trans hc1⟩
  clear hca hcb hta htb hx ht hBa k1
  go_enter Tryd.func53, Tryd.ntmps53
  go_wp2_with fail
  clear hW0
  have q1 : ¬ (9223372036854775807 < ta.length + 1) := by omega
  have q2 : ¬ (9223372036854775807 < ta.length + 1 + tb.length) := by omega
  go_region_held3 (fun W => Below W0.heap.size W0 W ∧ W.cell? ⟨w.heap.size, 0, none⟩ = some (.int .i64 xa) ∧ W.cell? ⟨w.heap.size, 1, none⟩ = some (.int .i64 xb)) (first | (exact HS.out _ (Below.refl _ _).drew) | (exact HS.out _ (by assumption)))
    (first
      | (go_at_call_of 83 (Value.int .i64 xa : Value); have hS := ‹Below W0.heap.size W0 _ ∧ _›.1; refine (HCA.out _ (HBa.out.trans (hS.mono HBa.out.size))).mono ?_; rintro e w2 ⟨rfl, hb3⟩; have hS2 := hS.trans (hb3.mono hS.size); clear hS)
      | (go_at_call_of 83 (Value.int .i64 xb : Value); have hS := ‹Below W0.heap.size W0 _ ∧ _›.1; refine (HCB.out _ (HBa.out.trans (hS.mono HBa.out.size))).mono ?_; rintro e w3 ⟨rfl, hb4⟩; have hS3 := hS.trans (hb4.mono hS.size); clear hS))
  all_goals
    have hS := (‹Below W0.heap.size W0 _ ∧ _›).1
    have HN := Lib.hid (HBa.out.trans (hS.mono HBa.out.size))
    go_wp2_with fail
    go_ret
    refine ⟨?_, HN.out⟩
    rw [HST.out]
    simp [str, bytes_app]
def tqS (ts : List (List UInt8)) (k : Nat) : List Value := (ts.take k).map str ++ List.replicate (ts.length - k) (.string ⟨#[]⟩)
theorem tqS_zero (ts : List (List UInt8)) : List.replicate ts.length (Value.string ⟨#[]⟩) = tqS ts 0 := by simp [tqS]
theorem tqS_at {ts : List (List UInt8)} {k : Nat} (h : k < ts.length) : (tqS ts k)[k]? = some (.string ⟨#[]⟩) := by
  have hl : ((ts.take k).map str).length = k := by simp; omega
  unfold tqS
  rw [List.getElem?_append_right (by omega), hl, Nat.sub_self, List.getElem?_replicate, if_pos (by omega)]
theorem tqS_set {ts : List (List UInt8)} {k : Nat} {t : List UInt8} (h : ts[k]? = some t) : (tqS ts k).set k (str t) = tqS ts (k + 1) := by
  obtain ⟨hk, hx⟩ := List.getElem?_eq_some_iff.1 h
  have hl : ((ts.take k).map str).length = k := by simp; omega
  unfold tqS
  rw [List.set_append, if_neg (by omega), hl, Nat.sub_self, show ts.length - k = (ts.length - (k + 1)) + 1 from by omega, List.replicate_succ, List.set_cons_zero,
    List.take_add_one, h]
  simp
theorem tqS_all (ts : List (List UInt8)) : tqS ts ts.length = ts.map str := by simp [tqS]
theorem joinW_call (g base : Nat) (ts : List (List UInt8)) (w : World) (hO : w.ownsRow base 9 1 (.slice (some ⟨g, 0, none⟩) ts.length ts.length) ts.length (tqS ts ts.length)) (hl : ts.length ≤ 16777216) (hj : (Lib.join ts [32]).length ≤ 140737488355328) :
    Calls Tryd.prog 54 #[.slice (some ⟨g, 0, none⟩) ts.length ts.length, .string ⟨#[32]⟩] w fun e w' => e = .returned (str (Lib.join ts [32])) ∧ Below w.heap.size w w' := by
  have he : Lib.join ((ts.map fun t => (⟨t.toArray⟩ : ByteArray)).map (·.data.toList)) (⟨#[32]⟩ : ByteArray).data.toList = Lib.join ts [32] := by
    simp [List.map_map, Function.comp_def]
  have hj := Tryd.strings_Join g 0 ts.length (ts.map fun t => (⟨t.toArray⟩ : ByteArray)) ⟨#[32]⟩ w (fun j y hy => by
    rw [Nat.zero_add]
    have hjl : j < ts.length := by have := (List.getElem?_eq_some_iff.1 hy).1; simpa using this
    rw [hO.cellAt j (by omega), tqS_all]
    rw [List.getElem?_map] at hy ⊢
    cases hx : ts[j]? with
    | none => rw [hx] at hy; cases hy
    | some x =>
      rw [hx] at hy
      injection hy with hy
      subst hy
      rfl) (hO.lt g rfl).2 (by rw [List.length_map]; omega) (by rw [List.length_map]; omega) (by rw [he]; exact hj)
  rw [he, List.length_map] at hj
  exact hj
set_option maxHeartbeats 1600000 in
theorem impl_BufText (v : Value) (xs : List P2) (w : World) (h : Rd w v 2 xs.length (flc2 xs)) (ht : Tab w) :
    Calls Tryd.prog 22 #[v] w fun e w' => e = .returned (str (bufTextF xs)) ∧ Below w.heap.size w w' := by
  obtain ⟨A, c, rfl, -, hnc, hc, hr⟩ := id h
  unfold maxLen at hc
  have HT := Lib.hid ht
  clear ht
  cases hb : bufOk xs
  · have HF : Hid (bufTextF xs = []) := Lib.hid (by simp [bufTextF, hb])
    go_enter Tryd.func22, Tryd.ntmps22
    go_wp2_with fail
    refine (impl_BufOk _ xs _ h).mono ?_
    rintro e w1 ⟨rfl, hb1⟩
    rw [hb]
    go_wp2_with fail
    go_ret
    exact ⟨ret_str HF.out.symm, hb1⟩
  · have hlen := bufOk_len hb
    have HRg := Lib.hid (slot_rng hb)
    by_cases h0 : xs.length = 0
    · have HF : Hid (bufTextF xs = [45]) := Lib.hid (by simp [bufTextF, hb, h0])
      have hl0 : ((xs.length : Int) == 0) = true := by rw [h0]; rfl
      clear hr h0
      go_enter Tryd.func22, Tryd.ntmps22
      go_wp2_with fail
      refine (impl_BufOk _ xs _ h).mono ?_
      rintro e w1 ⟨rfl, hb1⟩
      rw [hb]
      go_wp2_with fail
      go_ret
      exact ⟨ret_str HF.out.symm, hb1⟩
    · have HF : Hid (bufTextF xs = bufT xs) := Lib.hid (by simp [bufTextF, hb, h0])
      have hl0 : ((xs.length : Int) == 0) = false := by rw [beq_eq_false_iff_ne]; omega
      obtain ⟨i, hi, hz0, hz1, hz2⟩ := info_parts infoStr
      obtain ⟨ts, hts⟩ : ∃ ts, xs.map slotT = ts := ⟨_, rfl⟩
      have htl : ts.length = xs.length := by rw [← hts]; simp
      have HTS := Lib.hid hts
      have HTL := Lib.hid htl
      clear h0 hts
      go_enter Tryd.func22, Tryd.ntmps22
      go_wp2_with fail
      refine (impl_BufOk _ xs _ h).mono ?_
      rintro e w1 ⟨rfl, hb1⟩
      rw [hb]
      clear hb h
      go_wp2_with (at_make; refine wpList_make_full _ rfl _ _ 73 rfl w1.heap.size 9 i (.string ⟨#[]⟩) 1 Tryd.underlying73 hi hz0 hz1 _ _ _ _ xs.length rfl rfl rfl rfl (by rw [hz2]; omega) (by unfold maxLen; omega) (Nat.le_refl _) ?_)
      intro w2 hown hg2
      have hO0 : w2.ownsRow w1.heap.size 9 1 (.slice (some ⟨w1.heap.size, 0, none⟩) xs.length xs.length) xs.length (tqS ts 0) := by
        rw [← tqS_zero, HTL.out]
        simpa [toList_madeCells_one, Value.cells] using hown
      have hB2 : Below w.heap.size w w2 := hb1.grown hg2 hb1.size (by simp)
      have hw1 := hb1.size
      clear hown hg2 htl hb1
      go_wp2_with fail
      go_loopw [17] (fun i wr => ∃ k : Nat, k ≤ xs.length ∧ i = .int .i64 k ∧ wr.ownsRow w1.heap.size 9 1 (.slice (some ⟨w1.heap.size, 0, none⟩) xs.length xs.length) xs.length (tqS ts k) ∧ Below w.heap.size w wr) (fun i _ => xs.length - (intOf i).toNat)
      case atStart => exact ⟨0, Nat.zero_le _, rfl, hO0, hB2⟩
      case round =>
        obtain ⟨k, hk, rfl, hO, hB⟩ := hrel
        clear hO0 hB2
        by_cases hlt : k < xs.length
        · obtain ⟨b, o, rfl, hbl, hcell⟩ := hr (by omega)
          obtain ⟨x, hxk, hx0, hx1⟩ := p2_at (fun j u hu => (hB.cell (p := ⟨b, o + j, none⟩) hbl).trans (hcell j u hu)) hlt
          have hRx := HRg.out x (List.mem_of_getElem? hxk.out)
          have htk : ts[k]? = some (slotT x) := by rw [← HTS.out, List.getElem?_map, hxk.out]; rfl
          have hC := fun (W : World) (hE : Tab W) => impl_slotText x W hRx hE
          have hBa := hB.alloc hB.size (.cells #[.int .i64 x.a, .int .i64 x.b] 81)
          have hOa := hO.alloc (.cells #[.int .i64 x.a, .int .i64 x.b] 81)
          have HTa := Lib.hid (HT.out.below hBa (Nat.le_refl _))
          have HC := Lib.hid hC
          have HTK := Lib.hid htk
          clear hcell hr hC hRx htk
          go_wp2_with fail
          refine (HC.out _ HTa.out).mono ?_
          rintro e w3 ⟨rfl, hb3⟩
          have hO1 := ownsRow_below hOa hb3
          have hB1 := hBa.trans (hb3.mono hBa.size)
          have hck : w3.cell? ⟨w1.heap.size, k, none⟩ = some (.string ⟨#[]⟩) := (hO1.cellAt k (by omega)).trans (tqS_at (by rw [HTL.out]; exact hlt))
          have hfz := hO1.frozenAt k
          have hO2 := (hO1.stored k (str (slotT x))).1
          rw [tqS_set HTK.out] at hO2
          have hB3 := hB1.setCell (p := ⟨w1.heap.size, k, none⟩) hw1 (str (slotT x))
          have HE := Lib.hid (And.intro hO2 hB3)
          clear hx0 hx1 hOa hO1 hb3 hO hO2 hB3 hB1 hBa hB
          go_wp2_with fail
          exact ⟨⟨k + 1, by omega, by go_num, HE.out.1, HE.out.2⟩, by simp [intOf]; omega⟩
        · obtain rfl : k = xs.length := by omega
          have hJ := joinW_call w1.heap.size w1.heap.size ts wr (by rw [HTL.out]; exact hO) (by rw [HTL.out]; omega) (by
            have := bufT_len HRg.out xs.length
            rw [List.take_length] at this
            unfold bufT at this
            rw [HTS.out] at this
            omega)
          rw [HTL.out] at hJ
          have HJ := Lib.hid hJ
          have HL : Hid (bufTextF xs = Lib.join ts [32]) := Lib.hid (by rw [HF.out, bufT, HTS.out])
          clear hJ hr
          go_wp2_with fail
          refine HJ.out.mono ?_
          rintro e w4 ⟨rfl, hb4⟩
          go_wp2_with fail
          go_ret
          exact ⟨ret_str HL.out.symm, hB.trans (hb4.mono hB.size)⟩
end Go.Proofs.YtiflooopfpcelacDoor
