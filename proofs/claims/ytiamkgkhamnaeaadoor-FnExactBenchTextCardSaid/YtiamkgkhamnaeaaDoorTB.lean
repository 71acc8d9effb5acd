/- The text of a bench: texts of lists under a name, of a hold; the program's namedText at its two instances. The program's asks for the library's table of powers of ten. Conditions: the rows can be read; their numbers have 64 bits; lengths that a law bounds. -/
import Derived.Test.YtiamkgkhamnaeaaDoorNum
import Derived.Test.YtiamkgkhamnaeaaDoorN6
import Derived.Test.YtiamkgkhamnaeaaDoorN1
import Derived.Test.YtiamkgkhamnaeaaDoorHeads
import Derived.Test.YtiamkgkhamnaeaaDoorN2
import Derived.Test.YtiamkgkhamnaeaaDoorShelf
import Derived.Deep.RegionHeld3
namespace Go.Proofs.YtiamkgkhamnaeaaDoor
set_option maxRecDepth 20000
set_option linter.unusedSimpArgs false
set_option linter.unusedVariables false
open Go.ChangeShapes Go.WideShapes Go.ChangeAt Go.RowKit
set_option linter.unusedVariables false
abbrev Tab (w : World) : Prop := Lib.TabIs Tryd.prog w "internal/strconv.uint64pow10" .u64 Lib.pow10Tab
theorem Tab.below {B : Nat} {w w' : World} (h : Tab w) (hb : Below B w w') (hB : w.heap.size ≤ B) : Tab w' := by
  unfold Tab Lib.TabIs World.var? at *
  cases hg : Tryd.prog.globalNamed "internal/strconv.uint64pow10" with
  | none => simp [hg] at h
  | some g =>
    simp only [hg, Option.bind_some] at h ⊢
    have hlt : g < w.heap.size := by
      rcases Nat.lt_or_ge g w.heap.size with h' | h'
      · exact h'
      · rw [Array.getElem?_eq_none h'] at h; simp at h
    rw [hb.block g (by omega)]
    exact h
theorem below_grow (w : World) (q : Nat) (os : Array Obj) : Below w.heap.size w (Go.Sort.grow (w.drewN q) os) :=
  ⟨rfl, rfl, rfl, by simp [Go.Sort.grow], fun i hi => by
    show ((w.drewN q).heap ++ os)[i]? = _
    rw [Array.getElem?_append_left (by show i < w.heap.size; omega)]
    rfl⟩
theorem itoa_call (x : Int) (w : World) (hx : -9223372036854775808 ≤ x ∧ x ≤ 9223372036854775807) (ht : Tab w) :
    Calls Tryd.prog 17 #[.int .i64 x] w fun e w' => e = .returned (str (Lib.itoa x)) ∧ Below w.heap.size w w' := by
  refine (Tryd.strconv_Itoa x hx.1 hx.2 w ht).mono ?_
  rintro e w' ⟨rfl, k, os, rfl⟩
  exact ⟨rfl, below_grow _ _ _⟩
theorem infoStr : (Tryd.prog.info? 9).map (fun i => (i.zero, i.size, i.bytes)) = some (some (.string ⟨#[]⟩), 1, 16) := by kernel_rfl
/-- a list under a name -/
def nmT (name : List UInt8) (ws : List (List UInt8)) : List UInt8 := name ++ Lib.joinTail [32] ws
def holdT (e : P2) : List UInt8 := Lib.itoa e.a ++ [58] ++ Lib.itoa e.b
def sLinked : List UInt8 := [108, 105, 110, 107, 101, 100]
def sHeld : List UInt8 := [104, 101, 108, 100]
def sWaiting : List UInt8 := [119, 97, 105, 116, 105, 110, 103]
def sFreed : List UInt8 := [102, 114, 101, 101, 100]
def benchT (B : Bn) : List UInt8 := nmT sLinked (B.l.map Lib.itoa) ++ [32] ++ nmT sHeld (B.h.map holdT) ++ [32] ++ nmT sWaiting (B.w.map Lib.itoa) ++ [32] ++ nmT sFreed (B.f.map Lib.itoa)
def benchTextF (B : Bn) : List UInt8 := if bnOk B then benchT B else []
theorem nmT_join (name : List UInt8) (ws : List (List UInt8)) : Lib.join (name :: ws) [32] = nmT name ws := Lib.join_cons _ _ _
theorem nmT_nil (name : List UInt8) : nmT name [] = name := by simp [nmT, Lib.joinTail]
theorem nmT_snoc (name : List UInt8) (ws : List (List UInt8)) (x : List UInt8) : nmT name (ws ++ [x]) = nmT name ws ++ [32] ++ x := by
  unfold nmT
  rw [joinTail_snoc]
  simp
theorem nmT_len {ws : List (List UInt8)} {name : List UInt8} {m : Nat} (h : ∀ x ∈ ws, x.length ≤ m) : (nmT name ws).length ≤ name.length + (m + 1) * ws.length := by
  unfold nmT Lib.joinTail
  rw [List.length_append]
  induction ws with
  | nil => simp
  | cons x ws ih =>
    have h1 := ih (fun y hy => h y (by simp [hy]))
    have h2 := h x (by simp)
    simp only [List.map_cons, List.flatten_cons, List.length_append, List.length_cons, List.length_nil] at *
    have : (m + 1) * (ws.length + 1) = (m + 1) * ws.length + (m + 1) := by rw [Nat.mul_add, Nat.mul_one]
    omega
theorem holdT_len {e : P2} (h : (-9223372036854775808 ≤ e.a ∧ e.a ≤ 9223372036854775807) ∧ (-9223372036854775808 ≤ e.b ∧ e.b ≤ 9223372036854775807)) : (holdT e).length ≤ 41 := by
  have h1 := digs_len (x := e.a) h.1
  have h2 := digs_len (x := e.b) h.2
  simp only [holdT, List.length_append, List.length_cons, List.length_nil]
  omega
theorem owns_pos {w : World} {lo : Nat} {e : TypeId} {size n : Nat} {v : Value} {L : List Value} (h : w.ownsRow lo e size v n L) (hn : 0 < n) : ∃ g c, v = .slice (some ⟨g, 0, none⟩) n c ∧ n ≤ c := by
  obtain ⟨hl, ⟨rfl, rfl⟩ | ⟨g, cap, cur, rfl, hb, hg, hn', -⟩⟩ := h
  · omega
  · exact ⟨g, cap, rfl, hn'⟩
theorem joinN_call (g c base : Nat) (ts : List (List UInt8)) (w : World) (hO : w.ownsRow base 9 1 (.slice (some ⟨g, 0, none⟩) ts.length c) ts.length (ts.map str)) (hl : ts.length ≤ 16777216) (hc : ts.length ≤ c) (hj : (Lib.join ts [32]).length ≤ 140737488355328) :
    Calls Tryd.prog 20 #[.slice (some ⟨g, 0, none⟩) ts.length c, .string ⟨#[32]⟩] w fun e w' => e = .returned (str (Lib.join ts [32])) ∧ Below w.heap.size w w' := by
  have he : Lib.join ((ts.map fun t => (⟨t.toArray⟩ : ByteArray)).map (·.data.toList)) (⟨#[32]⟩ : ByteArray).data.toList = Lib.join ts [32] := by
    simp [List.map_map, Function.comp_def]
  have hj := Tryd.strings_Join g 0 c (ts.map fun t => (⟨t.toArray⟩ : ByteArray)) ⟨#[32]⟩ w (fun j y hy => by
    rw [Nat.zero_add]
    have hjl : j < ts.length := by have := (List.getElem?_eq_some_iff.1 hy).1; simpa using this
    rw [hO.cellAt j (by omega)]
    rw [List.getElem?_map] at hy ⊢
    cases hx : ts[j]? with
    | none => rw [hx] at hy; cases hy
    | some x =>
      rw [hx] at hy
      injection hy with hy
      subst hy
      rfl) (hO.lt g rfl).2 (by rw [List.length_map]; omega) (by rw [List.length_map]; omega) (by rw [he]; exact hj)
  rw [he, List.length_map] at hj
  exact hj
set_option maxHeartbeats 1600000 in
theorem impl_holdText (x : P2) (w : World) (hx : (-9223372036854775808 ≤ x.a ∧ x.a ≤ 9223372036854775807) ∧ (-9223372036854775808 ≤ x.b ∧ x.b ≤ 9223372036854775807)) (ht : Tab w) :
    Calls Tryd.prog 19 #[.agg #[.int .i64 x.a, .int .i64 x.b]] w fun e w' => e = .returned (str (holdT x)) ∧ Below w.heap.size w w' := by
  obtain ⟨xa, xb⟩ := x
  simp only at hx
  have ha := digs_len (x := xa) (by omega)
  have hb2 := digs_len (x := xb) (by omega)
  have HT := Lib.hid ht
  have hBa := (Below.refl w.heap.size w).alloc (Nat.le_refl _) (.cells #[.int .i64 xa, .int .i64 xb] 39)
  have k1 := Bk.new w #[.int .i64 xa, .int .i64 xb] 39
  obtain ⟨hc0, -⟩ := k1.at_ 0 (x := .int .i64 xa) rfl
  obtain ⟨hc1, -⟩ := k1.at_ 1 (x := .int .i64 xb) rfl
  obtain ⟨W0, hW0⟩ : ∃ W0, w.alloc (.cells #[.int .i64 xa, .int .i64 xb] 39) = W0 := ⟨_, rfl⟩
  rw [hW0] at hBa k1 hc0 hc1
  have hca := fun (W : World) (hW : Below w.heap.size w W) => itoa_call xa W (by omega) (HT.out.below hW (Nat.le_refl _))
  have hcb := fun (W : World) (hW : Below w.heap.size w W) => itoa_call xb W (by omega) (HT.out.below hW (Nat.le_refl _))
  have HST : Hid (holdT ⟨xa, xb⟩ = Lib.itoa xa ++ [58] ++ Lib.itoa xb) := Lib.hid rfl
  obtain ⟨ta, hta⟩ : ∃ ta, Lib.itoa xa = ta := ⟨_, rfl⟩
  obtain ⟨tb, htb⟩ : ∃ tb, Lib.itoa xb = tb := ⟨_, rfl⟩
  rw [hta] at ha hca HST
  rw [htb] at hb2 hcb HST
  have HCA := Lib.hid hca
  have HCB := Lib.hid hcb
  have HBa := Lib.hid hBa
  have HS : Hid (∀ W : World, Below W0.heap.size W0 W → Below W0.heap.size W0 W ∧ W.cell? ⟨w.heap.size, 0, none⟩ = some (.int .i64 xa) ∧ W.cell? ⟨w.heap.size, 1, none⟩ = some (.int .i64 xb)) :=
    Lib.hid fun W hW => ⟨hW, (hW.cell (p := ⟨w.heap.size, 0, none⟩) k1.lt).trans hc0, (hW.cell (p := ⟨w.heap.size, 1, none⟩) k1.lt).trans hc1⟩
  clear hca hcb hta htb hx ht hBa k1
  go_enter Tryd.func19, Tryd.ntmps19
  go_wp2_with fail
  clear hW0
  have q1 : ¬ (9223372036854775807 < ta.length + 1) := by omega
  have q2 : ¬ (9223372036854775807 < ta.length + 1 + tb.length) := by omega
  go_region_held3 (fun W => Below W0.heap.size W0 W ∧ W.cell? ⟨w.heap.size, 0, none⟩ = some (.int .i64 xa) ∧ W.cell? ⟨w.heap.size, 1, none⟩ = some (.int .i64 xb)) (first | (exact HS.out _ (Below.refl _ _).drew) | (exact HS.out _ (by assumption)))
    (first
      | (go_at_call_of 17 (Value.int .i64 xa : Value); have hS := ‹Below W0.heap.size W0 _ ∧ _›.1; refine (HCA.out _ (HBa.out.trans (hS.mono HBa.out.size))).mono ?_; rintro e w2 ⟨rfl, hb3⟩; have hS2 := hS.trans (hb3.mono hS.size); clear hS)
      | (go_at_call_of 17 (Value.int .i64 xb : Value); have hS := ‹Below W0.heap.size W0 _ ∧ _›.1; refine (HCB.out _ (HBa.out.trans (hS.mono HBa.out.size))).mono ?_; rintro e w3 ⟨rfl, hb4⟩; have hS3 := hS.trans (hb4.mono hS.size); clear hS))
  all_goals
    have hS := (‹Below W0.heap.size W0 _ ∧ _›).1
    have HN := Lib.hid (HBa.out.trans (hS.mono HBa.out.size))
    go_wp2_with fail
    go_ret
    refine ⟨?_, HN.out⟩
    rw [HST.out]
    simp [str, bytes_app]
set_option maxHeartbeats 1600000 in
theorem impl_namedInt (name : List UInt8) (v : Value) (xs : List Int) (w : World) (h : Rd w v 1 xs.length (ints xs)) (ht : Tab w) (hl : xs.length ≤ 1000) (hr : ∀ x ∈ xs, -9223372036854775808 ≤ x ∧ x ≤ 9223372036854775807) (hn : name.length ≤ 100) :
    Calls Tryd.prog 16 #[str name, v, .func (.func 17) #[] #[]] w fun e w' => e = .returned (str (nmT name (xs.map Lib.itoa))) ∧ Below w.heap.size w w' := by
  obtain ⟨A, c, rfl, -, hnc, hc, hrd⟩ := id h
  unfold maxLen at hc
  obtain ⟨i, hi, hz0, hz1, hz2⟩ := info_parts infoStr
  have HT := Lib.hid ht
  have HR := Lib.hid hr
  have hO0 := World.ownsRow_lit (base := w.heap.size) (e := 9) (size := 1) w #[str name] 1 (Nat.le_refl _) (by simp [maxLen]) rfl
  have hB0 := (Below.refl w.heap.size w).alloc (Nat.le_refl _) (.cells #[str name] 9)
  clear ht hr h
  go_enter Tryd.func16, Tryd.ntmps16
  go_wp2_with fail
  go_loopw [7, 14] (fun wv iv wr => ∃ k : Nat, k ≤ xs.length ∧ iv = .int .i64 k ∧ wr.ownsRow w.heap.size 9 1 wv (k + 1) ((name :: (xs.take k).map Lib.itoa).map str) ∧ Below w.heap.size w wr) (fun _ iv _ => xs.length - (intOf iv).toNat)
  case atStart => exact ⟨0, Nat.zero_le _, rfl, by simpa using hO0, hB0⟩
  case round =>
    obtain ⟨k, hk, rfl, hO, hB⟩ := hrel
    clear hO0 hB0
    by_cases hlt : k < xs.length
    · obtain ⟨b, o, rfl, hb, hcell⟩ := hrd (by omega)
      obtain ⟨x, hxk, hx⟩ := int_at (fun j u hu => (hB.cell (p := ⟨b, o + j, none⟩) hb).trans (hcell j u hu)) hlt
      have HC := Lib.hid (itoa_call x wr (HR.out x (List.mem_of_getElem? hxk.out)) (HT.out.below hB (Nat.le_refl _)))
      have HN : Hid ((name :: (xs.take k).map Lib.itoa).map str ++ [str (Lib.itoa x)] = (name :: (xs.take (k + 1)).map Lib.itoa).map str) := Lib.hid (by
        rw [List.take_add_one, hxk.out]
        simp)
      obtain ⟨tx, htx⟩ : ∃ tx, Lib.itoa x = tx := ⟨_, rfl⟩
      rw [htx] at HC HN
      clear hcell hrd htx hxk
      go_wp2_with (first
        | (go_at_call 17; refine HC.out.mono ?_; rintro e w2 ⟨rfl, hb2⟩; have hO2 := ownsRow_below hO hb2; have hB2 := hB.trans (hb2.mono hB.size))
        | (at_builtin; refine wpList_append_own _ rfl _ _ 46 rfl w.heap.size 9 i (.string ⟨#[]⟩) 1 16 Tryd.underlying46 hi hz0 hz1 hz2 rfl (by decide) _ _ _ rfl (hO2.alloc _) ⟨w2.heap.size, 0, none⟩ 1 1 [str tx] rfl rfl (new_cells _ _ _) (by simp [Value.oneCell']) (by unfold maxLen; omega) (by omega) (by have := hB2.size; simp; omega) ?_; intro v' w3 hown' hgrow _))
      have hB3 := (hB2.alloc hB2.size (.cells #[str tx] 9)).grown hgrow (by have := hB2.size; simp; omega) (fun j hj => by have := (hO2.lt j hj).1; omega)
      rw [HN.out] at hown'
      exact ⟨⟨k + 1, by omega, by go_num, hown', hB3⟩, by simp [intOf]; omega⟩
    · obtain rfl : k = xs.length := by omega
      rw [List.take_length] at hO
      obtain ⟨g, tc, rfl, hcp⟩ := owns_pos hO (by omega)
      have HJ := Lib.hid (joinN_call g tc w.heap.size (name :: xs.map Lib.itoa) wr (by simpa using hO) (by simp; omega) (by simpa using hcp) (by
        rw [nmT_join]
        have := nmT_len (ws := xs.map Lib.itoa) (name := name) (m := 20) (fun t ht => by obtain ⟨x, hx, rfl⟩ := List.mem_map.1 ht; exact digs_len (HR.out x hx))
        rw [List.length_map] at this
        omega))
      rw [nmT_join, show (name :: xs.map Lib.itoa).length = xs.length + 1 by simp] at HJ
      go_wp2_with (go_at_call 20; refine HJ.out.mono ?_; rintro e w4 ⟨rfl, hb4⟩)
      go_ret
      exact ⟨rfl, hB.trans (hb4.mono hB.size)⟩
set_option maxHeartbeats 1600000 in
theorem impl_namedHold (name : List UInt8) (v : Value) (xs : List P2) (w : World) (h : Rd w v 2 xs.length (flc2 xs)) (ht : Tab w) (hl : xs.length ≤ 1000) (hr : ∀ x ∈ xs, (-9223372036854775808 ≤ x.a ∧ x.a ≤ 9223372036854775807) ∧ (-9223372036854775808 ≤ x.b ∧ x.b ≤ 9223372036854775807)) (hn : name.length ≤ 100) :
    Calls Tryd.prog 18 #[str name, v, .func (.func 19) #[] #[]] w fun e w' => e = .returned (str (nmT name (xs.map holdT))) ∧ Below w.heap.size w w' := by
  obtain ⟨A, c, rfl, -, hnc, hc, hrd⟩ := id h
  unfold maxLen at hc
  obtain ⟨i, hi, hz0, hz1, hz2⟩ := info_parts infoStr
  have HT := Lib.hid ht
  have HR := Lib.hid hr
  have hO0 := World.ownsRow_lit (base := w.heap.size) (e := 9) (size := 1) w #[str name] 1 (Nat.le_refl _) (by simp [maxLen]) rfl
  have hB0 := (Below.refl w.heap.size w).alloc (Nat.le_refl _) (.cells #[str name] 9)
  clear ht hr h
  go_enter Tryd.func18, Tryd.ntmps18
  go_wp2_with fail
  go_loopw [7, 14] (fun wv iv wr => ∃ k : Nat, k ≤ xs.length ∧ iv = .int .i64 k ∧ wr.ownsRow w.heap.size 9 1 wv (k + 1) ((name :: (xs.take k).map holdT).map str) ∧ Below w.heap.size w wr) (fun _ iv _ => xs.length - (intOf iv).toNat)
  case atStart => exact ⟨0, Nat.zero_le _, rfl, by simpa using hO0, hB0⟩
  case round =>
    obtain ⟨k, hk, rfl, hO, hB⟩ := hrel
    clear hO0 hB0
    by_cases hlt : k < xs.length
    · obtain ⟨b, o, rfl, hb, hcell⟩ := hrd (by omega)
      obtain ⟨x, hxk, hx0, hx1⟩ := p2_at (fun j u hu => (hB.cell (p := ⟨b, o + j, none⟩) hb).trans (hcell j u hu)) hlt
      have hBa := hB.alloc hB.size (.cells #[.int .i64 x.a, .int .i64 x.b] 39)
      have hOa := hO.alloc (.cells #[.int .i64 x.a, .int .i64 x.b] 39)
      have HC := Lib.hid (impl_holdText x (wr.alloc (.cells #[.int .i64 x.a, .int .i64 x.b] 39)) (HR.out x (List.mem_of_getElem? hxk.out)) (HT.out.below hBa (Nat.le_refl _)))
      have HN : Hid ((name :: (xs.take k).map holdT).map str ++ [str (holdT x)] = (name :: (xs.take (k + 1)).map holdT).map str) := Lib.hid (by
        rw [List.take_add_one, hxk.out]
        simp)
      obtain ⟨tx, htx⟩ : ∃ tx, holdT x = tx := ⟨_, rfl⟩
      rw [htx] at HC HN
      clear hcell hrd htx hxk hO hB
      go_wp2_with (first
        | (go_at_call 19; refine HC.out.mono ?_; rintro e w2 ⟨rfl, hb2⟩; have hO2 := ownsRow_below hOa hb2; have hB2 := hBa.trans (hb2.mono hBa.size))
        | (at_builtin; refine wpList_append_own _ rfl _ _ 46 rfl w.heap.size 9 i (.string ⟨#[]⟩) 1 16 Tryd.underlying46 hi hz0 hz1 hz2 rfl (by decide) _ _ _ rfl (hO2.alloc _) ⟨w2.heap.size, 0, none⟩ 1 1 [str tx] rfl rfl (new_cells _ _ _) (by simp [Value.oneCell']) (by unfold maxLen; omega) (by omega) (by have := hB2.size; simp; omega) ?_; intro v' w3 hown' hgrow _))
      have hB3 := (hB2.alloc hB2.size (.cells #[str tx] 9)).grown hgrow (by have := hB2.size; simp; omega) (fun j hj => by have := (hO2.lt j hj).1; omega)
      rw [HN.out] at hown'
      exact ⟨⟨k + 1, by omega, by go_num, hown', hB3⟩, by simp [intOf]; omega⟩
    · obtain rfl : k = xs.length := by omega
      rw [List.take_length] at hO
      obtain ⟨g, tc, rfl, hcp⟩ := owns_pos hO (by omega)
      have HJ := Lib.hid (joinN_call g tc w.heap.size (name :: xs.map holdT) wr (by simpa using hO) (by simp; omega) (by simpa using hcp) (by
        rw [nmT_join]
        have := nmT_len (ws := xs.map holdT) (name := name) (m := 41) (fun t ht => by obtain ⟨x, hx, rfl⟩ := List.mem_map.1 ht; exact holdT_len (HR.out x hx))
        rw [List.length_map] at this
        omega))
      rw [nmT_join, show (name :: xs.map holdT).length = xs.length + 1 by simp] at HJ
      go_wp2_with (go_at_call 20; refine HJ.out.mono ?_; rintro e w4 ⟨rfl, hb4⟩)
      go_ret
      exact ⟨rfl, hB.trans (hb4.mono hB.size)⟩
end Go.Proofs.YtiamkgkhamnaeaaDoor
