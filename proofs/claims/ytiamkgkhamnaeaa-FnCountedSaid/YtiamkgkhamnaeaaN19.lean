/- What FreeSome stands on: taking a list out of a row (pure), out of a set (impl's takeOut), and slices.DeleteFunc by a set. Conditions: the rows can be read and hold numbers of 64 bits; lengths that a law bounds. -/
import Derived.Test.YtiamkgkhamnaeaaN18
import Derived.Test.YtiamkgkhamnaeaaN8
namespace Go.Proofs.Ytiamkgkhamnaeaa
set_option maxRecDepth 20000
set_option linter.unusedSimpArgs false
set_option linter.unusedVariables false
open Go.ChangeShapes Go.WideShapes Go.ChangeAt Go.RowKit Go.Maps
set_option linter.unusedVariables false
def takeAll : List Int → List Int → Option (List Int)
  | w, [] => some w
  | w, x :: xs => if w.any (· == x) then takeAll (lessF w x) xs else none
theorem takeAll_append : ∀ (w a b : List Int), takeAll w (a ++ b) = (takeAll w a).bind fun w' => takeAll w' b
  | w, [], b => rfl
  | w, x :: a, b => by
    rw [List.cons_append, takeAll, takeAll]
    split
    · exact takeAll_append _ a b
    · rfl
theorem takeAll_yes {w l wk : List Int} {k : Nat} {x : Int} (h : takeAll w (l.take k) = some wk) (hx : l[k]? = some x) (hm : wk.any (· == x) = true) : takeAll w (l.take (k + 1)) = some (lessF wk x) := by
  rw [List.take_add_one, hx, Option.toList_some, takeAll_append, h, Option.bind_some]
  simp only [takeAll, hm, if_true]
theorem takeAll_no {w l wk : List Int} {k : Nat} {x : Int} (h : takeAll w (l.take k) = some wk) (hx : l[k]? = some x) (hm : wk.any (· == x) = false) : takeAll w l = none := by
  obtain ⟨hk, rfl⟩ := List.getElem?_eq_some_iff.1 hx
  have e : l = l.take k ++ (l[k] :: l.drop (k + 1)) := by rw [← List.drop_eq_getElem_cons hk, List.take_append_drop]
  rw [e, takeAll_append, h, Option.bind_some, takeAll, hm]
  rfl
theorem takeAll_filter : ∀ {w l wf : List Int}, takeAll w l = some wf → wf = w.filter fun y => !(l.any (· == y))
  | w, [], wf, h => by
    injection h with h
    subst h
    exact (List.filter_eq_self.2 fun y _ => rfl).symm
  | w, x :: l, wf, h => by
    rw [takeAll] at h
    split at h
    · rw [takeAll_filter h]
      unfold lessF
      rw [List.filter_filter]
      refine List.filter_congr fun y _ => ?_
      rw [List.any_cons, Bool.not_or]
      rw [show (x == y) = (y == x) by rw [Bool.eq_iff_iff]; simp; exact eq_comm]
      exact Bool.and_comm _ _
    · cases h
theorem takeAll_self {w l wf : List Int} (h : takeAll w l = some wf) : w.filter (fun y => decide (y ∈ wf)) = wf := by
  have e := takeAll_filter h
  conv => rhs; rw [e]
  refine List.filter_congr fun y hy => ?_
  rw [e, Bool.eq_iff_iff, decide_eq_true_iff, List.mem_filter]
  exact ⟨fun h => h.2, fun h => ⟨hy, h⟩⟩
theorem takeAll_len : ∀ {w l wf : List Int}, takeAll w l = some wf → wf.length + l.length ≤ w.length
  | w, [], wf, h => by
    injection h with h
    subst h
    simp
  | w, x :: l, wf, h => by
    rw [takeAll] at h
    split at h
    · rename_i hm
      have h1 := takeAll_len h
      have h2 : (lessF w x).length < w.length := by
        unfold lessF
        obtain ⟨y, hy, he⟩ := List.any_eq_true.1 hm
        exact List.length_filter_lt_length_iff_exists.2 ⟨y, hy, by simpa using he⟩
      simp only [List.length_cons]
      omega
    · cases h
set_option maxHeartbeats 1600000 in
theorem impl_takeOut (g n : Nat) (D : DU) (v : Value) (ws xs : List Int) (w : World) (hM : w.ownsMap Try.prog 3 (plainElem Try.prog 4) g n D) (hS : SetM D ws) (h : Rd w v 1 xs.length (ints xs)) (hw : ∀ x ∈ xs, (Lit.int .i64 x).wf = true) :
    Calls Try.prog 87 #[.map (some g), v] w fun e w' => e = .returned (.bool (takeAll ws xs).isSome) ∧ Only [g] w w' ∧ (∀ wf, takeAll ws xs = some wf → ∃ D' : DU, w'.ownsMap Try.prog 3 (plainElem Try.prog 4) g n D' ∧ SetM D' wf) := by
  obtain ⟨A, c, rfl, -, hnc, hc, hr⟩ := h
  unfold maxLen at hc
  have HW := Lib.hid hw
  have hgl := hM.lt
  have HS0 := Lib.hid hS
  have hblk : Hid (∀ b, b < w.heap.size → 0 < xs.length → ∀ o, A = some ⟨b, o, none⟩ → b ≠ g) := Lib.hid (fun b hb hp o hA e => by
    obtain ⟨b', o', hA', hb', hc'⟩ := hr hp
    rw [hA] at hA'
    injection hA' with hA'
    injection hA' with e1 e2
    subst e1 e2
    have hx := hc' 0 (.int .i64 (xs.getD 0 0)) (ints_at hp)
    obtain ⟨es, clock, hh, -⟩ := hM
    rw [e] at hx
    simp [World.cell?, hh] at hx)
  clear hw hS
  go_enter Try.func87, Try.ntmps87
  go_wp2_with fail
  go_loopw [9] (fun i wr => ∃ (k : Nat) (D' : DU) (wk : List Int), k ≤ xs.length ∧ i = .int .i64 k ∧ wr.ownsMap Try.prog 3 (plainElem Try.prog 4) g n D' ∧ Hid (SetM D' wk ∧ takeAll ws (xs.take k) = some wk) ∧ Only [g] w wr) (fun i _ => xs.length - (intOf i).toNat)
  case atStart => exact ⟨0, D, ws, Nat.zero_le _, rfl, hM, Lib.hid ⟨HS0.out, rfl⟩, Only.refl _ _⟩
  case round =>
    obtain ⟨k, D', wk, hk, rfl, hM', HS, hon⟩ := hrel
    clear hM
    by_cases hlt : k < xs.length
    · obtain ⟨b, o, rfl, hb, hcell⟩ := hr (by omega)
      have hbg := hblk.out b hb (by omega) o rfl
      obtain ⟨x, hxk, hx⟩ := int_at (fun j u hu => (World.cell?_of_block (a := ⟨b, o + j, none⟩) (hon.block b hb (by simpa using hbg))).trans (hcell j u hu)) hlt
      have hwx := HW.out x (List.mem_of_getElem? hxk.out)
      obtain ⟨vm, hvm⟩ : ∃ vm, wk.any (· == x) = vm := ⟨_, rfl⟩
      have hat := HS.out.1.2 x
      rw [show decide (x ∈ wk) = vm by rw [← hvm, Bool.eq_iff_iff, decide_eq_true_iff, any_mem]] at hat
      have HAT := Lib.hid hat
      have HV := Lib.hid hvm
      clear hcell hr hat hvm
      cases vm
      · have HN := Lib.hid (takeAll_no HS.out.2 hxk.out HV.out)
        go_wp2_with (at_lookup; refine wpList_lookup_own_boolG _ rfl _ _ _ rfl 3 4 intK Try.underlying107 Try.underlying4 (zeroBool _) g n D' rfl hM' _ (kI x) rfl (keyOf_int_mk Try.underlying3 hwx) false HAT.out ?_)
        go_ret
        exact ⟨ret_bool (by rw [HN.out]; rfl), hon, fun wf h => by rw [HN.out] at h; cases h⟩
      · have HN := Lib.hid (And.intro (HS.out.1.del x) (takeAll_yes HS.out.2 hxk.out HV.out))
        go_wp2_with (first
          | (at_lookup; refine wpList_lookup_own_boolG _ rfl _ _ _ rfl 3 4 intK Try.underlying107 Try.underlying4 (zeroBool _) g n D' rfl hM' _ (kI x) rfl (keyOf_int_mk Try.underlying3 hwx) true HAT.out ?_)
          | (at_delete; refine wpList_delete_own _ rfl _ _ 107 3 rfl 4 intK Try.underlying107 _ g n D' rfl hM' _ (kI x) rfl (keyOf_int_mk Try.underlying3 hwx) ?_; intro w2 hown2 hturn2))
        have hg2 := hturn2.grown
        have hon2 : Only [g] w w2 := hon.trans ⟨hg2.os, hg2.tape, hg2.output, hg2.size, fun b hb hn => hg2.block b hb (by intro e; injection e with e; exact hn (by simp [e]))⟩
        go_wp2_with fail
        exact ⟨⟨k + 1, _, _, by omega, by go_num, hown2, HN, hon2⟩, by simp [intOf]; omega⟩
    · obtain rfl : k = xs.length := by omega
      have hs := HS.out
      rw [List.take_length] at hs
      have HF := Lib.hid hs
      clear hs HS
      go_wp2_with fail
      go_ret
      exact ⟨ret_bool (by rw [HF.out.2]; rfl), hon, fun wf h => by
        rw [HF.out.2] at h
        injection h with h
        subst h
        exact ⟨D', hM', HF.out.1⟩⟩
end Go.Proofs.Ytiamkgkhamnaeaa
