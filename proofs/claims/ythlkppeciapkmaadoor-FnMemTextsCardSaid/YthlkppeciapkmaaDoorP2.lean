/- ParseMem, the model's way. -/
import Derived.Test.YthlkppeciapkmaaDoorP1
namespace Go.Proofs.YthlkppeciapkmaaDoor
open Go.ChangeShapes Go.WideShapes Go.ChangeAt Go.RowKit
set_option linter.unusedVariables false
def listF (ws : List (List UInt8)) : Option (List Int) := ws.mapM readF
def memF (o : Option (List Int)) : Option (List Int) := o.bind fun xs => if memOk xs then some xs else none
def specParseF (s : List UInt8) : Option (List Int) := if 144 < s.length then none else memF (listF (partsF 32 s))
theorem listF_take_succ {ws : List (List UInt8)} {k : Nat} {xs : List Int} {p : List UInt8} {x : Int} (h : listF (ws.take k) = some xs) (hp : ws[k]? = some p) (hx : readF p = some x) : listF (ws.take (k + 1)) = some (xs ++ [x]) := by
  unfold listF at *
  rw [List.take_add_one, hp, List.mapM_append, h]
  simp [hx]
theorem listF_none {ws : List (List UInt8)} {k : Nat} {p : List UInt8} (hp : ws[k]? = some p) (hx : readF p = none) : listF ws = none := by
  obtain ⟨hk, he⟩ := List.getElem?_eq_some_iff.1 hp
  unfold listF
  rw [← List.take_append_drop k ws, List.drop_eq_getElem_cons hk, he, List.mapM_append]
  cases (ws.take k).mapM readF with
  | none => rfl
  | some xs => simp [hx]
theorem partsF_part (c : UInt8) : ∀ (s p : List UInt8), p ∈ partsF c s → p.length ≤ s.length
  | [], p, h => by
    simp [partsF] at h
    simp [h]
  | b :: r, p, h => by
    have ih := partsF_part c r
    unfold partsF at h
    split at h
    · rcases List.mem_cons.1 h with rfl | h
      · simp
      · have := ih p h
        simp
        omega
    · split at h
      · rename_i q qs hq
        rcases List.mem_cons.1 h with rfl | h
        · have := ih q (by rw [hq]; simp)
          simp
          omega
        · have := ih p (by rw [hq]; simp [h])
          simp
          omega
      · simp at h
        simp [h]
theorem owns_below {w w' : World} {B : Nat} {T : TypeId} {size n : Nat} {v : Value} {cs : List Value} (h : w.ownsRow B T size v n cs) (hb : Below w.heap.size w w') : w'.ownsRow B T size v n cs := by
  obtain ⟨hl, h | ⟨g, cap, cur, h1, h2, h3, h4⟩⟩ := h
  · exact ⟨hl, .inl h⟩
  · exact ⟨hl, .inr ⟨g, cap, cur, h1, h2, (hb.block g (Array.getElem?_eq_some_iff.1 h3).1).trans h3, h4⟩⟩
theorem only_below {w w1 w2 : World} {bs : List Nat} (h : Only bs w w1) (hb : Below w.heap.size w1 w2) : Only bs w w2 :=
  ⟨hb.os.trans h.os, hb.tape.trans h.tape, hb.output.trans h.output, Nat.le_trans h.size hb.size, fun k hk hn => (hb.block k hk).trans (h.block k hk hn)⟩
theorem own_nil {w : World} {B : Nat} {T : TypeId} : w.ownsRow B T 1 (.slice none 0 0) 0 [] := ⟨rfl, .inl ⟨rfl, rfl⟩⟩
theorem strs_at {L : List (List UInt8)} {k : Nat} {p : List UInt8} (h : L[k]? = some p) : (strs L)[k]? = some (str p) := by simp [strs, h]
set_option maxRecDepth 20000 in
set_option maxHeartbeats 2000000 in
theorem spec_ParseMem (s : List UInt8) (w : World) (hs : s.length ≤ 1048576) :
    Calls Tryd.prog 16 #[str s] w (RetMemB ((specParseF s).getD []) (specParseF s).isSome w) := by
  obtain ⟨i, hi, hiz0, hiz1, hiz2⟩ := info_parts infoInt
  by_cases h144 : 144 < s.length
  · have hp : specParseF s = none := by unfold specParseF; rw [if_pos h144]
    rw [hp]
    clear hp
    show Calls Tryd.prog 16 #[str s] w (RetMemB [] false w)
    have hB := ((Below.refl w.heap.size w).alloc (Nat.le_refl _) (.cells #[.slice none 0 0] 26)).alloc (by simp) (.cells #[.slice none 0 0] 26)
    go_enter Tryd.func16, Tryd.ntmps16
    go_wp2_with fail
    refine bodyPost_ret (v := .tuple #[.agg #[.slice none 0 0], .bool false]) (by simp [results, Tryd.results16, go_sem]) rfl ⟨_, [], rfl, Own.nil _ _, by simp, ?_⟩
    exact hB
  · have hp : specParseF s = memF (listF (partsF 32 s)) := by unfold specParseF; rw [if_neg h144]
    have hN := partsF_len 32 s
    have hPL := partsF_part 32 s
    rw [hp]
    clear hp
    go_enter Tryd.func16, Tryd.ntmps16
    go_wp2_with fail
    refine (l01Parts s 32 _ hs).mono ?_
    rintro e wA ⟨vw, bw, rfl, hoW, hbW, hbA⟩
    generalize hws : partsF 32 s = ws at *
    clear hws
    have k0 := ((Bk.new w #[.slice none 0 0] 26).alloc (.cells #[.slice none 0 0] 26)).below hbA (by simp; omega)
    have k1 := (Bk.new (w.alloc (.cells #[.slice none 0 0] 26)) #[.slice none 0 0] 26).below hbA (by simp)
    have hBA := (((Below.refl w.heap.size w).alloc (Nat.le_refl _) (.cells #[.slice none 0 0] 26)).alloc (by simp) (.cells #[.slice none 0 0] 26)).trans (hbA.mono (by simp; omega))
    simp only [World.size_alloc] at k1 hbW
    have hlw := hoW.lt
    obtain ⟨A, cw, rfl, hcw, hcm⟩ := hoW.slice
    have hsA : w.heap.size + 2 ≤ wA.heap.size := by have := k1.lt; omega
    go_wp2_with fail
    go_loopw [6] (fun i wr => ∃ (k : Nat) (xs : List Int) (v : Value), i = .int .i64 k ∧ k ≤ ws.length ∧ Hid (listF (ws.take k) = some xs) ∧ wr.ownsRow wA.heap.size 3 1 v k (ints xs) ∧ Bk wr w.heap.size #[.slice none 0 0] 26 ∧ Bk wr (w.heap.size + 1) #[v] 26 ∧ Only [w.heap.size + 1] wA wr) (fun i _ => ws.length - (intOf i).toNat)
    case atStart => exact ⟨0, [], .slice none 0 0, rfl, Nat.zero_le _, Lib.hid rfl, own_nil, k0, k1, Only.refl _ _⟩
    case round =>
      obtain ⟨k, xs, v, rfl, hk, HL, hO, k0', k1', hOn⟩ := hrel
      clear k0 k1
      by_cases hlt : k < ws.length
      · obtain ⟨p, hp⟩ : ∃ p, ws[k]? = some p := ⟨ws[k], List.getElem?_eq_getElem hlt⟩
        obtain ⟨b, o, hA, hbl, hbge, hcell⟩ : ∃ b o, A = some ⟨b, o, none⟩ ∧ b < wA.heap.size ∧ w.heap.size + 2 ≤ b ∧ wA.cell? ⟨b, o + k, none⟩ = some (str p) := by
          obtain ⟨A', c', he, _, _, _, hr⟩ := hoW
          injection he with he
          subst he
          rcases hr with ⟨h0, _⟩ | ⟨_, b, o, rfl, rfl, hb, hat⟩
          · omega
          · exact ⟨b, o, rfl, hb, hbW b (by simp), (hat k _ (strs_at hp)).1⟩
        have hx' : wr.cell? ⟨b, o + k, none⟩ = some (str p) := (World.cell?_of_block (a := ⟨b, o + k, none⟩) (hOn.block b hbl (by simp; omega))).trans hcell
        have hps : p.length ≤ 1048576 := by have := hPL p (List.mem_of_getElem? hp); omega
        subst hA
        have HO := Lib.hid hoW
        clear hoW hcell
        have Hp := Lib.hid hp
        clear hp
        obtain ⟨hc1, hf1⟩ := k1'.at_ 0 (x := v) rfl
        have hl1 := k1'.lt
        go_wp2_with fail
        refine (l01Read p _ hps).mono ?_
        rintro e w1 ⟨⟨x, rfl, hxv⟩, hb1⟩
        clear hc1 hf1 hl1 hx'
        have k0'' := k0'.below hb1 k0'.lt
        have k1'' := k1'.below hb1 k1'.lt
        clear k0' k1'
        have hO1 := owns_below hO hb1
        have hOn1 := hOn.trans (Only.of_below hb1 _)
        have hBr := hBA.trans (hOn.below (B := w.heap.size) (by omega) (by simp))
        have hB1 := hBr.trans (hb1.mono hBr.size)
        cases hr : readF p with
        | none =>
          obtain ⟨hc0, hf0⟩ := k0''.at_ 0 (x := .slice none 0 0) rfl
          have hl0 := k0''.lt
          have HF := Lib.hid (listF_none Hp.out hr)
          clear hr hxv
          go_wp2_with fail
          rw [HF.out]
          show bodyPost _ _ (RetMemB [] false w) _ _ _
          exact bodyPost_ret (v := .tuple #[.agg #[.slice none 0 0], .bool false]) (by simp [results, Tryd.results16, go_sem, hc0]) rfl ⟨_, [], rfl, Own.nil _ _, by simp, hB1.setCell (Nat.le_refl _) _⟩
        | some y =>
          obtain rfl := hxv y hr
          have HF := Lib.hid (listF_take_succ HL.out Hp.out hr)
          clear hr hxv
          obtain ⟨hc1, hf1⟩ := k1''.at_ 0 (x := v) rfl
          have hl1 := k1''.lt
          have hsz1 := hOn1.size
          have hR := Below.refl wA.heap.size w1
          have hlx : xs.length = k := by have := hO1.1; simpa [ints] using this
          clear hlx
          go_wp2_with (at_builtin; refine wpList_append_own _ rfl _ _ 24 rfl wA.heap.size 3 i (.int .i64 0) 1 8 Tryd.underlying24 hi hiz0 hiz1 hiz2 rfl (by decide) _ _ _ rfl (hO1.alloc _) ⟨w1.heap.size, 0, none⟩ 1 1 [.int .i64 x] rfl rfl ?c1 ?c2 ?c3 ?c4 ?c5 ?_)
          case c1 => exact new_cells _ _ _
          case c2 => simp [Value.oneCell']
          case c3 => unfold maxLen; omega
          case c4 => omega
          case c5 => simp; omega
          intro v2 w2 hown' hgrow _
          have hB' := (hR.alloc hsz1 _).grown hgrow (by simp; omega) (fun k hk => by have := (hO1.lt k hk).1; omega)
          have kk0 := k0''.below hB' (by omega)
          have kk1 := k1''.below hB' (by omega)
          clear hgrow hc1 hf1 hl1 k0'' k1''
          obtain ⟨g, cap, rfl⟩ : ∃ g cap, v2 = .slice (some ⟨g, 0, none⟩) (k + 1) cap := by
            obtain ⟨_, ⟨_, h0⟩ | ⟨g, cap, cur, h1, _⟩⟩ := hown'
            · omega
            · exact ⟨g, cap, h1⟩
          obtain ⟨hc1, hf1⟩ := kk1.at_ 0 (x := v) rfl
          have hl1 := kk1.lt
          go_wp2_with fail
          refine ⟨⟨k + 1, xs ++ [x], _, by go_num, by omega, HF, ?_, kk0.far (by simp) _, kk1.set_ 0 _, ?_⟩, by simp [intOf]; omega⟩
          · rw [show ints (xs ++ [x]) = ints xs ++ [.int .i64 x] by simp [ints]]
            exact ownsRow_setCell_below hown' (by show w.heap.size + 1 < _; omega) _
          · exact (only_below hOn1 hB').trans (Only.setCell _ _)
      · obtain rfl : k = ws.length := by omega
        rw [List.take_length] at HL
        have hlx : xs.length = ws.length := by have := hO.1; simpa [ints] using this
        obtain ⟨bs, ho, hbs⟩ := Own.of_owns hO
        have hrd : ∀ v, Own wr v 1 ws.length (ints xs) bs → Rd wr v 1 xs.length (ints xs) := fun v h => by rw [hlx]; exact h.rd
        have hrd' := hrd _ ho
        have HX := Lib.hid hlx
        clear hlx hrd hoW
        obtain ⟨A1, c1, rfl, hcc1, hcm1⟩ := ho.slice
        obtain ⟨hc1, hf1⟩ := k1'.at_ 0 (x := .slice A1 ws.length c1) rfl
        have hl1 := k1'.lt
        have hBr := hBA.trans (hOn.below (B := w.heap.size) (by omega) (by simp))
        clear hO
        go_wp2_with fail
        refine (spec_MemOk _ xs _ hrd').mono ?_
        rintro e w1 ⟨rfl, hb1⟩
        have k0'' := k0'.below hb1 k0'.lt
        have k1'' := k1'.below hb1 k1'.lt
        clear k0' k1' hc1 hf1 hl1
        have ho' := ho.below hb1
        clear ho
        have hlo := hbs
        have hB1 := hBr.trans (hb1.mono hBr.size)
        obtain ⟨hc0, hf0⟩ := k0''.at_ 0 (x := .slice none 0 0) rfl
        have hl0 := k0''.lt
        obtain ⟨hc1, hf1⟩ := k1''.at_ 0 (x := .slice A1 ws.length c1) rfl
        have hl1 := k1''.lt
        cases hm : memOk xs
        · have HF : Hid (memF (listF ws) = none) := Lib.hid (by rw [HL.out]; simp [memF, hm])
          go_wp2_with fail
          rw [HF.out]
          show bodyPost _ _ (RetMemB [] false w) _ _ _
          exact bodyPost_ret (v := .tuple #[.agg #[.slice none 0 0], .bool false]) (by simp [results, Tryd.results16, go_sem, hc0]) rfl ⟨_, [], rfl, Own.nil _ _, by simp, hB1.setCell (Nat.le_refl _) _⟩
        · have HF : Hid (memF (listF ws) = some xs) := Lib.hid (by rw [HL.out]; simp [memF, hm])
          go_wp2_with fail
          rw [HF.out]
          show bodyPost _ _ (RetMemB xs true w) _ _ _
          exact bodyPost_ret (v := .tuple #[.agg #[.slice A1 ws.length c1], .bool true]) (by simp [results, Tryd.results16, go_sem, hc0]) rfl ⟨_, bs, rfl, by rw [HX.out]; exact ho'.only (Only.setCell _ _) (fun b hb hm => by have := hbs b hb; simp at hm; omega), fun b hb => by have := hbs b hb; omega, hB1.setCell (Nat.le_refl _) _⟩
end Go.Proofs.YthlkppeciapkmaaDoor
