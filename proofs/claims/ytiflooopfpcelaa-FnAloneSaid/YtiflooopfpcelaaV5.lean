/- What a move does to a machine, as plain functions; a machine that is well stays so. No condition. -/
import Derived.Test.YtiflooopfpcelaaV4
import Derived.Test.YtiflooopfpcelaaB6
import Derived.Test.YtiflooopfpcelaaB8
namespace Go.Proofs.Ytiflooopfpcelaa
set_option maxRecDepth 20000
set_option linter.unusedSimpArgs false
set_option linter.unusedVariables false
def setTh (M : Ma) (k : Nat) (t : Th) : Ma := ⟨M.mem, M.ths.set k t⟩
def gv (t : Th) (r : Int) : Int := t.v.getD r.toNat 0
/-- what an instruction does to memory and to its thread (the counter has moved on) -/
def effM (ms : List Int) (t : Th) (i : Ins) : List Int :=
  if i.o = 5 then (if ms.getD i.n.toNat 0 = gv t i.r then ms.set i.n.toNat (gv t i.s) else ms)
  else if i.o = 7 then ms.set i.n.toNat (gv t i.s) else ms
def effT (ms : List Int) (t : Th) (i : Ins) : Th :=
  if i.o = 0 then { t with v := t.v.set i.r.toNat i.n }
  else if i.o = 1 then { t with v := t.v.set i.r.toNat (clampF (gv t i.r + gv t i.s)) }
  else if i.o = 2 then { t with v := t.v.set i.r.toNat (readF3 t.f ms i.n) }
  else if i.o = 3 then { t with f := putF t.f i.n (gv t i.r) }
  else if i.o = 5 then { t with v := t.v.set i.r.toNat (if ms.getD i.n.toNat 0 = gv t i.r then 1 else 0) }
  else if i.o = 6 then (if gv t i.r = 0 then { t with pc := i.n } else t)
  else if i.o = 7 then { t with v := t.v.set i.r.toNat (ms.getD i.n.toNat 0) }
  else if i.o = 8 then { t with v := t.v.set i.r.toNat (clampF (gv t i.r - gv t i.s)) }
  else t
def stepT (t : Th) : Th := { t with pc := t.pc + 1 }
def effF (M : Ma) (k : Nat) (t : Th) (i : Ins) : Ma := ⟨effM M.mem t i, M.ths.set k (effT M.mem t i)⟩
def execF (M : Ma) (k : Nat) (t : Th) (code : List Ins) : Ma := effF M k (stepT t) (insAt t code)
def drainT (ms : List Int) (t : Th) : Th := { t with f := drB t.f ms }
def drainF (M : Ma) (k : Nat) (t : Th) : Ma := ⟨drM t.f M.mem, M.ths.set k (drainT M.mem t)⟩
/-- the move of a machine that is well, that can be done -/
def doAt (p : Pr) (M : Ma) (m : Mv) : Ma :=
  if m.d then drainF M m.t.toNat (M.ths.getD m.t.toNat ⟨0, [], []⟩) else execF M m.t.toNat (M.ths.getD m.t.toNat ⟨0, [], []⟩) (p.x.getD m.t.toNat [])
def doF (p : Pr) (M : Ma) (m : Mv) : Ma := if canMv p M m then doAt p M m else M
theorem ins_ok {c : Int} {code : List Ins} {k : Nat} {i : Ins} (h : codeOkF c code = true) (hi : code[k]? = some i) : insOk i c code.length = true := by
  simp only [codeOkF, Bool.and_eq_true, List.all_eq_true] at h
  exact h.2 i (List.mem_of_getElem? hi)
theorem code_ok {p : Pr} {k : Nat} {code : List Ins} (h : progOkF p = true) (hc : p.x[k]? = some code) : codeOkF p.c code = true := by
  simp only [progOkF, Bool.and_eq_true, List.all_eq_true] at h
  exact h.2 code (List.mem_of_getElem? hc)
structure InsR3 (i : Ins) (c n : Int) : Prop where
  o : 0 ≤ i.o ∧ i.o ≤ 8
  r : 0 ≤ i.r ∧ i.r ≤ 3
  s : 0 ≤ i.s ∧ i.s ≤ 3
  n0 : i.o = 0 → -1000 ≤ i.n ∧ i.n ≤ 1000
  n2 : i.o = 2 ∨ i.o = 3 ∨ i.o = 5 ∨ i.o = 7 → 0 ≤ i.n ∧ i.n ≤ c - 1
  n6 : i.o = 6 → 0 ≤ i.n ∧ i.n ≤ n
theorem insR3 {i : Ins} {c n : Int} (h : insOk i c n = true) : InsR3 i c n := by
  simp only [insOk, Bool.and_eq_true] at h
  obtain ⟨⟨⟨⟨⟨⟨⟨⟨_, _⟩, h1⟩, h2⟩, h3⟩, _⟩, _⟩, _⟩, h4⟩ := h
  refine ⟨inB_true h1, inB_true h2, inB_true h3, fun h => ?_, fun h => ?_, fun h => ?_⟩
  · rw [nOkF, if_pos h] at h4
    exact inB_true h4
  · rw [nOkF, if_neg (by omega), if_pos h] at h4
    exact inB_true h4
  · rw [nOkF, if_neg (by omega), if_neg (by omega), if_pos h] at h4
    exact inB_true h4
theorem inB_of {x lo hi : Int} (h : lo ≤ x ∧ x ≤ hi) : inB x lo hi = true := by simp [inB, h.1, h.2]
theorem valB_clamp (x : Int) : valB (clampF x) = true := by
  unfold clampF
  split
  · rfl
  · split
    · rfl
    · exact inB_of (by omega)
theorem all_set {α : Type} {p : α → Bool} {l : List α} {k : Nat} {x : α} (h : l.all p = true) (hx : p x = true) : (l.set k x).all p = true := by
  rw [List.all_eq_true] at h ⊢
  intro y hy
  rcases List.mem_or_eq_of_mem_set hy with h1 | h1
  · exact h y h1
  · exact h1 ▸ hx
theorem valB_gv {t : Th} (h : t.v.all valB = true) (r : Int) : valB (gv t r) = true := by
  unfold gv
  rw [List.getD_eq_getElem?_getD]
  cases hx : t.v[r.toNat]? with
  | none => rfl
  | some x => exact (List.all_eq_true.1 h) x (List.mem_of_getElem? hx)
theorem valB_getD {ms : List Int} (h : ms.all valB = true) (a : Nat) : valB (ms.getD a 0) = true := by
  rw [List.getD_eq_getElem?_getD]
  cases hx : ms[a]? with
  | none => rfl
  | some x => exact (List.all_eq_true.1 h) x (List.mem_of_getElem? hx)
theorem memOk_all {ms : List Int} (h : memOk ms = true) : ms.all valB = true := by
  simp only [memOk, Bool.and_eq_true] at h
  exact h.2
theorem memOk_set {ms : List Int} (h : memOk ms = true) (k : Nat) {x : Int} (hx : valB x = true) : memOk (ms.set k x) = true := by
  simp only [memOk, Bool.and_eq_true, List.length_set] at h ⊢
  exact ⟨h.1, all_set h.2 hx⟩
theorem valB_read {f : List P2} {ms : List Int} (hf : bufOk f = true) (hm : memOk ms = true) (a : Int) : valB (readF3 f ms a) = true := by
  unfold readF3
  rw [hf, hm]
  simp only [Bool.and_self, if_true]
  unfold pickF
  split
  · rename_i x hx
    have h1 := List.mem_of_find?_eq_some hx
    simp only [bufOk, Bool.and_eq_true, List.all_eq_true] at hf
    have h2 := hf.2 x (by simpa using h1)
    simp only [slotOk, Bool.and_eq_true] at h2
    exact h2.2
  · unfold peekF
    split
    · exact valB_getD (memOk_all hm) _
    · rfl
theorem thOk_of {c : Int} {t : Th} {code : List Ins} (h1 : 0 ≤ t.pc ∧ t.pc ≤ code.length) (h2 : t.v.length = 4) (h3 : bufOk t.f = true) (h4 : t.v.all valB = true) (h5 : t.f.all (lowA c) = true) : thOk c t code = true := by
  simp only [thOk, inB_of h1, h2, h3, h4, h5]
  rfl
/-- putting a slot where there is room -/
theorem put_room {f : List P2} {a x : Int} (hf : bufOk f = true) (hl : f.length < 3) (ha : 0 ≤ a ∧ a ≤ 15) (hx : valB x = true) : putF f a x = f ++ [⟨a, x⟩] ∧ bufOk (f ++ [⟨a, x⟩]) = true := by
  have h : bufOk (f ++ [⟨a, x⟩]) = true := by
    simp only [bufOk, Bool.and_eq_true, decide_eq_true_eq, List.length_append, List.all_append] at hf ⊢
    exact ⟨by simp; omega, hf.2, by simp [slotOk, hx, inB_of ha]⟩
  exact ⟨by unfold putF putOk; rw [h]; rfl, h⟩
/-- an instruction that may be carried out leaves memory and thread well -/
theorem eff_ok {c : Int} {t : Th} {code : List Ins} {ms : List Int} {i : Ins} (hc : c ≤ 16) (hi : InsR3 i c code.length) (ht : thOk c t code = true) (hm : memOk ms = true) (h3 : i.o = 3 → t.f.length < 3) :
    memOk (effM ms t i) = true ∧ (effM ms t i).length = ms.length ∧ thOk c (effT ms t i) code = true := by
  obtain ⟨h1, h2, hf, hv, hlo⟩ := thOk_parts ht
  have hpc := inB_true h1
  refine ⟨?_, ?_, ?_⟩
  · unfold effM
    split
    · split
      · exact memOk_set hm _ (valB_gv hv _)
      · exact hm
    · split
      · exact memOk_set hm _ (valB_gv hv _)
      · exact hm
  · unfold effM
    split
    · split <;> simp
    · split <;> simp
  · have key : ∀ x, valB x = true → thOk c { t with v := t.v.set i.r.toNat x } code = true := fun x hx => thOk_of hpc (by simpa using h2) hf (all_set hv hx) hlo
    unfold effT
    split
    · rename_i h0
      exact key _ (inB_of (by have := hi.n0 h0; omega))
    split
    · exact key _ (valB_clamp _)
    split
    · exact key _ (valB_read hf hm _)
    split
    · rename_i h0
      have hn := hi.n2 (by omega)
      have hp := put_room (a := i.n) (x := gv t i.r) hf (h3 h0) (by omega) (valB_gv hv _)
      rw [hp.1]
      refine thOk_of hpc h2 hp.2 hv ?_
      rw [List.all_append, hlo]
      simp [lowA]
      omega
    split
    · exact key _ (by split <;> rfl)
    split
    · rename_i h0
      have hn := hi.n6 h0
      split
      · exact thOk_of hn h2 hf hv hlo
      · exact ht
    split
    · exact key _ (valB_getD (memOk_all hm) _)
    split
    · exact key _ (valB_clamp _)
    · exact ht
theorem drain_ok {c : Int} {t : Th} {code : List Ins} {ms : List Int} (ht : thOk c t code = true) (hm : memOk ms = true) : memOk (drM t.f ms) = true ∧ (drM t.f ms).length = ms.length ∧ thOk c (drainT ms t) code = true := by
  obtain ⟨h1, h2, hf, hv, hlo⟩ := thOk_parts ht
  have hpc := inB_true h1
  refine ⟨?_, ?_, ?_⟩
  · cases hx : t.f with
    | nil => exact hm
    | cons x xs =>
      show memOk (if bufOk (x :: xs) then pokeF ms x.a x.b else ms) = true
      split
      · unfold pokeF
        split
        · rename_i hp
          simp only [pokeOk, Bool.and_eq_true] at hp
          exact memOk_set hm _ hp.2
        · exact hm
      · exact hm
  · exact drM_len _ _
  · refine thOk_of hpc h2 ?_ hv ?_
    · show bufOk (drB t.f ms) = true
      unfold drB
      split
      · cases hx : t.f with
        | nil => rw [hx] at hf; exact hf
        | cons x xs => rw [hx] at hf; exact bufOk_tail hf
      · exact hf
    · show (drB t.f ms).all (lowA c) = true
      unfold drB
      split
      · cases hx : t.f with
        | nil => rfl
        | cons x xs =>
          rw [hx] at hlo
          simp only [List.all_cons, Bool.and_eq_true] at hlo
          exact hlo.2
      · exact hlo
/-- a thread and the memory of a machine that is well are changed -/
theorem mach_set {p : Pr} {M : Ma} {k : Nat} {t' : Th} {code : List Ins} {ms : List Int} (h : machOk p M = true) (hk : k < M.ths.length) (hc : p.x[k]? = some code) (hm : memOk ms = true) (hl : ms.length = M.mem.length) (ht : thOk p.c t' code = true) :
    machOk p ⟨ms, M.ths.set k t'⟩ = true := by
  obtain ⟨h1, h2, h3, h4, h5⟩ := machOk_parts h
  have h6 : ((M.ths.set k t').zip p.x).all (thQ p.c) = true := by
    rw [List.all_eq_true] at h5 ⊢
    rintro ⟨u, c'⟩ hq
    obtain ⟨j, hj⟩ := List.mem_iff_getElem?.1 hq
    rw [List.getElem?_zip_eq_some] at hj
    obtain ⟨hj1, hj2⟩ := hj
    by_cases hjk : k = j
    · subst hjk
      rw [List.getElem?_set_self hk] at hj1
      injection hj1 with hj1
      rw [hc] at hj2
      injection hj2 with hj2
      subst hj1 hj2
      exact ht
    · rw [List.getElem?_set_ne hjk] at hj1
      exact h5 (u, c') (List.mem_of_getElem? (zip_at hj1 hj2))
  simp only [machOk, h1, hm, h6, hl, h3, List.length_set, h4]
  simp
/-- the parts of a move that can be done -/
theorem can_parts {p : Pr} {M : Ma} {m : Mv} (h : canMv p M m = true) : ∃ (k : Nat) (t : Th) (code : List Ins), m.t = k ∧ machOk p M = true ∧ M.ths[k]? = some t ∧ p.x[k]? = some code ∧ canT m.d t code = true := by
  simp only [canMv, Bool.and_eq_true] at h
  obtain ⟨⟨h1, h2⟩, h3⟩ := h
  have hb := inB_true h2
  obtain ⟨-, -, -, h4, -⟩ := machOk_parts h1
  have hk : m.t.toNat < M.ths.length := by omega
  have ht : M.ths[m.t.toNat]? = some M.ths[m.t.toNat] := List.getElem?_eq_getElem hk
  obtain ⟨code, hc⟩ := code_at h4 ht
  refine ⟨m.t.toNat, _, code, by omega, h1, ht, hc, ?_⟩
  unfold canAt at h3
  simpa [List.getD_eq_getElem?_getD, ht, hc] using h3
theorem doAt_eq {p : Pr} {M : Ma} {k : Nat} {d : Bool} {t : Th} {code : List Ins} (ht : M.ths[k]? = some t) (hc : p.x[k]? = some code) : doAt p M ⟨k, d⟩ = if d then drainF M k t else execF M k t code := by
  simp [doAt, List.getD_eq_getElem?_getD, ht, hc]
/-- what is known of a thread that can execute -/
structure Exec (p : Pr) (t : Th) (code : List Ins) (i : Ins) : Prop where
  lt : 0 ≤ t.pc ∧ t.pc < code.length
  at_ : code[t.pc.toNat]? = some i
  r : InsR3 i p.c code.length
  st : i.o = 3 → t.f.length < 3
  fe : fenceB i = true → t.f.length = 0
  step : thOk p.c (stepT t) code = true
theorem exec_of {p : Pr} {M : Ma} {k : Nat} {t : Th} {code : List Ins} (h : machOk p M = true) (ht : M.ths[k]? = some t) (hc : p.x[k]? = some code) (hx : canEx t code = true) : Exec p t code (insAt t code) := by
  have hth := machOk_th h ht hc
  obtain ⟨h1, h2, hf, hv, hlo⟩ := thOk_parts hth
  have hpc := inB_true h1
  unfold canEx at hx
  split at hx
  · cases hx
  rename_i he
  have hne : t.pc ≠ code.length := by
    intro e
    exact he (by simp [endT, e])
  have hlt : 0 ≤ t.pc ∧ t.pc < code.length := by omega
  have hat : code[t.pc.toNat]? = some (insAt t code) := by
    unfold insAt
    rw [List.getD_eq_getElem?_getD, List.getElem?_eq_getElem (by omega)]
    rfl
  refine ⟨hlt, hat, insR3 (ins_ok (code_ok (machOk_parts h).1 hc) hat), fun h3 => ?_, fun hfe => ?_, thOk_of (by show 0 ≤ t.pc + 1 ∧ t.pc + 1 ≤ (code.length : Int); omega) h2 hf hv hlo⟩
  · rw [if_pos h3] at hx
    simpa using hx
  · split at hx
    · rename_i h3
      simp [fenceB, h3] at hfe
    · simpa [hfe] using hx
theorem doAt_ok {p : Pr} {M : Ma} {m : Mv} (h : canMv p M m = true) : machOk p (doAt p M m) = true := by
  obtain ⟨k, t, code, hk, h1, ht, hc, hx⟩ := can_parts h
  obtain ⟨mt, md⟩ := m
  simp only at hk hx
  subst hk
  have hth := machOk_th h1 ht hc
  have hkl := (List.getElem?_eq_some_iff.1 ht).1
  obtain ⟨hp, hm, -, -, -⟩ := machOk_parts h1
  have hpl := progOk_len hp
  rw [doAt_eq ht hc]
  cases md with
  | true =>
    obtain ⟨a, b, c⟩ := drain_ok hth hm
    exact mach_set h1 hkl hc a b c
  | false =>
    have hE := exec_of h1 ht hc hx
    obtain ⟨a, b, c⟩ := eff_ok (by omega) hE.r hE.step hm (fun h3 => hE.st h3)
    exact mach_set h1 hkl hc a b c
theorem doF_len (p : Pr) (M : Ma) (m : Mv) : (doF p M m).ths.length = M.ths.length := by
  unfold doF doAt
  split
  · split
    · simp [drainF]
    · simp [execF, effF]
  · rfl
end Go.Proofs.Ytiflooopfpcelaa
