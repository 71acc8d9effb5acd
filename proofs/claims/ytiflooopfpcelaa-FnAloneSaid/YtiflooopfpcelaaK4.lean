import Derived.Test.YtiflooopfpcelaaV5
/- How great a machine is behind a move. Pure. -/
namespace Go.Proofs.Ytiflooopfpcelaa
set_option maxRecDepth 20000
set_option linter.unusedSimpArgs false
set_option linter.unusedVariables false
theorem sum_tot {ths : List Th} (h : ∀ t ∈ ths, totTh t ≤ 7) : (ths.map totTh).sum ≤ ths.length * 7 := by
  induction ths with
  | nil => simp
  | cons t ts ih =>
    have h1 := h t (by simp)
    have h2 := ih fun u hu => h u (by simp [hu])
    simp only [List.map_cons, List.sum_cons, List.length_cons]
    omega
theorem machOk_tot {p : Pr} {M : Ma} (h : machOk p M = true) : totMa M ≤ 40 := by
  obtain ⟨h1, h2, h3, h4, -⟩ := machOk_parts h
  have h5 := progOk_len h1
  have h6 : ∀ t ∈ M.ths, totTh t ≤ 7 := fun t ht => by
    obtain ⟨k, hk⟩ := List.mem_iff_getElem?.1 ht
    have hkl := (List.getElem?_eq_some_iff.1 hk).1
    obtain ⟨-, h7, h8, -, -⟩ := thOk_parts (machOk_th h hk (List.getElem?_eq_getElem (by omega)))
    simp only [bufOk, Bool.and_eq_true, decide_eq_true_eq] at h8
    have := h8.1
    unfold totTh
    omega
  have h9 := sum_tot h6
  simp only [totMa, totTS]
  omega
theorem doF_tot (p : Pr) (M : Ma) (m : Mv) : totMa (doF p M m) ≤ totMa M + 40 := by
  unfold doF
  split
  · rename_i h
    have := machOk_tot (doAt_ok h)
    omega
  · omega
end Go.Proofs.Ytiflooopfpcelaa

/- A plain step of a machine: a thread's buffer is emptied, an instruction carried out, the buffer emptied again. Pure. -/
namespace Go.Proofs.Ytiflooopfpcelaa
set_option maxRecDepth 20000
set_option linter.unusedSimpArgs false
set_option linter.unusedVariables false
open Go.RowKit
def noBuf (t : Th) : Th := { t with f := [] }
def daM (M : Ma) (k : Nat) (t : Th) : Ma := ⟨daF t.f M.mem, M.ths.set k (noBuf t)⟩
/-- the thread behind the instruction of a plain step -/
def plT (M : Ma) (t : Th) (code : List Ins) : Th := effT (daF t.f M.mem) (stepT (noBuf t)) (insAt (noBuf t) code)
def plE (M : Ma) (k : Nat) (t : Th) (code : List Ins) : Ma := execF (daM M k t) k (noBuf t) code
def plM (M : Ma) (k : Nat) (t : Th) (code : List Ins) : Ma := daM (plE M k t code) k (plT M t code)
/-- StepPlain -/
def spB (p : Pr) (M : Ma) (t : Int) : Bool := machOk p M && inB t 0 (M.ths.length - 1) && !endT (M.ths.getD t.toNat ⟨0, [], []⟩) (p.x.getD t.toNat [])
def spF (p : Pr) (M : Ma) (t : Int) : Ma := if spB p M t then plM M t.toNat (M.ths.getD t.toNat ⟨0, [], []⟩) (p.x.getD t.toNat []) else M
theorem run_some : ∀ {f : List P2} {ms : List Int} {c : Int}, bufOk f = true → memOk ms = true → (ms.length : Int) = c → f.all (lowA c) = true → ∃ ns, runF f ms = some ns ∧ memOk ns = true
  | [], ms, c, _, hm, _, _ => ⟨ms, rfl, hm⟩
  | x :: xs, ms, c, hf, hm, hl, ha => by
    have hx : slotOk x = true := by
      simp only [bufOk, Bool.and_eq_true, List.all_cons] at hf
      exact hf.2.1
    simp only [slotOk, Bool.and_eq_true] at hx
    simp only [List.all_cons, Bool.and_eq_true, lowA, decide_eq_true_eq] at ha
    have h1 := inB_true hx.1
    have hp : pokeOk ms x.a x.b = true := by
      unfold pokeOk
      rw [hm, hx.2, inB_of (by omega)]
      rfl
    have hm2 : memOk (pokeF ms x.a x.b) = true := by
      unfold pokeF
      rw [if_pos hp]
      exact memOk_set hm _ hx.2
    obtain ⟨ns, h2, h3⟩ := run_some (f := xs) (ms := pokeF ms x.a x.b) (c := c) (bufOk_tail hf) hm2 (by rw [pokeF_len]; exact hl) (by simpa [lowA] using ha.2)
    exact ⟨ns, by rw [runF, if_pos hp]; exact h2, h3⟩
theorem daF_some {f : List P2} {ms ns : List Int} (hf : bufOk f = true) (hm : memOk ms = true) (h : runF f ms = some ns) : daF f ms = ns := by
  unfold daF
  rw [hf, hm, h]
  rfl
theorem dr_ok {c : Int} {f : List P2} {ms : List Int} (hf : bufOk f = true) (hm : memOk ms = true) (hl : (ms.length : Int) = c) (ha : f.all (lowA c) = true) (hne : 0 < f.length) : drOk f ms = true := by
  cases h : drOk f ms with
  | true => rfl
  | false =>
    obtain ⟨ns, h1, -⟩ := run_some hf hm hl ha
    rw [dr_false hf h hne] at h1
    cases h1
section
variable {p : Pr} {M : Ma} {k : Nat} {t : Th} {code : List Ins}
theorem daM_at (ht : M.ths[k]? = some t) : (daM M k t).ths[k]? = some (noBuf t) := List.getElem?_set_self (List.getElem?_eq_some_iff.1 ht).1
theorem daM_len : (daM M k t).ths.length = M.ths.length := by simp [daM]
theorem daM_nil (ht : M.ths[k]? = some t) (h : t.f = []) : daM M k t = M := by
  have h1 : noBuf t = t := by unfold noBuf; rw [← h]
  have h2 : daF t.f M.mem = M.mem := by
    rw [h]
    unfold daF
    split <;> rfl
  unfold daM
  rw [h1, h2, set_same ht]
theorem daM_ok (h : machOk p M = true) (ht : M.ths[k]? = some t) (hc : p.x[k]? = some code) : machOk p (daM M k t) = true := by
  obtain ⟨hp, hm, hml, -, -⟩ := machOk_parts h
  obtain ⟨h1, h2, hf, hv, hlo⟩ := thOk_parts (machOk_th h ht hc)
  obtain ⟨ns, h3, h4⟩ := run_some hf hm hml hlo
  refine mach_set h (List.getElem?_eq_some_iff.1 ht).1 hc ?_ (daF_len _ _) (thOk_of (inB_true h1) h2 rfl hv rfl)
  rw [daF_some hf hm h3]
  exact h4
/-- one drain on the way to the empty buffer -/
theorem daM_step (h : machOk p M = true) (ht : M.ths[k]? = some t) (hc : p.x[k]? = some code) (hne : 0 < t.f.length) :
    daM (drainF M k t) k (drainT M.mem t) = daM M k t ∧ (drainF M k t).ths[k]? = some (drainT M.mem t) ∧ (drainT M.mem t).f.length + 1 = t.f.length ∧ canMv p M ⟨k, true⟩ = true ∧ doAt p M ⟨k, true⟩ = drainF M k t := by
  obtain ⟨hp, hm, hml, htl, -⟩ := machOk_parts h
  obtain ⟨h1, h2, hf, hv, hlo⟩ := thOk_parts (machOk_th h ht hc)
  have hkl := (List.getElem?_eq_some_iff.1 ht).1
  have hd := dr_ok hf hm hml hlo hne
  obtain ⟨e1, e2, e3⟩ := dr_true hd
  obtain ⟨ns, h3, h4⟩ := run_some hf hm hml hlo
  obtain ⟨hm2, -, -⟩ := drain_ok (machOk_th h ht hc) hm
  refine ⟨?_, List.getElem?_set_self hkl, e3, ?_, ?_⟩
  · unfold daM drainF
    have e4 : daF (drainT M.mem t).f (drM t.f M.mem) = daF t.f M.mem := by
      rw [daF_some hf hm h3]
      exact daF_some e2 hm2 (by rw [show (drainT M.mem t).f = drB t.f M.mem from rfl, ← e1, h3])
    rw [e4, List.set_set]
    rfl
  · unfold canMv canAt
    rw [h, inB_of (by show (0 : Int) ≤ k ∧ (k : Int) ≤ _; omega)]
    simp [canT, canDr, List.getD_eq_getElem?_getD, ht, hne]
  · rw [doAt_eq ht hc]
    rfl
/-- with an empty buffer every instruction can be carried out -/
theorem noBuf_can (h : machOk p M = true) (ht : M.ths[k]? = some t) (hc : p.x[k]? = some code) (he : t.pc ≠ code.length) :
    canMv p (daM M k t) ⟨k, false⟩ = true ∧ doAt p (daM M k t) ⟨k, false⟩ = plE M k t code ∧ canEx (noBuf t) code = true := by
  have hok := daM_ok h ht hc
  have ht2 := daM_at ht
  obtain ⟨-, -, -, htl, -⟩ := machOk_parts h
  have hkl := (List.getElem?_eq_some_iff.1 ht).1
  have hx : canEx (noBuf t) code = true := by
    unfold canEx
    have : endT (noBuf t) code = false := by simp [endT, noBuf, he]
    rw [this]
    simp only [Bool.false_eq_true, if_false]
    split
    · rfl
    · simp [noBuf]
  refine ⟨?_, ?_, hx⟩
  · unfold canMv canAt
    rw [hok, inB_of (by show (0 : Int) ≤ k ∧ (k : Int) ≤ _; omega)]
    simp [canT, List.getD_eq_getElem?_getD, ht2, hc, hx]
  · rw [doAt_eq ht2 hc]
    rfl
theorem plE_at (ht : M.ths[k]? = some t) : (plE M k t code).ths[k]? = some (plT M t code) := by
  unfold plE execF effF
  exact List.getElem?_set_self (by rw [daM_len]; exact (List.getElem?_eq_some_iff.1 ht).1)
theorem plE_ok (h : machOk p M = true) (ht : M.ths[k]? = some t) (hc : p.x[k]? = some code) (he : t.pc ≠ code.length) : machOk p (plE M k t code) = true := by
  obtain ⟨h1, h2, -⟩ := noBuf_can h ht hc he
  rw [← h2]
  exact doAt_ok h1
theorem plM_ok (h : machOk p M = true) (ht : M.ths[k]? = some t) (hc : p.x[k]? = some code) (he : t.pc ≠ code.length) : machOk p (plM M k t code) = true := daM_ok (plE_ok h ht hc he) (plE_at ht) hc
theorem plM_len : (plM M k t code).ths.length = M.ths.length := by simp [plM, daM, plE, execF, effF]
end
/-- the parts of a plain step that can be done -/
theorem sp_parts {p : Pr} {M : Ma} {t : Int} (h : spB p M t = true) : ∃ (k : Nat) (u : Th) (code : List Ins), t = k ∧ machOk p M = true ∧ M.ths[k]? = some u ∧ p.x[k]? = some code ∧ u.pc ≠ code.length ∧ spF p M t = plM M k u code := by
  have h0 := h
  simp only [spB, Bool.and_eq_true] at h
  obtain ⟨⟨h1, h2⟩, h3⟩ := h
  have hb := inB_true h2
  obtain ⟨-, -, -, h4, -⟩ := machOk_parts h1
  have hk : t.toNat < M.ths.length := by omega
  have ht : M.ths[t.toNat]? = some M.ths[t.toNat] := List.getElem?_eq_getElem hk
  obtain ⟨code, hc⟩ := code_at h4 ht
  refine ⟨t.toNat, _, code, by omega, h1, ht, hc, ?_, ?_⟩
  · simpa [endT, List.getD_eq_getElem?_getD, ht, hc] using h3
  · unfold spF
    rw [h0]
    simp [List.getD_eq_getElem?_getD, ht, hc]
theorem spF_false {p : Pr} {M : Ma} {t : Int} (h : spB p M t = false) : spF p M t = M := by
  unfold spF
  rw [h]
  rfl
theorem spF_len (p : Pr) (M : Ma) (t : Int) : (spF p M t).ths.length = M.ths.length := by
  cases h : spB p M t with
  | false => rw [spF_false h]
  | true =>
    obtain ⟨k, u, code, -, -, -, -, -, e⟩ := sp_parts h
    rw [e, plM_len]
theorem spF_tot (p : Pr) (M : Ma) (t : Int) : totMa (spF p M t) ≤ totMa M + 40 := by
  cases h : spB p M t with
  | false => rw [spF_false h]; omega
  | true =>
    obtain ⟨k, u, code, -, h1, h2, h3, h4, e⟩ := sp_parts h
    have := machOk_tot (plM_ok h1 h2 h3 h4)
    rw [e]
    omega
end Go.Proofs.Ytiflooopfpcelaa

/- A thread whose buffer is emptied first, and one that goes on with its buffer: after an instruction both are the same once their buffers are empty. Pure. -/
namespace Go.Proofs.Ytiflooopfpcelaa
set_option maxRecDepth 20000
set_option linter.unusedSimpArgs false
set_option linter.unusedVariables false
open Go.RowKit
theorem sm_peek_same {xs : List Int} {k : Nat} {v : Int} (h : memOk (xs.set k v) = true) (hk : k < xs.length) : peekF (xs.set k v) k = v := by
  have h1 : inB (k : Int) 0 (xs.length - 1) = true := by simp [inB]; omega
  simp [peekF, h, h1, hk]
theorem sm_peek_other {xs : List Int} {k i : Nat} {v : Int} (h : memOk (xs.set k v) = true) (hi : i < xs.length) (hne : i ≠ k) : peekF (xs.set k v) i = xs.getD i 0 := by
  have h1 : inB (i : Int) 0 (xs.length - 1) = true := by simp [inB]; omega
  simp [peekF, h, h1, List.getElem?_set_ne (Ne.symm hne)]
theorem sm_pokeF_ok {ms : List Int} {a v : Int} (h : pokeOk ms a v = true) : ∃ k : Nat, a = k ∧ k < ms.length ∧ pokeF ms a v = ms.set k v ∧ memOk ms = true ∧ valB v = true := by
  have h' := h
  simp only [pokeOk, Bool.and_eq_true] at h'
  obtain ⟨h1, h2⟩ := inB_true h'.1.2
  obtain ⟨k, rfl⟩ := Int.eq_ofNat_of_zero_le h1
  exact ⟨k, rfl, by omega, by simp [pokeF, h], h'.1.1, h'.2⟩
theorem sm_peekF_at {ms : List Int} (hm : memOk ms = true) {i : Nat} (hi : i < ms.length) : peekF ms i = ms.getD i 0 := by
  have h1 : inB (i : Int) 0 (ms.length - 1) = true := by simp [inB]; omega
  simp [peekF, hm, h1]
theorem sm_peek_poke {ms : List Int} {a v : Int} (h : pokeOk ms a v = true) {i : Nat} (hi : i < ms.length) : peekF (pokeF ms a v) i = if a = (i : Int) then v else peekF ms i := by
  obtain ⟨k, rfl, hk, e, hm, hv⟩ := sm_pokeF_ok h
  have hs := memOk_set hm k hv
  rw [e]
  by_cases hki : k = i
  · subst hki
    rw [if_pos rfl]
    exact sm_peek_same hs hk
  · rw [if_neg (by omega), sm_peek_other hs hi (by omega), sm_peekF_at hm hi]
theorem sm_newest_cons (x : P2) (xs : List P2) (a : Int) : newestF (x :: xs) a = (newestF xs a).or (if x.a == a then some x else none) := by
  unfold newestF
  rw [List.reverse_cons, List.find?_append]
  congr 1
  simp only [List.find?_cons, List.find?_nil]
  cases x.a == a <;> rfl
theorem sm_run_pick : ∀ {xs : List P2} {ms E : List Int}, runF xs ms = some E → ∀ {i : Nat}, i < ms.length → pickF xs ms i = peekF E i
  | [], ms, E, h, i, hi => by
    simp only [runF, Option.some.injEq] at h
    subst h
    rfl
  | x :: xs, ms, E, h, i, hi => by
    unfold runF at h
    split at h
    · rename_i hp
      have h2 := sm_run_pick h (i := i) (by rw [pokeF_len]; exact hi)
      rw [← h2]
      unfold pickF
      rw [sm_newest_cons, sm_peek_poke hp hi]
      cases hn : newestF xs i with
      | some y => rfl
      | none =>
        simp only [Option.none_or]
        by_cases hx : x.a = (i : Int)
        · simp [hx]
        · simp [hx]
    · cases h
theorem run_app : ∀ (xs : List P2) (x : P2) (ms : List Int), runF (xs ++ [x]) ms = (runF xs ms).bind fun ns => if pokeOk ns x.a x.b then some (pokeF ns x.a x.b) else none
  | [], x, ms => by simp [runF]
  | y :: ys, x, ms => by
    simp only [List.cons_append, runF]
    split
    · exact run_app ys x _
    · rfl
section
variable {p : Pr} {M : Ma} {k : Nat} {t : Th} {code : List Ins}
theorem noBuf_noBuf (t : Th) : noBuf (noBuf t) = noBuf t := rfl
theorem insAt_noBuf (t : Th) (code : List Ins) : insAt (noBuf t) code = insAt t code := rfl
theorem daF_nil (ms : List Int) : daF [] ms = ms := by
  unfold daF
  split <;> rfl
theorem plM_of_da (ht : M.ths[k]? = some t) : plM (daM M k t) k (noBuf t) code = daM (execF (daM M k t) k (noBuf t) code) k (effT (daM M k t).mem (stepT (noBuf t)) (insAt t code)) := by
  have h1 : daM (daM M k t) k (noBuf t) = daM M k t := daM_nil (daM_at ht) rfl
  unfold plM plE plT
  rw [h1]
  show daM _ k (effT (daF [] (daM M k t).mem) _ _) = _
  rw [daF_nil]
  rfl
/-- an instruction, with the buffer and with the buffer emptied -/
theorem sim_eff {ms md : List Int} {i : Ins} (hc16 : p.c ≤ 16) (hE : Exec p t code i) (hth : thOk p.c t code = true) (hm : memOk ms = true) (hml : (ms.length : Int) = p.c) (hd : runF t.f ms = some md) (hmd : memOk md = true) (hx : canEx t code = true) (hi : insAt t code = i) :
    noBuf (effT ms (stepT t) i) = noBuf (effT md (stepT (noBuf t)) i) ∧ daF (effT ms (stepT t) i).f (effM ms (stepT t) i) = daF (effT md (stepT (noBuf t)) i).f (effM md (stepT (noBuf t)) i) := by
  obtain ⟨h1, h2, hf, hv, hlo⟩ := thOk_parts hth
  have hdl := runF_len hd
  by_cases hfe : fenceB i = true
  · have h0 : t.f = [] := List.eq_nil_of_length_eq_zero (hE.fe hfe)
    have hn : noBuf t = t := by unfold noBuf; rw [← h0]
    rw [h0] at hd
    have he : ms = md := by simpa [runF] using hd
    subst he
    rw [hn]
    exact ⟨rfl, rfl⟩
  · have hn5 : i.o ≠ 5 := fun e => hfe (by simp [fenceB, e])
    have hn7 : i.o ≠ 7 := fun e => hfe (by simp [fenceB, e])
    have eM : ∀ (ns : List Int) (u : Th), effM ns u i = ns := fun ns u => by unfold effM; rw [if_neg hn5, if_neg hn7]
    rw [eM, eM]
    have hbuf : daF t.f ms = md := daF_some hf hm hd
    by_cases h3 : i.o = 3
    · have hn := hE.r.n2 (by omega)
      have hg : valB (gv t i.r) = true := valB_gv hv _
      have e1 := put_room (a := i.n) (x := gv t i.r) hf (hE.st h3) (by omega) hg
      have e2 := put_room (f := []) (a := i.n) (x := gv t i.r) rfl (by simp) (by omega) hg
      have hT : effT ms (stepT t) i = { stepT t with f := putF t.f i.n (gv t i.r) } := by simp [effT, h3]; rfl
      have hT2 : effT md (stepT (noBuf t)) i = { stepT (noBuf t) with f := putF [] i.n (gv t i.r) } := by simp [effT, h3]; rfl
      rw [hT, hT2]
      refine ⟨rfl, ?_⟩
      simp only
      rw [e1.1, e2.1]
      have hp : pokeOk md i.n (gv t i.r) = true := by
        unfold pokeOk
        rw [hmd, hg, inB_of (by omega)]
        rfl
      have r1 : runF (t.f ++ [⟨i.n, gv t i.r⟩]) ms = some (pokeF md i.n (gv t i.r)) := by rw [run_app, hd]; simp [hp]
      have r2 : runF ([] ++ [⟨i.n, gv t i.r⟩]) md = some (pokeF md i.n (gv t i.r)) := by rw [run_app]; simp [runF, hp]
      rw [daF_some e1.2 hm r1, daF_some e2.2 hmd r2]
    · by_cases h2o : i.o = 2
      · have hn := hE.r.n2 (by omega)
        obtain ⟨a, ha⟩ : ∃ a : Nat, i.n = a := ⟨i.n.toNat, by omega⟩
        have hal : a < ms.length := by omega
        have hq : readF3 t.f ms i.n = readF3 [] md i.n := by
          unfold readF3
          rw [hf, hm, hmd, show bufOk [] = true from rfl]
          simp only [Bool.and_self, if_true]
          rw [ha, sm_run_pick hd hal]
          rfl
        have hT : effT ms (stepT t) i = { stepT t with v := t.v.set i.r.toNat (readF3 t.f ms i.n) } := by simp [effT, h2o]; rfl
        have hT2 : effT md (stepT (noBuf t)) i = { stepT (noBuf t) with v := t.v.set i.r.toNat (readF3 [] md i.n) } := by simp [effT, h2o]; rfl
        rw [hT, hT2, hq]
        refine ⟨rfl, ?_⟩
        show daF t.f ms = daF [] md
        rw [hbuf, daF_nil]
      · have key : ∀ ns : List Int, (effT ns (stepT t) i).f = t.f ∧ (effT ns (stepT (noBuf t)) i).f = [] ∧ noBuf (effT ns (stepT t) i) = noBuf (effT md (stepT (noBuf t)) i) := by
          intro ns
          have ho := hE.r.o
          obtain h0 | h0 | h0 | h0 | h0 : i.o = 0 ∨ i.o = 1 ∨ i.o = 4 ∨ i.o = 6 ∨ i.o = 8 := by omega
          all_goals simp only [effT, h0]
          all_goals first
            | exact ⟨rfl, rfl, rfl⟩
            | (by_cases hz : gv t i.r = 0
               · have hz1 : gv (stepT t) i.r = 0 := hz
                 have hz2 : gv (stepT (noBuf t)) i.r = 0 := hz
                 simp only [hz1, hz2]
                 exact ⟨rfl, rfl, rfl⟩
               · have hz1 : ¬ gv (stepT t) i.r = 0 := hz
                 have hz2 : ¬ gv (stepT (noBuf t)) i.r = 0 := hz
                 simp only [hz1, hz2]
                 exact ⟨rfl, rfl, rfl⟩)
        refine ⟨(key ms).2.2, ?_⟩
        rw [(key ms).1, (key md).2.1, hbuf, daF_nil]
/-- a step of the machine with buffers, seen by the plain one -/
theorem sim_exec (h : machOk p M = true) (ht : M.ths[k]? = some t) (hc : p.x[k]? = some code) (hx : canEx t code = true) :
    daM (execF M k t code) k (effT M.mem (stepT t) (insAt t code)) = plM (daM M k t) k (noBuf t) code := by
  obtain ⟨hp, hm, hml, -, -⟩ := machOk_parts h
  have hth := machOk_th h ht hc
  obtain ⟨-, -, hf, -, hlo⟩ := thOk_parts hth
  obtain ⟨md, hd, hmd⟩ := run_some hf hm hml hlo
  have hc16 : p.c ≤ 16 := by have := progOk_len hp; omega
  have hdm : (daM M k t).mem = md := daF_some hf hm hd
  obtain ⟨s1, s2⟩ := sim_eff hc16 (exec_of h ht hc hx) hth hm hml hd hmd hx rfl
  rw [plM_of_da ht, hdm]
  have hkl := (List.getElem?_eq_some_iff.1 ht).1
  unfold daM execF effF
  have hdf : daF t.f M.mem = md := daF_some hf hm hd
  simp only [List.set_set, insAt_noBuf, hdf]
  rw [s2, s1]
end
end Go.Proofs.Ytiflooopfpcelaa
