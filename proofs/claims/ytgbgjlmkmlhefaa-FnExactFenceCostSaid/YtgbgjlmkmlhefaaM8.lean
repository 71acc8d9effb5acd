/- Contracts of the laws' helpers that mark programs. Condition: at most 16777216 instructions. -/
import Derived.Test.YtgbgjlmkmlhefaaM3b
namespace Go.Proofs.Ytgbgjlmkmlhefaa
set_option maxRecDepth 20000
set_option linter.unusedSimpArgs false
set_option linter.unusedVariables false
open Go.ChangeShapes Go.WideShapes Go.ChangeAt Go.RowKit
def mk4 (n : Nat) (m : Int) : List Ins := (List.range n).map fun j : Nat => ⟨m + (j * 4 : Nat), m + (j * 4 + 1 : Nat), m + (j * 4 + 2 : Nat), m + (j * 4 + 3 : Nat)⟩
theorem mk4_len (n : Nat) (m : Int) : (mk4 n m).length = n := by simp [mk4]
theorem flc_mk4 (n : Nat) (m : Int) : flc (mk4 n m) = ints (marked (n * 4) m) := by
  unfold flc
  congr 1
  induction n with
  | zero => rfl
  | succ n ih =>
    have h1 : mk4 (n + 1) m = mk4 n m ++ [⟨m + (n * 4 : Nat), m + (n * 4 + 1 : Nat), m + (n * 4 + 2 : Nat), m + (n * 4 + 3 : Nat)⟩] := by simp only [mk4, List.range_succ, List.map_append, List.map_cons, List.map_nil]
    have h2 : marked ((n + 1) * 4) m = marked (n * 4) m ++ [m + (n * 4 : Nat), m + (n * 4 + 1 : Nat), m + (n * 4 + 2 : Nat), m + (n * 4 + 3 : Nat)] := by
      rw [show (n + 1) * 4 = n * 4 + 1 + 1 + 1 + 1 from by omega]
      simp only [marked, List.range_succ, List.map_append, List.map_cons, List.map_nil, List.append_assoc, List.cons_append, List.nil_append]
    rw [h1, h2, fl_append, ih]
    rfl
def cntSS (xss : List (List Ins)) : Nat := (xss.map fun xs => xs.length * 4).sum
def mkSS : List (List Ins) → Int → List (List Ins)
  | [], _ => []
  | xs :: xss, m => mk4 xs.length m :: mkSS xss (m + (xs.length * 4 : Nat))
theorem mkSS_len : ∀ (xss : List (List Ins)) (m : Int), (mkSS xss m).length = xss.length
  | [], _ => rfl
  | t :: ts, m => by simp [mkSS, mkSS_len ts]
theorem mkSS_snoc : ∀ (xss : List (List Ins)) (xs : List Ins) (m : Int), mkSS (xss ++ [xs]) m = mkSS xss m ++ [mk4 xs.length (m + cntSS xss)]
  | [], t, m => by simp [mkSS, cntSS]
  | x :: ts, t, m => by
    rw [List.cons_append, mkSS, mkSS_snoc ts t, mkSS, List.cons_append, show m + ((x.length * 4 : Nat) : Int) + (cntSS ts : Int) = m + (cntSS (x :: ts) : Int) from by simp [cntSS]; omega]
def mkSAt (xss : List (List Ins)) (m : Int) (k : Nat) : List (List Ins) := mkSS (xss.take k) m ++ xss.drop k
theorem mkSAt_len (xss : List (List Ins)) (m : Int) (k : Nat) : (mkSAt xss m k).length = xss.length := by
  simp only [mkSAt, List.length_append, mkSS_len, List.length_take, List.length_drop]
  omega
theorem mkSAt_at {xss : List (List Ins)} {m : Int} {k : Nat} {t : List Ins} (h : xss[k]? = some t) : (mkSAt xss m k)[k]? = some t := by
  obtain ⟨hk, rfl⟩ := List.getElem?_eq_some_iff.1 h
  have hl : (mkSS (xss.take k) m).length = k := by rw [mkSS_len, List.length_take]; omega
  unfold mkSAt
  rw [List.getElem?_append_right (by omega), hl, Nat.sub_self]
  simp
theorem mkSAt_next {xss : List (List Ins)} {m : Int} {k : Nat} {t : List Ins} (h : xss[k]? = some t) : (mkSAt xss m k).set k (mk4 t.length (m + cntSS (xss.take k))) = mkSAt xss m (k + 1) := by
  obtain ⟨hk, rfl⟩ := List.getElem?_eq_some_iff.1 h
  have hl : (mkSS (xss.take k) m).length = k := by rw [mkSS_len, List.length_take]; omega
  unfold mkSAt
  rw [List.set_append, if_neg (by omega), hl, Nat.sub_self, List.drop_eq_getElem_cons hk, List.set_cons_zero, List.take_add_one, List.getElem?_eq_getElem hk, Option.toList_some, mkSS_snoc, List.append_assoc]
  rfl
theorem cntSS_take {xss : List (List Ins)} {k : Nat} {t : List Ins} (h : xss[k]? = some t) : cntSS (xss.take (k + 1)) = cntSS (xss.take k) + t.length * 4 := by
  rw [List.take_add_one, h]
  simp [cntSS]
theorem cntSS_le : ∀ (xss : List (List Ins)) (k : Nat), cntSS (xss.take k) ≤ 4 * totSS xss
  | [], k => by simp [cntSS]
  | t :: ts, 0 => by simp [cntSS]
  | t :: ts, k + 1 => by
    have := cntSS_le ts k
    simp only [cntSS, totSS, List.take_succ_cons, List.map_cons, List.sum_cons, List.length_cons] at this ⊢
    omega
theorem cntSS_all (xss : List (List Ins)) : cntSS xss ≤ 4 * totSS xss := by
  have := cntSS_le xss xss.length
  rwa [List.take_length] at this
theorem InSS.upd {w w' : World} {ys : List Ins} {c : Value} {xs : List Ins} {b : List Nat} (ho : Only b w w') (hn : Own w' c 4 ys.length (flc ys) b) : ∀ {vs : List Value} {xss : List (List Ins)} {bss : List (List Nat)} {k : Nat}, InSS w vs xss bss → vs[k]? = some c → xss[k]? = some xs → bss[k]? = some b →
    InSS w' vs (xss.set k ys) bss
  | [], _, _, k, _, h, _, _ => by simp at h
  | _ :: _, [], _, k, _, _, h, _ => by simp at h
  | _ :: _, _ :: _, [], k, _, _, _, h => by simp at h
  | c0 :: vs, x0 :: xss, b0 :: bss, 0, h, h1, h2, h3 => by
    simp only [List.getElem?_cons_zero, Option.some.injEq] at h1 h2 h3
    subst h1 h2 h3
    exact ⟨hn, h.2.1, InSS.of_blocks ho.size h.2.2 fun y hy => ho.block y (InSS.lt h.2.2 y hy) fun hm => by have := h.2.1 y hm y hy; omega⟩
  | c0 :: vs, x0 :: xss, b0 :: bss, k + 1, h, h1, h2, h3 => by
    have hb : ∀ y ∈ b, y ∈ bss.flatten := fun y hy => List.mem_flatten.2 ⟨b, List.mem_of_getElem? (by simpa using h3), hy⟩
    exact ⟨h.1.only ho fun y hy hm => by have := h.2.1 y hy y (hb y hm); omega, h.2.1, InSS.upd ho hn h.2.2 (by simpa using h1) (by simpa using h2) (by simpa using h3)⟩
theorem InSS.get {w : World} : ∀ {vs : List Value} {xss : List (List Ins)} {bss : List (List Nat)} {k : Nat} {xs : List Ins}, InSS w vs xss bss → xss[k]? = some xs → ∃ c b, vs[k]? = some c ∧ bss[k]? = some b ∧ Own w c 4 xs.length (flc xs) b
  | [], [], _, k, xs, _, h => by simp at h
  | [], _ :: _, _, k, xs, h, _ => h.elim
  | _ :: _, [], _, k, xs, _, h => by simp at h
  | _ :: _, _ :: _, [], k, xs, h, _ => h.elim
  | c0 :: vs, x0 :: xss, b0 :: bss, 0, xs, h, h2 => by
    simp only [List.getElem?_cons_zero, Option.some.injEq] at h2
    subst h2
    exact ⟨c0, b0, rfl, rfl, h.1⟩
  | c0 :: vs, x0 :: xss, b0 :: bss, k + 1, xs, h, h2 => by
    obtain ⟨c, b, h3, h4, h5⟩ := InSS.get h.2.2 (by simpa using h2)
    exact ⟨c, b, by simpa using h3, by simpa using h4, h5⟩
set_option maxHeartbeats 1600000 in
theorem markInstrSS (v : Value) (xss : List (List Ins)) (bs : List Nat) (m : Int) (w : World) (h : OwnSS w v xss bs) (hsz : totSS xss ≤ 16777216) (hm0 : 0 ≤ m) (hm : m ≤ 1090921693184) :
    Calls Try.prog 57 #[v, .int .i64 m] w fun e w' => e = .returned (.int .i64 (m + cntSS xss)) ∧ OwnSS w' v (mkSS xss m) bs ∧ Only bs w w' := by
  obtain ⟨vs, b0, bss, hR, hI, rfl, hord⟩ := h
  obtain ⟨A, c, rfl, hnc, hc⟩ := hR.slice
  have hn : xss.length ≤ 16777216 := by unfold totSS at hsz; omega
  obtain ⟨bs, hbs⟩ : ∃ bs, bs = b0 ++ bss.flatten := ⟨_, rfl⟩
  have HBB := Lib.hid hbs
  rw [← hbs]
  clear hbs
  have HR := Lib.hid hR
  have hdis : ∀ x ∈ b0, x ∉ bss.flatten := fun x hx hm => by have := hord x hx x hm; omega
  have HORD := Lib.hid hord
  have HD := Lib.hid hdis
  clear hord hdis
  go_enter Try.func57, Try.ntmps57
  go_wp2
  go_loopw [1, 5] (fun mm i wr => ∃ k : Nat, k ≤ xss.length ∧ i = .int .i64 k ∧ mm = .int .i64 (m + cntSS (xss.take k)) ∧ InSS wr vs (mkSAt xss m k) bss ∧ Own wr (.slice A xss.length c) 1 xss.length vs b0 ∧ Only bs w wr) (fun _ i _ => xss.length - (intOf i).toNat)
  case atStart => exact ⟨0, Nat.zero_le _, rfl, by simp [cntSS], hI, hR, Only.refl _ _⟩
  case round =>
    obtain ⟨k, hk, rfl, rfl, hJ, hS, hOn⟩ := hrel
    clear hI hR
    by_cases hlt : k < xss.length
    · have hx : xss[k]? = some xss[k] := List.getElem?_eq_getElem hlt
      generalize xss[k] = xs at hx
      have ht := mkSAt_at (m := m) hx
      obtain ⟨ck, bk, hck, hbk, hown⟩ := hJ.get ht
      obtain ⟨b, o, c', he, hb0, -, hat, -, -⟩ := hS.open_ (by omega)
      injection he with h1 _ h3
      subst h1 h3
      obtain ⟨hc0, hf0⟩ := hat k _ hck
      have hsub := totSS_mem (List.mem_of_getElem? hx)
      have hcl := cntSS_le xss k
      obtain ⟨Ak, dk, rfl, -, -⟩ := hown.slice
      have HX := Lib.hid hx
      have hct := cntSS_take hx
      obtain ⟨M, hM⟩ : ∃ M : Int, M = m + cntSS (xss.take k) := ⟨_, rfl⟩
      have hMb : 0 ≤ M ∧ M ≤ 1099000000000 := by omega
      have HCT : Hid (m + (cntSS (xss.take (k + 1)) : Int) = M + xs.length * 4) := Lib.hid (by omega)
      have HM := Lib.hid hM
      rw [← hM]
      clear hx hat hcl hM hct
      go_wp2_with fail
      refine (markInstrS _ (fl xs) xs.length bk M _ hown (by omega) (by omega) (by omega)).mono ?_
      rintro e w1 ⟨rfl, ho1, hon1⟩
      have hin : ∀ y ∈ bk, y ∈ bss.flatten := fun y hy => List.mem_flatten.2 ⟨bk, List.mem_of_getElem? hbk, hy⟩
      have hJ2 := InSS.upd (ys := mk4 xs.length M) hon1 (by rw [mk4_len, flc_mk4]; exact ho1) hJ hck ht hbk
      rw [HM.out, mkSAt_next HX.out] at hJ2
      have hS2 := hS.only hon1 fun y hy hm => HD.out y hy (hin y hm)
      have hOn2 := hOn.trans (hon1.mono (bs' := bs) fun y hy => by rw [HBB.out]; exact List.mem_append.2 (.inr (hin y hy)))
      clear hJ hS hOn hown ho1 hon1 hin
      go_wp2_with fail
      exact ⟨⟨k + 1, by omega, by go_num, by rw [HCT.out], hJ2, hS2, hOn2⟩, by simp [intOf]; omega⟩
    · obtain rfl : k = xss.length := by omega
      rw [List.take_length]
      go_wp2_with fail
      go_ret
      unfold mkSAt at hJ
      rw [List.take_length, List.drop_length, List.append_nil] at hJ
      exact ⟨rfl, ⟨vs, b0, bss, by rw [mkSS_len]; exact hS, hJ, HBB.out, HORD.out⟩, hOn⟩
def mkPr (p : Pr) (m : Int) : Pr := ⟨p.c, mkSS p.x m⟩
set_option maxHeartbeats 800000 in
theorem markProg (v : Value) (p : Pr) (bs : List Nat) (m : Int) (w : World) (h : OwnSS w v p.x bs) (hsz : totSS p.x ≤ 16777216) (hm0 : 0 ≤ m) (hm : m ≤ 1090921693184) :
    Calls Try.prog 21 #[.agg #[.int .i64 p.c, v], .int .i64 m] w fun e w' => e = .returned (.int .i64 (m + cntSS p.x)) ∧ OwnSS w' v (mkPr p m).x bs ∧ Only bs w w' := by
  obtain ⟨A, c, rfl, hnc, hc⟩ := h.slice
  have hB := (Below.refl w.heap.size w).alloc (Nat.le_refl _) (.cells #[.int .i64 p.c, .slice A p.x.length c] 33)
  have h1 := h.below hB
  have HB := Lib.hid hB
  clear hB
  go_enter Try.func21, Try.ntmps21
  go_wp2_with fail
  refine (markInstrSS _ p.x bs m _ h1 hsz hm0 hm).mono ?_
  rintro e w1 ⟨rfl, ho1, hon1⟩
  go_wp2_with fail
  go_ret
  exact ⟨rfl, ho1, (Only.of_below HB.out bs).trans hon1⟩
theorem mkSS_at : ∀ {xss : List (List Ins)} {m : Int} {k : Nat} {xs : List Ins}, xss[k]? = some xs → (mkSS xss m)[k]? = some (mk4 xs.length (m + cntSS (xss.take k)))
  | [], m, k, xs, h => by simp at h
  | x :: xss, m, 0, xs, h => by
    simp only [List.getElem?_cons_zero, Option.some.injEq] at h
    subst h
    simp [mkSS, cntSS]
  | x :: xss, m, k + 1, xs, h => by
    have := mkSS_at (m := m + (x.length * 4 : Nat)) (k := k) (xs := xs) (by simpa using h)
    rw [mkSS, List.getElem?_cons_succ, this]
    rw [List.take_succ_cons, show m + ((x.length * 4 : Nat) : Int) + (cntSS (xss.take k) : Int) = m + (cntSS (x :: xss.take k) : Int) from by simp [cntSS]; omega]
set_option maxHeartbeats 1600000 in
theorem heldInstrSS (v : Value) (xss : List (List Ins)) (m : Int) (w : World) (h : RdSS w v (mkSS xss m)) (hsz : totSS xss ≤ 16777216) (hm0 : 0 ≤ m) (hm : m ≤ 1090921693184) :
    Calls Try.prog 58 #[v, .int .i64 m] w fun e w' => e = .returned (.int .i64 (m + cntSS xss)) ∧ Below w.heap.size w w' := by
  obtain ⟨vs, ⟨A, c, rfl, -, hnc, hc, hr⟩, hin⟩ := h
  unfold maxLen at hc
  rw [mkSS_len] at hnc hr ⊢
  have hn : xss.length ≤ 16777216 := by unfold totSS at hsz; omega
  go_enter Try.func58, Try.ntmps58
  go_wp2
  go_loopw [1, 5] (fun mm i wr => ∃ k : Nat, k ≤ xss.length ∧ i = .int .i64 k ∧ mm = .int .i64 (m + cntSS (xss.take k)) ∧ Below w.heap.size w wr) (fun _ i _ => xss.length - (intOf i).toNat)
  case atStart => exact ⟨0, Nat.zero_le _, rfl, by simp [cntSS], Below.refl _ _⟩
  case round =>
    obtain ⟨k, hk, rfl, rfl, hB⟩ := hrel
    by_cases hlt : k < xss.length
    · have hx : xss[k]? = some xss[k] := List.getElem?_eq_getElem hlt
      generalize xss[k] = xs at hx
      obtain ⟨b, o, rfl, hb, hcell⟩ := hr (by omega)
      obtain ⟨ck, hck, hrk⟩ := hin.at_ (mkSS_at (m := m) hx)
      have hx0 := (hB.cell (p := ⟨b, o + k, none⟩) hb).trans (hcell k _ hck)
      have hsub := totSS_mem (List.mem_of_getElem? hx)
      have hcl := cntSS_le xss k
      have hct := cntSS_take hx
      obtain ⟨M, hM⟩ : ∃ M : Int, M = m + cntSS (xss.take k) := ⟨_, rfl⟩
      have hMb : 0 ≤ M ∧ M ≤ 1099000000000 := by omega
      have HCT : Hid (m + (cntSS (xss.take (k + 1)) : Int) = M + xs.length * 4) := Lib.hid (by omega)
      rw [← hM] at hrk ⊢
      rw [mk4_len, flc_mk4] at hrk
      have hrk' := hrk.below hB
      obtain ⟨Ak, dk, rfl, -, -, -, -⟩ := id hrk'
      clear hx hcl hM hct hcell hr hin hrk hck
      go_wp2_with fail
      refine (heldInstrSB _ xs.length M _ hrk' (by omega) (by omega) (by omega)).mono ?_
      rintro e w1 ⟨rfl, hb1⟩
      go_wp2_with fail
      exact ⟨⟨k + 1, by omega, by go_num, by rw [HCT.out], hB.trans (hb1.mono hB.size)⟩, by simp [intOf]; omega⟩
    · obtain rfl : k = xss.length := by omega
      rw [List.take_length]
      go_wp2_with fail
      go_ret
      exact ⟨rfl, hB⟩
set_option maxHeartbeats 800000 in
theorem heldProg (v : Value) (p : Pr) (m : Int) (w : World) (h : RdSS w v (mkPr p m).x) (hsz : totSS p.x ≤ 16777216) (hm0 : 0 ≤ m) (hm : m ≤ 1073741824) :
    Calls Try.prog 23 #[.agg #[.int .i64 p.c, v], .int .i64 m] w fun e w' => e = .returned (.int .i64 (m + cntSS p.x)) ∧ Below w.heap.size w w' := by
  obtain ⟨vs, ⟨A, c, rfl, hx1, hx2, hx3, hx4⟩, hin⟩ := h
  have h' : RdSS w (.slice A (mkPr p m).x.length c) (mkSS p.x m) := ⟨vs, ⟨A, c, rfl, hx1, hx2, hx3, hx4⟩, hin⟩
  have hB := (Below.refl w.heap.size w).alloc (Nat.le_refl _) (.cells #[.int .i64 p.c, .slice A (mkPr p m).x.length c] 33)
  have h1 := h'.below hB
  have hc := cntSS_all p.x
  have HB := Lib.hid hB
  clear hB hx1 hx2 hx3 hx4 hin h'
  go_enter Try.func23, Try.ntmps23
  go_wp2_with fail
  refine (heldInstrSS _ p.x m _ h1 hsz hm0 (by omega)).mono ?_
  rintro e w1 ⟨rfl, hb1⟩
  go_wp2_with fail
  go_ret
  exact ⟨rfl, HB.out.trans (hb1.mono HB.out.size)⟩
end Go.Proofs.Ytgbgjlmkmlhefaa
