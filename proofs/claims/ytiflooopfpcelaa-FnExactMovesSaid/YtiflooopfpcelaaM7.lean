/- Contracts of the laws' helpers that mark threads and machines and look the marks up. Condition: at most 16777216 values. -/
import Derived.Test.YtiflooopfpcelaaM6
namespace Go.Proofs.Ytiflooopfpcelaa
set_option maxRecDepth 20000
set_option linter.unusedSimpArgs false
set_option linter.unusedVariables false
open Go.ChangeShapes Go.WideShapes Go.ChangeAt Go.RowKit
def mk2 (n : Nat) (m : Int) : List P2 := (List.range n).map fun j : Nat => ⟨m + (j * 2 : Nat), m + (j * 2 + 1 : Nat)⟩
theorem mk2_len (n : Nat) (m : Int) : (mk2 n m).length = n := by simp [mk2]
theorem fl2_mk2 (n : Nat) (m : Int) : fl2 (mk2 n m) = marked (n * 2) m := by
  induction n with
  | zero => rfl
  | succ n ih =>
    have h1 : mk2 (n + 1) m = mk2 n m ++ [⟨m + (n * 2 : Nat), m + (n * 2 + 1 : Nat)⟩] := by simp only [mk2, List.range_succ, List.map_append, List.map_cons, List.map_nil]
    have h2 : marked ((n + 1) * 2) m = marked (n * 2) m ++ [m + (n * 2 : Nat), m + (n * 2 + 1 : Nat)] := by
      rw [show (n + 1) * 2 = n * 2 + 1 + 1 from by omega]
      simp only [marked, List.range_succ, List.map_append, List.map_cons, List.map_nil, List.append_assoc, List.cons_append, List.nil_append]
    rw [h1, h2, fl2_append, ih]
    rfl
theorem flc2_mk2 (n : Nat) (m : Int) : flc2 (mk2 n m) = ints (marked (n * 2) m) := by unfold flc2; rw [fl2_mk2]
def mkTh (t : Th) (m : Int) : Th := ⟨m, marked t.v.length (m + 1), mk2 t.f.length (m + 1 + t.v.length)⟩
def cntTh (t : Th) : Nat := 1 + t.v.length + t.f.length * 2
def cntTS (ths : List Th) : Nat := (ths.map cntTh).sum
def mkTS : List Th → Int → List Th
  | [], _ => []
  | t :: ts, m => mkTh t m :: mkTS ts (m + cntTh t)
theorem mkTS_len : ∀ (ths : List Th) (m : Int), (mkTS ths m).length = ths.length
  | [], _ => rfl
  | t :: ts, m => by simp [mkTS, mkTS_len ts]
theorem mkTS_snoc : ∀ (ths : List Th) (t : Th) (m : Int), mkTS (ths ++ [t]) m = mkTS ths m ++ [mkTh t (m + cntTS ths)]
  | [], t, m => by simp [mkTS, cntTS]
  | x :: ts, t, m => by
    rw [List.cons_append, mkTS, mkTS_snoc ts t, mkTS, List.cons_append, show m + (cntTh x : Int) + (cntTS ts : Int) = m + (cntTS (x :: ts) : Int) from by simp [cntTS]; omega]
def mkAt (ths : List Th) (m : Int) (k : Nat) : List Th := mkTS (ths.take k) m ++ ths.drop k
theorem mkAt_len (ths : List Th) (m : Int) (k : Nat) : (mkAt ths m k).length = ths.length := by
  simp only [mkAt, List.length_append, mkTS_len, List.length_take, List.length_drop]
  omega
theorem mkAt_zero (ths : List Th) (m : Int) : mkAt ths m 0 = ths := rfl
theorem mkAt_all (ths : List Th) (m : Int) : mkAt ths m ths.length = mkTS ths m := by simp [mkAt]
theorem mkAt_at {ths : List Th} {m : Int} {k : Nat} {t : Th} (h : ths[k]? = some t) : (mkAt ths m k)[k]? = some t := by
  obtain ⟨hk, rfl⟩ := List.getElem?_eq_some_iff.1 h
  have hl : (mkTS (ths.take k) m).length = k := by rw [mkTS_len, List.length_take]; omega
  unfold mkAt
  rw [List.getElem?_append_right (by omega), hl, Nat.sub_self]
  simp
theorem mkAt_next {ths : List Th} {m : Int} {k : Nat} {t : Th} (h : ths[k]? = some t) : (mkAt ths m k).set k (mkTh t (m + cntTS (ths.take k))) = mkAt ths m (k + 1) := by
  obtain ⟨hk, rfl⟩ := List.getElem?_eq_some_iff.1 h
  have hl : (mkTS (ths.take k) m).length = k := by rw [mkTS_len, List.length_take]; omega
  unfold mkAt
  rw [List.set_append, if_neg (by omega), hl, Nat.sub_self, List.drop_eq_getElem_cons hk, List.set_cons_zero, take_succ_at h, mkTS_snoc, List.append_assoc]
  rfl
theorem cntTS_take {ths : List Th} {k : Nat} {t : Th} (h : ths[k]? = some t) : cntTS (ths.take (k + 1)) = cntTS (ths.take k) + cntTh t := by
  rw [take_succ_at h]
  simp [cntTS]
theorem cntTS_le : ∀ (ths : List Th), cntTS ths ≤ 2 * totTS ths
  | [] => by simp [cntTS]
  | t :: ts => by
    have := cntTS_le ts
    simp only [cntTS, totTS, List.map_cons, List.sum_cons, List.length_cons, cntTh, totTh] at this ⊢
    omega
theorem totTS_take_le (ths : List Th) (k : Nat) : totTS (ths.take k) ≤ totTS ths := by
  have := totTS_sub ths k
  have h : (ths.take k).length ≤ ths.length := by rw [List.length_take]; omega
  simp only [totTS] at this ⊢
  omega
def mkMa (M : Ma) (m : Int) : Ma := ⟨marked M.mem.length m, mkTS M.ths (m + M.mem.length)⟩
def cntMa (M : Ma) : Nat := M.mem.length + cntTS M.ths
theorem cntMa_le (M : Ma) : cntMa M ≤ 2 * totMa M := by
  have := cntTS_le M.ths
  unfold cntMa totMa
  omega
theorem Own.cells_ {w : World} {b o n c s : Nat} {cs : List Value} {bs : List Nat} (h : Own w (.slice (some ⟨b, o, none⟩) n c) s n cs bs) (hn : 0 < n) : At w b o cs := by
  obtain ⟨b', o', c', he, -, -, hat, -⟩ := h.open_ hn
  injection he with h1
  injection h1 with h1
  injection h1 with h1 h2
  subst h1 h2
  exact hat
set_option maxHeartbeats 1600000 in
theorem markThreadS (v : Value) (ths : List Th) (bs : List Nat) (m : Int) (w : World) (h : OwnTS w v ths bs) (hsz : totTS ths ≤ 16777216) (hm0 : 0 ≤ m) (hm : m ≤ 1090921693184) :
    Calls Try.prog 68 #[v, .int .i64 m] w fun e w' => e = .returned (.int .i64 (m + cntTS ths)) ∧ OwnTS w' v (mkTS ths m) bs ∧ Only bs w w' := by
  obtain ⟨vs, qs, bt, hv, hq, hO, rfl⟩ := h
  have hT : OwnT w v ths vs qs bt := ⟨hv, hq, hO⟩
  have HBS := Lib.hid (show ∀ b ∈ blks (⟨v, 3, ths.length, thCs ths vs, bt⟩ :: thRows ths vs qs), b ∈ blks (⟨v, 3, ths.length, thCs ths vs, bt⟩ :: thRows ths vs qs) from fun _ h => h)
  obtain ⟨bs, hbs⟩ : ∃ bs, bs = blks (⟨v, 3, ths.length, thCs ths vs, bt⟩ :: thRows ths vs qs) := ⟨_, rfl⟩
  have HBB := Lib.hid hbs
  rw [← hbs]
  clear hbs HBS hO
  obtain ⟨A, c, rfl, hnc, hc⟩ := hT.row.slice
  have hn : ths.length ≤ 16777216 := by unfold totTS at hsz; omega
  by_cases h0 : ths.length = 0
  · have hx : ths = [] := List.eq_nil_of_length_eq_zero h0
    subst hx
    go_enter Try.func68, Try.ntmps68
    go_wp2
    go_loop [1, 5] (fun mm i => i = .int .i64 0 ∧ mm = .int .i64 m) (fun _ _ => 0)
    case atStart => exact ⟨rfl, rfl⟩
    case round =>
      obtain ⟨rfl, rfl⟩ := hrel
      go_wp2
      go_ret
      refine ⟨ret_int (by simp [cntTS]), ?_, Only.refl _ _⟩
      rw [HBB.out]
      exact hT.toTS
  · obtain ⟨b, o, c', he, rfl, -, -, -, -⟩ := hT.row.open_ (by omega)
    injection he with h1 _ h3
    subst h1 h3
    go_enter Try.func68, Try.ntmps68
    go_wp2
    go_loopw [1, 5] (fun mm i wr => ∃ k : Nat, k ≤ ths.length ∧ i = .int .i64 k ∧ mm = .int .i64 (m + cntTS (ths.take k)) ∧ OwnT wr (.slice (some ⟨b, o, none⟩) ths.length c) (mkAt ths m k) vs qs [b] ∧ Only bs w wr) (fun _ i _ => ths.length - (intOf i).toNat)
    case atStart => exact ⟨0, Nat.zero_le _, rfl, by simp [cntTS], hT, Only.refl _ _⟩
    case round =>
      obtain ⟨k, hk, rfl, rfl, hA, hOn⟩ := hrel
      clear hT
      by_cases hlt : k < ths.length
      · have hx : ths[k]? = some ths[k] := List.getElem?_eq_getElem hlt
        generalize ths[k] = t at hx
        have hml := mkAt_len ths m k
        have ht := mkAt_at (m := m) hx
        obtain ⟨a, f, qa, qb, hp, hq⟩ := hA.get ht
        have HX := Lib.hid hx
        have hc2 := cntTS_le (ths.take k)
        have hc3 := totTS_take_le ths k
        have hc4 := totTS_mem hx
        have hvl : t.v.length ≤ 16777216 ∧ t.f.length ≤ 16777216 := by unfold totTh at hc4; omega
        obtain ⟨M, hM⟩ : ∃ M : Int, M = m + cntTS (ths.take k) := ⟨_, rfl⟩
        have hMb : 0 ≤ M ∧ M ≤ 1099000000000 := by omega
        have HM := Lib.hid hM
        rw [← hM]
        clear hx hc2 hc3 hc4 hM
        -- the counter
        have hat := (show Own wr (.slice (some ⟨b, o, none⟩) ths.length c) 3 ths.length (thCs (mkAt ths m k) vs) [b] from hml ▸ hA.row).cells_ (by omega)
        obtain ⟨hc0, hf0⟩ := hat (k * 3 + 0) _ (thCs_at ht hp 0 (by omega))
        rw [Nat.add_zero] at hc0 hf0
        obtain ⟨hA1, -⟩ := hA.pc ht M
        have ht1 : ((mkAt ths m k).set k { t with pc := M })[k]? = some { t with pc := M } := by rw [List.getElem?_set_self (by omega)]
        have hl1 : ((mkAt ths m k).set k { t with pc := M }).length = ths.length := by rw [List.length_set, hml]
        have hat1 := (show Own _ (.slice (some ⟨b, o, none⟩) ths.length c) 3 ths.length (thCs ((mkAt ths m k).set k { t with pc := M }) vs) [b] from hl1 ▸ hA1.row).cells_ (by omega)
        have hob := hOn.trans (Only.mono (Only.setCell (b := b) (i := o + k * 3) wr (.int .i64 M)) (bs' := bs) fun x hx => by rw [HBB.out, blks_cons]; exact List.mem_append.2 (.inl hx))
        obtain ⟨Av, cv, rfl, -, -⟩ := (hA1.vals ht1 hp hq).slice
        obtain ⟨Af, cf, rfl, -, -⟩ := (hA1.buf ht1 hp hq).slice
        obtain ⟨hcv, -⟩ := hat1 (k * 3 + 1) _ (thCs_at ht1 hp 1 (by omega))
        rw [← Nat.add_assoc] at hcv
        have hvs := hA1.vals ht1 hp hq
        have HA1 := Lib.hid hA1
        have HOB := Lib.hid hob
        clear hat hat1 hA hA1 hOn hob
        go_wp2_with fail
        refine (markIntS _ t.v qa (M + 1) _ hvs (by omega) (by omega) (by omega)).mono ?_
        rintro e w1 ⟨rfl, ho1, hon1⟩
        have hvl' : (marked t.v.length (M + 1)).length = t.v.length := marked_len _ _
        have hA2 := HA1.out.newV (x := marked t.v.length (M + 1)) ht1 hp hq hon1 (by rw [hvl']; exact ho1)
        rw [List.set_set] at hA2
        have ht2 : ((mkAt ths m k).set k ⟨M, marked t.v.length (M + 1), t.f⟩)[k]? = some ⟨M, marked t.v.length (M + 1), t.f⟩ := by rw [List.getElem?_set_self (by omega)]
        have hl2 : ((mkAt ths m k).set k ⟨M, marked t.v.length (M + 1), t.f⟩).length = ths.length := by rw [List.length_set, hml]
        have hat2 := (show Own _ (.slice (some ⟨b, o, none⟩) ths.length c) 3 ths.length (thCs ((mkAt ths m k).set k ⟨M, marked t.v.length (M + 1), t.f⟩) vs) [b] from hl2 ▸ hA2.row).cells_ (by omega)
        obtain ⟨hcf, -⟩ := hat2 (k * 3 + 2) _ (thCs_at ht2 hp 2 (by omega))
        rw [← Nat.add_assoc] at hcf
        have hqin : ∀ x, x ∈ qa ∨ x ∈ qb → x ∈ bs := by
          intro x hx
          have h1 := thRows_at HX.out hp hq
          rw [HBB.out, blks_cons]
          refine List.mem_append.2 (.inr ?_)
          rcases hx with hx | hx
          · exact mem_blks_at h1.1 x hx
          · exact mem_blks_at h1.2 x hx
        have hob2 := HOB.out.trans (hon1.mono (bs' := bs) fun x hx => hqin x (.inl hx))
        have hfs := hA2.buf ht2 hp hq
        have HA2 := Lib.hid hA2
        have HOB2 := Lib.hid hob2
        have HQ := Lib.hid hqin
        clear hat2 hA2 hob2 HOB HA1 ho1 hon1 hvs ht1 hl1 hqin
        go_wp2_with fail
        refine (markSlotS _ (fl2 t.f) t.f.length qb (M + 1 + t.v.length) _ hfs (by omega) (by omega) (by omega)).mono ?_
        rintro e w2 ⟨rfl, ho2, hon2⟩
        have hA3 := HA2.out.newF (x := mk2 t.f.length (M + 1 + t.v.length)) ht2 hp hq hon2 (by rw [mk2_len, flc2_mk2]; exact ho2)
        rw [List.set_set] at hA3
        have hA4 : OwnT w2 (.slice (some ⟨b, o, none⟩) ths.length c) (mkAt ths m (k + 1)) vs qs [b] := by
          rw [← mkAt_next HX.out, ← HM.out]
          exact hA3
        have hob3 := HOB2.out.trans (hon2.mono (bs' := bs) fun x hx => HQ.out x (.inr hx))
        have hct : m + (cntTS (ths.take (k + 1)) : Int) = M + 1 + t.v.length + t.f.length * 2 := by
          rw [cntTS_take HX.out, HM.out]
          unfold cntTh
          omega
        have HCT := Lib.hid hct
        clear hA3 HA2 HOB2 hfs ho2 hon2 ht2 hl2 hct
        go_wp2_with fail
        exact ⟨⟨k + 1, by omega, by go_num, by rw [HCT.out], hA4, hob3⟩, by simp [intOf]; omega⟩
      · obtain rfl : k = ths.length := by omega
        rw [List.take_length]
        go_wp2_with fail
        go_ret
        refine ⟨rfl, ?_, hOn⟩
        rw [mkAt_all] at hA
        have e1 : bs = blks (⟨.slice (some ⟨b, o, none⟩) ths.length c, 3, (mkTS ths m).length, thCs (mkTS ths m) vs, [b]⟩ :: thRows (mkTS ths m) vs qs) := by
          rw [HBB.out, blks_cons, blks_cons]
          congr 1
          have : ∀ (xs ys : List Th) (ps : List (Value × Value)) (zs : List (List Nat × List Nat)), xs.length = ys.length → blks (thRows xs ps zs) = blks (thRows ys ps zs) := by
            intro xs
            induction xs with
            | nil =>
              intro ys ps zs h
              have : ys = [] := List.eq_nil_of_length_eq_zero h.symm
              subst this
              rfl
            | cons x xs ih =>
              intro ys ps zs h
              match ys, ps, zs, h with
              | [], _, _, h => simp at h
              | y :: ys, [], _, h => rfl
              | y :: ys, p :: ps, [], h => rfl
              | y :: ys, p :: ps, z :: zs, h =>
                rw [thRows, thRows, blks_cons, blks_cons, blks_cons, blks_cons, ih ys ps zs (by simpa using h)]
                rfl
          exact this _ _ _ _ (mkTS_len _ _).symm
        rw [e1]
        exact hA.toTS
set_option maxHeartbeats 1600000 in
theorem markMachine (mv tv : Value) (M : Ma) (bs : List Nat) (m : Int) (w : World) (h : OwnMa w mv tv M bs) (hsz : totMa M ≤ 16777216) (hm0 : 0 ≤ m) (hm : m ≤ 1073741824) :
    Calls Try.prog 22 #[.agg #[mv, tv], .int .i64 m] w fun e w' => e = .returned (.int .i64 (m + cntMa M)) ∧ OwnMa w' mv tv (mkMa M m) bs ∧ Only bs w w' := by
  obtain ⟨A, c, B, d, rfl, rfl⟩ := h.slices
  obtain ⟨bm, bt, hM, hT, hdis, rfl⟩ := h
  have hsm : M.mem.length ≤ 16777216 ∧ totTS M.ths ≤ 16777216 := by unfold totMa at hsz; omega
  have hB := (Below.refl w.heap.size w).alloc (Nat.le_refl _) (.cells #[.slice A M.mem.length c, .slice B M.ths.length d] 41)
  have K := Bk.new w #[.slice A M.mem.length c, .slice B M.ths.length d] 41
  have hM1 := hM.below hB
  have hT1 := hT.below hB
  have hlm := hM.lt
  have hlt := hT.lt
  have HB := Lib.hid hB
  clear hB
  go_enter Try.func22, Try.ntmps22
  go_wp2_with fail
  refine (markMem _ M.mem bm m _ hM1 hsm.1 hm0 hm).mono ?_
  rintro e w1 ⟨rfl, ho1, hon1⟩
  have K1 := K.only hon1 (fun hm => by have := hlm _ hm; omega)
  have hT2 := hT1.only hon1 (fun b hb hm => hdis b hm hb)
  have hO1 := (Only.of_below HB.out (bm ++ bt)).trans (hon1.mono fun b hb => List.mem_append.2 (.inl hb))
  obtain ⟨hc0, hf0⟩ := K1.at_ 1 (x := .slice B M.ths.length d) rfl
  have HO1 := Lib.hid hO1
  clear hO1
  go_wp2_with fail
  refine (markThreadS _ M.ths bt (m + M.mem.length) _ hT2 hsm.2 (by omega) (by omega)).mono ?_
  rintro e w2 ⟨rfl, ho2, hon2⟩
  have hM3 := ho1.only hon2 hdis
  have hO2 := HO1.out.trans (hon2.mono fun b hb => List.mem_append.2 (.inr hb))
  have hct : Hid (m + (cntMa M : Int) = m + M.mem.length + cntTS M.ths) := Lib.hid (by unfold cntMa; omega)
  have HO2 := Lib.hid hO2
  clear hO2 HO1
  go_wp2_with fail
  go_ret
  exact ⟨ret_int hct.out.symm, ⟨bm, bt, by rw [show (mkMa M m).mem.length = M.mem.length from marked_len _ _]; exact hM3, ho2, hdis, rfl⟩, HO2.out⟩
set_option maxHeartbeats 1600000 in
theorem heldThreadS (v : Value) (ths : List Th) (m : Int) (w : World) (h : RdTS w v (mkTS ths m)) (hsz : totTS ths ≤ 16777216) (hm0 : 0 ≤ m) (hm : m ≤ 1090921693184) :
    Calls Try.prog 70 #[v, .int .i64 m] w fun e w' => e = .returned (.int .i64 (m + cntTS ths)) ∧ Below w.heap.size w w' := by
  obtain ⟨vs, hvl, ⟨A, c, rfl, -, hnc, hc, hr⟩, hin⟩ := h
  unfold maxLen at hc
  rw [mkTS_len] at hnc hr hvl ⊢
  have hn : ths.length ≤ 16777216 := by unfold totTS at hsz; omega
  go_enter Try.func70, Try.ntmps70
  go_wp2
  go_loopw [1, 5] (fun mm i wr => ∃ k : Nat, k ≤ ths.length ∧ i = .int .i64 k ∧ mm = .int .i64 (m + cntTS (ths.take k)) ∧ Below w.heap.size w wr) (fun _ i _ => ths.length - (intOf i).toNat)
  case atStart => exact ⟨0, Nat.zero_le _, rfl, by simp [cntTS], Below.refl _ _⟩
  case round =>
    obtain ⟨k, hk, rfl, rfl, hB⟩ := hrel
    by_cases hlt : k < ths.length
    · obtain ⟨b, o, rfl, hb, hcell⟩ := hr (by omega)
      have hx : ths[k]? = some ths[k] := List.getElem?_eq_getElem hlt
      generalize ths[k] = t at hx
      obtain ⟨t', a, f, hxk, hpk, hx0, hx1, hx2⟩ := th_at (k := k) (by rw [mkTS_len]; exact hvl) hcell (by rw [mkTS_len]; exact hlt) hB hb
      have he : t' = mkTh t (m + cntTS (ths.take k)) := by
        have h1 := mkAt_next (m := m) hx
        have h2 : (mkAt ths m (k + 1))[k]? = some (mkTh t (m + cntTS (ths.take k))) := by rw [← h1, List.getElem?_set_self (by rw [mkAt_len]; exact hlt)]
        have h3 : mkTS ths m = mkTS (ths.take (k + 1)) m ++ (mkTS ths m).drop (k + 1) := by
          have key : ∀ (xs : List Th) (q : Int) (j : Nat), mkTS (xs.take j) q = (mkTS xs q).take j := by
            intro xs
            induction xs with
            | nil => intro q j; simp [mkTS]
            | cons x xs ih =>
              intro q j
              cases j with
              | zero => simp [mkTS]
              | succ j => simp [mkTS, ih]
          rw [key, List.take_append_drop]
        have h4 := hxk.out
        rw [h3, List.getElem?_append_left (by rw [mkTS_len, List.length_take]; omega)] at h4
        unfold mkAt at h2
        rw [List.getElem?_append_left (by rw [mkTS_len, List.length_take]; omega)] at h2
        exact Option.some.inj (h4.symm.trans h2)
      subst he
      obtain ⟨ra, rb⟩ := hin k _ (a, f) hxk.out hpk.out
      have ra1 := ra.below hB
      have rb1 := rb.below hB
      have HX := Lib.hid hx
      have hc2 := cntTS_le (ths.take k)
      have hc3 := totTS_take_le ths k
      have hc4 := totTS_mem hx
      have hvl2 : t.v.length ≤ 16777216 ∧ t.f.length ≤ 16777216 := by unfold totTh at hc4; omega
      obtain ⟨M, hM⟩ : ∃ M : Int, M = m + cntTS (ths.take k) := ⟨_, rfl⟩
      have hMb : 0 ≤ M ∧ M ≤ 1099000000000 := by omega
      have HM := Lib.hid hM
      simp only [← hM] at hx0 ra1 rb1 ⊢
      clear hx hc2 hc3 hc4 hM hcell hr hin ra rb hxk hpk
      have e0 : (mkTh t M).pc = M := rfl
      have e1 : (mkTh t M).v = marked t.v.length (M + 1) := rfl
      have e2 : (mkTh t M).f = mk2 t.f.length (M + 1 + t.v.length) := rfl
      rw [e0] at hx0
      rw [e1, marked_len] at ra1
      rw [e2, mk2_len, flc2_mk2] at rb1
      obtain ⟨Av, cv, rfl, -, -, -, -⟩ := id ra1
      obtain ⟨Af, cf, rfl, -, -, -, -⟩ := id rb1
      have hb1 : (M != M) = false := by simp
      have hct : m + (cntTS (ths.take (k + 1)) : Int) = M + 1 + t.v.length + t.f.length * 2 := by
        rw [cntTS_take HX.out, HM.out]
        unfold cntTh
        omega
      have HCT := Lib.hid hct
      clear hct e0 e1 e2
      go_wp2_with fail
      refine (heldIntS _ t.v.length (M + 1) _ ra1 (by omega) (by omega) (by omega)).mono ?_
      rintro e w1 ⟨rfl, rfl⟩
      go_wp2_with fail
      refine (heldSlotS _ t.f.length (M + 1 + t.v.length) _ rb1 (by omega) (by omega) (by omega)).mono ?_
      rintro e w2 ⟨rfl, rfl⟩
      go_wp2_with fail
      exact ⟨⟨k + 1, by omega, by go_num, by rw [HCT.out], hB⟩, by simp [intOf]; omega⟩
    · obtain rfl : k = ths.length := by omega
      rw [List.take_length]
      have hcp : 0 ≤ m + (cntTS ths : Int) := by omega
      go_wp2_with fail
      go_ret
      exact ⟨rfl, hB⟩
set_option maxHeartbeats 1600000 in
theorem heldMachine (mv tv : Value) (M : Ma) (m : Int) (w : World) (h : RdMa w mv tv (mkMa M m)) (hsz : totMa M ≤ 16777216) (hm0 : 0 ≤ m) (hm : m ≤ 1073741824) :
    Calls Try.prog 23 #[.agg #[mv, tv], .int .i64 m] w fun e w' => e = .returned (.int .i64 (m + cntMa M)) ∧ Below w.heap.size w w' := by
  have h1 := h.mem
  have h2 := h.ths
  rw [show (mkMa M m).mem.length = M.mem.length from marked_len _ _] at h1
  obtain ⟨A, c, B, d, rfl, rfl, -⟩ := h.slices
  rw [show (mkMa M m).mem.length = M.mem.length from marked_len _ _, show (mkMa M m).ths.length = M.ths.length from mkTS_len _ _] at *
  have hsm : M.mem.length ≤ 16777216 ∧ totTS M.ths ≤ 16777216 := by unfold totMa at hsz; omega
  have hB := (Below.refl w.heap.size w).alloc (Nat.le_refl _) (.cells #[.slice A M.mem.length c, .slice B M.ths.length d] 41)
  have K := Bk.new w #[.slice A M.mem.length c, .slice B M.ths.length d] 41
  have HB := Lib.hid hB
  have hct : Hid (m + (cntMa M : Int) = m + M.mem.length + cntTS M.ths) := Lib.hid (by unfold cntMa; omega)
  clear hB
  go_enter Try.func23, Try.ntmps23
  go_wp2_with fail
  refine (heldMem _ M.mem.length m _ (h1.below HB.out) (by omega) (by omega) (by omega)).mono ?_
  rintro e w1 ⟨rfl, hb1⟩
  have hB1 := HB.out.trans (hb1.mono HB.out.size)
  have K1 := K.below hb1 K.lt
  obtain ⟨hc0, hf0⟩ := K1.at_ 1 (x := .slice B M.ths.length d) rfl
  have HB1 := Lib.hid hB1
  clear hB1
  go_wp2_with fail
  refine (heldThreadS _ M.ths (m + M.mem.length) _ (h2.below HB1.out) hsm.2 (by omega) (by omega)).mono ?_
  rintro e w2 ⟨rfl, hb2⟩
  have hge : 0 ≤ m + (M.mem.length : Int) + (cntTS M.ths : Int) := by omega
  have hle : m + (M.mem.length : Int) + (cntTS M.ths : Int) ≤ 1099511627776 := by have := cntTS_le M.ths; omega
  have HB2 := Lib.hid (HB1.out.trans (hb2.mono HB1.out.size))
  go_wp2_with fail
  go_ret
  exact ⟨ret_int hct.out.symm, HB2.out⟩
end Go.Proofs.Ytiflooopfpcelaa
