/- Contract of the model's plain step. Condition: the program and the machine can be read, the machine is well, the thread is not at its end. -/
import Derived.Test.YtiflooopfpcelaaGreatC21
import Derived.Test.YtiflooopfpcelaaGreatK2
import Derived.Test.YtiflooopfpcelaaGreatC9
import Derived.Test.YtiflooopfpcelaaGreatK1
namespace Go.Proofs.YtiflooopfpcelaaGreat
set_option maxRecDepth 20000
set_option linter.unusedSimpArgs false
set_option linter.unusedVariables false
open Go.ChangeShapes Go.WideShapes Go.ChangeAt Go.RowKit
set_option linter.unusedVariables false
/-- how many slots wait in the buffer of thread k of the machine in box g -/
def bufLen (W : World) (g k : Nat) : Nat :=
  match W.cell? ⟨g, 1, none⟩ with
  | some (.slice (some ⟨b, o, none⟩) _ _) => (match W.cell? ⟨b, o + k * 3 + 2, none⟩ with | some (.slice _ n _) => n | _ => 0)
  | _ => 0
theorem bufLen_of {W : World} {g k : Nat} {mv tv pv : Value} {T : TypeId} {p : Pr} {M : Ma} {t : Th} (hk : Bk W g #[mv, tv] T) (hR : RdMa W mv tv M) (h : RdSS W pv p.x) (hok : machOk p M = true) (ht : M.ths[k]? = some t) : bufLen W g k = t.f.length := by
  obtain ⟨b, o, c, bT, oT, d, A9, c9, -, rfl, rfl, -, -, -, -, -, -, -, -, -, -, -, -, hEl⟩ := mach_open h hR hok
  obtain ⟨u, cd, cv, av, fv, E⟩ := hEl W (Below.refl _ _) k (List.getElem?_eq_some_iff.1 ht).1
  obtain rfl : u = t := Option.some.inj (E.well.ht.symm.trans ht)
  obtain ⟨F, df, rfl, -⟩ := id E.rf
  obtain ⟨z1, -⟩ := hk.at_ 1 (x := .slice (some ⟨bT, oT, none⟩) M.ths.length d) rfl
  unfold bufLen
  rw [z1]
  simp only
  rw [E.c3]
/-- the box behind the first cells of a call holds a machine whose thread k, once its buffer is emptied, gives the machine T -/
def PlInv (p : Pr) (k : Nat) (T : Ma) (own : Bool) (n : Nat) (ty : TypeId) (wr : World) : Prop :=
  ∃ M' t' mv' tv', Bk wr (n + 1 + 1 + 1) #[mv', tv'] ty ∧ Hid (machOk p M' = true ∧ M'.ths[k]? = some t' ∧ daM M' k t' = T) ∧ Hid (∀ W, Only [n + 1 + 1 + 1] wr W → RdMa W mv' tv' M') ∧
    Hid (own = true → ∃ bs, OwnMa wr mv' tv' M' bs ∧ ∀ b ∈ bs, n + 1 + 1 + 1 < b)
theorem plInv_own {p : Pr} {k n : Nat} {T M' : Ma} {t' : Th} {own : Bool} {ty : TypeId} {wr w2 : World} {A2 B2 : Option Addr} {c2 d2 : Nat} {bs2 : List Nat} {x y : Value} (hok : machOk p M' = true) (ht : M'.ths[k]? = some t') (hT : daM M' k t' = T)
    (hn : n + 1 + 1 + 1 < wr.heap.size) (ka : Bk w2 (n + 1 + 1 + 1) #[x, y] ty) (hO : OwnMa w2 (.slice A2 M'.mem.length c2) (.slice B2 M'.ths.length d2) M' bs2) (hbs : ∀ b ∈ bs2, wr.heap.size ≤ b) :
    PlInv p k T own n ty ((w2.setCell ⟨n + 1 + 1 + 1, 0, none⟩ (.slice A2 M'.mem.length c2)).setCell ⟨n + 1 + 1 + 1, 1, none⟩ (.slice B2 M'.ths.length d2)) := by
  have hf : ∀ b ∈ bs2, b ≠ n + 1 + 1 + 1 := fun b hb => by have := hbs b hb; omega
  have hO2 := (hO.far (k := 0) (u := .slice A2 M'.mem.length c2) hf).far (k := 1) (u := .slice B2 M'.ths.length d2) hf
  exact ⟨M', t', _, _, (ka.set_ 0 (.slice A2 M'.mem.length c2)).set_ 1 (.slice B2 M'.ths.length d2), Lib.hid ⟨hok, ht, hT⟩, Lib.hid fun W hW => (hO2.only hW fun b hb hm => hf b hb (by simpa using hm)).rd, Lib.hid fun _ => ⟨bs2, hO2, fun b hb => by have := hbs b hb; omega⟩⟩
theorem plInv_next {p : Pr} {k n : Nat} {T M' : Ma} {t' : Th} {code : List Ins} {own : Bool} {ty : TypeId} {wr w2 : World} {A2 B2 : Option Addr} {c2 d2 : Nat} {bs2 : List Nat} {x y : Value} (hok : machOk p M' = true) (ht : M'.ths[k]? = some t') (hc : p.x[k]? = some code) (hf : 0 < t'.f.length)
    (hn : n + 1 + 1 + 1 < wr.heap.size) (ka : Bk w2 (n + 1 + 1 + 1) #[x, y] ty) (hO : OwnMa w2 (.slice A2 (drainF M' k t').mem.length c2) (.slice B2 (drainF M' k t').ths.length d2) (drainF M' k t') bs2) (hbs : ∀ b ∈ bs2, wr.heap.size ≤ b) {W5 : World} (hW5 : W5 = (w2.setCell ⟨n + 1 + 1 + 1, 0, none⟩ (.slice A2 (drainF M' k t').mem.length c2)).setCell ⟨n + 1 + 1 + 1, 1, none⟩ (.slice B2 (drainF M' k t').ths.length d2)) :
    daM M' k t' = T → PlInv p k T own n ty W5 ∧ ∀ {pv : Value}, RdSS W5 pv p.x → bufLen W5 (n + 1 + 1 + 1) k = (drainT M'.mem t').f.length := by
  intro hT
  subst hW5
  obtain ⟨e1, e2, e3, e4, e5⟩ := daM_step hok ht hc hf
  have hok2 : machOk p (drainF M' k t') = true := by rw [← e5]; exact doAt_ok e4
  have hI := plInv_own (own := true) hok2 e2 (e1.trans hT) hn ka hO hbs
  refine ⟨plInv_own hok2 e2 (e1.trans hT) hn ka hO hbs, fun h => ?_⟩
  have hff : ∀ b ∈ bs2, b ≠ n + 1 + 1 + 1 := fun b hb => by have := hbs b hb; omega
  exact bufLen_of ((ka.set_ 0 _).set_ 1 _) ((hO.far (k := 0) (u := .slice A2 _ c2) hff).far (k := 1) (u := .slice B2 _ d2) hff).rd h hok2 e2
set_option maxHeartbeats 6400000 in
theorem l04Plain (pv mv tv : Value) (p : Pr) (M : Ma) (k : Nat) (t : Th) (code : List Ins) (w : World) (h : RdSS w pv p.x) (hm : RdMa w mv tv M) (hok : machOk p M = true) (ht : M.ths[k]? = some t) (hc : p.x[k]? = some code) (hne : t.pc ≠ code.length) (hsz : totMa M ≤ 16777215) :
    Calls Tryz.prog 54 #[.agg #[.int .i64 p.c, pv], .agg #[mv, tv], .int .i64 k] w (RetMa (plM M k t code) w) := by
  obtain ⟨A0, c0, B0, d0, rfl, rfl, -⟩ := id hm.slices
  obtain ⟨vsp, ⟨Ap, cp, rfl, -, hnp, hcp, hrp⟩, hin⟩ := id h
  have kp := ((Bk.new w #[.int .i64 p.c, .slice Ap p.x.length cp] 43).alloc (.cells #[.slice A0 M.mem.length c0, .slice B0 M.ths.length d0] 38)).alloc (.cells #[.slice none 0 0, .slice none 0 0] 38)
  have kr := Bk.new ((w.alloc (.cells #[.int .i64 p.c, .slice Ap p.x.length cp] 43)).alloc (.cells #[.slice A0 M.mem.length c0, .slice B0 M.ths.length d0] 38)) #[.slice none 0 0, .slice none 0 0] 38
  have hB0 := (((Below.refl w.heap.size w).alloc (Nat.le_refl _) (.cells #[.int .i64 p.c, .slice Ap p.x.length cp] 43)).alloc (by simp) (.cells #[.slice A0 M.mem.length c0, .slice B0 M.ths.length d0] 38)).alloc (by simp; omega) (.cells #[.slice none 0 0, .slice none 0 0] 38)
  have kp1 := kp.alloc (.cells #[.slice A0 M.mem.length c0, .slice B0 M.ths.length d0] 38)
  have kr1 := kr.alloc (.cells #[.slice A0 M.mem.length c0, .slice B0 M.ths.length d0] 38)
  have ka1 := Bk.new (((w.alloc (.cells #[.int .i64 p.c, .slice Ap p.x.length cp] 43)).alloc (.cells #[.slice A0 M.mem.length c0, .slice B0 M.ths.length d0] 38)).alloc (.cells #[.slice none 0 0, .slice none 0 0] 38)) #[.slice A0 M.mem.length c0, .slice B0 M.ths.length d0] 38
  have hB1 := hB0.alloc hB0.size (.cells #[.slice A0 M.mem.length c0, .slice B0 M.ths.length d0] 38)
  simp only [World.size_alloc] at kr kr1 ka1
  have HI1 : Hid (PlInv p k (daM M k t) false w.heap.size 38 ((((w.alloc (.cells #[.int .i64 p.c, .slice Ap p.x.length cp] 43)).alloc (.cells #[.slice A0 M.mem.length c0, .slice B0 M.ths.length d0] 38)).alloc (.cells #[.slice none 0 0, .slice none 0 0] 38)).alloc (.cells #[.slice A0 M.mem.length c0, .slice B0 M.ths.length d0] 38))) := Lib.hid
    ⟨M, t, _, _, ka1, Lib.hid ⟨hok, ht, rfl⟩, Lib.hid fun W hW => hm.below (hB1.trans (hW.below hB1.size fun b hb => by simp at hb; omega)), Lib.hid fun h => by cases h⟩
  have HB1 := Lib.hid hB1
  have HH := Lib.hid h
  have HOK := Lib.hid hok
  have HT := Lib.hid ht
  have HCD := Lib.hid hc
  have HNE := Lib.hid hne
  clear hrp hin hB0 hB1 ka1 kp kr h hm hok ht hc hne
  go_enter Tryz.func54, Tryz.ntmps54
  go_wp2_with fail
  go_loopw [] (fun wr => PlInv p k (daM M k t) false w.heap.size 38 wr ∧ Bk wr w.heap.size #[.int .i64 p.c, .slice Ap p.x.length cp] 43 ∧ Bk wr (w.heap.size + 1 + 1) #[.slice none 0 0, .slice none 0 0] 38 ∧ Below w.heap.size w wr) (fun wr => bufLen wr (w.heap.size + 1 + 1 + 1) k)
  case atStart => exact ⟨HI1.out, kp1, kr1, HB1.out⟩
  case round =>
    obtain ⟨⟨M', t', mv', tv', kat, HQ, HRd, HOw⟩, kp2, kr2, hB2⟩ := hrel
    clear HI1 kp1 kr1 HB1
    have hRM := HRd.out wr (Only.refl _ _)
    obtain ⟨b, o, c, bT, oT, d, A9, c9, hpe, rfl, rfl, hbl, hbT, hcc, hdc, hc9, -, -, hc9l, hl1, hl3, hl4, hl5, hEl⟩ := mach_open (HH.out.below hB2) hRM HQ.out.1
    injection hpe with hpe1 _ hpe3
    subst hpe1 hpe3
    have hkl : k < M'.ths.length := (List.getElem?_eq_some_iff.1 HQ.out.2.1).1
    obtain ⟨u, cd, cv, av, fv, E⟩ := hEl wr (Below.refl _ _) k hkl
    obtain rfl : u = t' := Option.some.inj (E.well.ht.symm.trans HQ.out.2.1)
    obtain rfl : cd = code := Option.some.inj (E.well.hc.symm.trans HCD.out)
    obtain ⟨F, df, rfl, -, hdf1, hdf2, -⟩ := id E.rf
    unfold maxLen at hdf2
    have x3 := E.c3
    have hlen : bufLen wr (w.heap.size + 1 + 1 + 1) k = u.f.length := bufLen_of kat hRM (HH.out.below hB2) HQ.out.1 HQ.out.2.1
    have HLEN := Lib.hid hlen
    obtain ⟨z0, y0⟩ := kat.at_ 0 (x := .slice A9 M'.mem.length c9) rfl
    obtain ⟨z1, y1⟩ := kat.at_ 1 (x := .slice (some ⟨bT, oT, none⟩) M'.ths.length d) rfl
    obtain ⟨p0, -⟩ := kp2.at_ 0 (x := .int .i64 p.c) rfl
    obtain ⟨p1, -⟩ := kp2.at_ 1 (x := .slice (some ⟨b, o, none⟩) p.x.length cp) rfl
    have hkl' : (k : Int) < M'.ths.length := by omega
    have HB2 := Lib.hid hB2
    have HK2 := Lib.hid (And.intro kat (And.intro kp2 kr2))
    clear E hEl hlen kat kp2 kr2 hB2
    by_cases hf : 0 < u.f.length
    · obtain ⟨e1, e2, e3, e4, e5⟩ := daM_step HQ.out.1 HQ.out.2.1 HCD.out hf
      have HS := Lib.hid (And.intro e1 (And.intro e2 (And.intro e3 (And.intro e4 e5))))
      have htot := machOk_tot HQ.out.1
      clear e1 e2 e3 e4 e5
      go_wp2_with fail
      refine (spec_l04Do _ _ _ p M' ⟨k, true⟩ _ (HH.out.below HB2.out) hRM HS.out.2.2.2.1 (by omega)).mono ?_
      rintro e w2 ⟨mv2, tv2, bs2, rfl, hO, hbs, hb2⟩
      rw [HS.out.2.2.2.2] at hO
      obtain ⟨A2, c2, B2, d2, rfl, rfl⟩ := hO.slices
      have ka2 := HK2.out.1.below hb2 HK2.out.1.lt
      have kp3 := (HK2.out.2.1.below hb2 HK2.out.2.1.lt)
      have kr3 := (HK2.out.2.2.below hb2 HK2.out.2.2.lt)
      obtain ⟨q0, v0⟩ := ka2.at_ 0 (x := .slice A9 M'.mem.length c9) rfl
      obtain ⟨q1, v1⟩ := ka2.at_ 1 (x := .slice (some ⟨bT, oT, none⟩) M'.ths.length d) rfl
      have HN := Lib.hid (plInv_next (T := (daM M k t)) (own := false) HQ.out.1 HQ.out.2.1 HCD.out hf HK2.out.1.lt ka2 hO hbs rfl)
      have hBn := ((HB2.out.trans (hb2.mono HB2.out.size)).setCell (p := ⟨w.heap.size + 1 + 1 + 1, 0, none⟩) (by show w.heap.size ≤ w.heap.size + 1 + 1 + 1; omega) (.slice A2 (drainF M' k u).mem.length c2)).setCell (p := ⟨w.heap.size + 1 + 1 + 1, 1, none⟩) (by show w.heap.size ≤ w.heap.size + 1 + 1 + 1; omega) (.slice B2 (drainF M' k u).ths.length d2)
      have kpn := (kp3.far (p := ⟨w.heap.size + 1 + 1 + 1, 0, none⟩) (by show w.heap.size ≠ w.heap.size + 1 + 1 + 1; omega) (.slice A2 (drainF M' k u).mem.length c2)).far (p := ⟨w.heap.size + 1 + 1 + 1, 1, none⟩) (by show w.heap.size ≠ w.heap.size + 1 + 1 + 1; omega) (.slice B2 (drainF M' k u).ths.length d2)
      have krn := (kr3.far (p := ⟨w.heap.size + 1 + 1 + 1, 0, none⟩) (by show w.heap.size + 1 + 1 ≠ w.heap.size + 1 + 1 + 1; omega) (.slice A2 (drainF M' k u).mem.length c2)).far (p := ⟨w.heap.size + 1 + 1 + 1, 1, none⟩) (by show w.heap.size + 1 + 1 ≠ w.heap.size + 1 + 1 + 1; omega) (.slice B2 (drainF M' k u).ths.length d2)
      have HF := Lib.hid (And.intro kpn (And.intro krn hBn))
      clear ka2 kp3 kr3 hO hbs hb2 kpn krn hBn z0 y0 z1 y1 p0 p1 x3
      go_wp2_with fail
      have hI := HN.out (HQ.out.2.2)
      refine ⟨⟨hI.1, HF.out.1, HF.out.2.1, HF.out.2.2⟩, ?_⟩
      rw [HLEN.out, hI.2 (HH.out.below HF.out.2.2)]
      exact Nat.lt_of_succ_le (Nat.le_of_eq HS.out.2.2.1)
    · have hf0 : u.f.length = 0 := by omega
      have hnil : u.f = [] := List.eq_nil_of_length_eq_zero hf0
      have hMT : M' = (daM M k t) := by rw [← HQ.out.2.2, daM_nil HQ.out.2.1 hnil]
      have HMT := Lib.hid hMT
      clear hMT hnil
      go_wp2_with fail
      have htot := machOk_tot (daM_ok HOK.out HT.out HCD.out)
      obtain ⟨n1, n2, -⟩ := noBuf_can HOK.out HT.out HCD.out HNE.out
      have HCN := Lib.hid (And.intro n1 n2)
      clear n1 n2
      refine (spec_l04Do _ _ _ p M' ⟨k, false⟩ _ (HH.out.below HB2.out) hRM (by rw [HMT.out]; exact HCN.out.1) (by rw [HMT.out]; omega)).mono ?_
      rintro e w2 ⟨mv2, tv2, bs2, rfl, hO, hbs, hb2⟩
      rw [HMT.out, HCN.out.2] at hO
      obtain ⟨A2, c2, B2, d2, rfl, rfl⟩ := hO.slices
      have ka2 := HK2.out.1.below hb2 HK2.out.1.lt
      have kp3 := (HK2.out.2.1.below hb2 HK2.out.2.1.lt)
      have kr3 := (HK2.out.2.2.below hb2 HK2.out.2.2.lt)
      obtain ⟨q0, v0⟩ := ka2.at_ 0 (x := .slice A9 M'.mem.length c9) rfl
      obtain ⟨q1, v1⟩ := ka2.at_ 1 (x := .slice (some ⟨bT, oT, none⟩) M'.ths.length d) rfl
      have HI2 : Hid (PlInv p k (plM M k t cd) true w.heap.size 38 ((w2.setCell ⟨w.heap.size + 1 + 1 + 1, 0, none⟩ (.slice A2 (plE M k t cd).mem.length c2)).setCell ⟨w.heap.size + 1 + 1 + 1, 1, none⟩ (.slice B2 (plE M k t cd).ths.length d2))) :=
        Lib.hid (plInv_own (plE_ok HOK.out HT.out HCD.out HNE.out) (plE_at HT.out) rfl HK2.out.1.lt ka2 hO hbs)
      have hB5 := ((HB2.out.trans (hb2.mono HB2.out.size)).setCell (p := ⟨w.heap.size + 1 + 1 + 1, 0, none⟩) (by show w.heap.size ≤ w.heap.size + 1 + 1 + 1; omega) (.slice A2 (plE M k t cd).mem.length c2)).setCell (p := ⟨w.heap.size + 1 + 1 + 1, 1, none⟩) (by show w.heap.size ≤ w.heap.size + 1 + 1 + 1; omega) (.slice B2 (plE M k t cd).ths.length d2)
      have kp5 := (kp3.far (p := ⟨w.heap.size + 1 + 1 + 1, 0, none⟩) (by show w.heap.size ≠ w.heap.size + 1 + 1 + 1; omega) (.slice A2 (plE M k t cd).mem.length c2)).far (p := ⟨w.heap.size + 1 + 1 + 1, 1, none⟩) (by show w.heap.size ≠ w.heap.size + 1 + 1 + 1; omega) (.slice B2 (plE M k t cd).ths.length d2)
      have kr5 := (kr3.far (p := ⟨w.heap.size + 1 + 1 + 1, 0, none⟩) (by show w.heap.size + 1 + 1 ≠ w.heap.size + 1 + 1 + 1; omega) (.slice A2 (plE M k t cd).mem.length c2)).far (p := ⟨w.heap.size + 1 + 1 + 1, 1, none⟩) (by show w.heap.size + 1 + 1 ≠ w.heap.size + 1 + 1 + 1; omega) (.slice B2 (plE M k t cd).ths.length d2)
      have HB5 := Lib.hid hB5
      clear ka2 kp3 kr3 hO hbs hb2 hB5 z0 y0 z1 y1 p0 p1 x3 HRd HOw hRM HQ HMT HK2
      go_wp2_with fail
      go_loopw [] (fun wr => PlInv p k (plM M k t cd) true w.heap.size 38 wr ∧ Bk wr w.heap.size #[.int .i64 p.c, .slice (some ⟨b, o, none⟩) p.x.length cp] 43 ∧ Bk wr (w.heap.size + 1 + 1) #[.slice none 0 0, .slice none 0 0] 38 ∧ Below w.heap.size w wr) (fun wr => bufLen wr (w.heap.size + 1 + 1 + 1) k)
      case atStart => exact ⟨HI2.out, kp5, kr5, HB5.out⟩
      case round =>
        obtain ⟨⟨M', t', mv', tv', kat, HQ, HRd, HOw⟩, kp2, kr2, hB2⟩ := hrel
        clear HI2 kp5 kr5 HB5
        have hRM := HRd.out wr (Only.refl _ _)
        obtain ⟨b7, o7, c7, bT7, oT7, d7, A7, c97, hpe, rfl, rfl, hbl, hbT, hcc, hdc, hc9, -, -, hc9l, hl1, hl3, hl4, hl5, hEl⟩ := mach_open (HH.out.below hB2) hRM HQ.out.1
        injection hpe with hpe1 _ hpe3
        injection hpe1 with hpe1
        injection hpe1 with hpe1 hpe2
        subst hpe1 hpe2 hpe3
        have hkl : k < M'.ths.length := (List.getElem?_eq_some_iff.1 HQ.out.2.1).1
        obtain ⟨u, cd9, cv9, av9, fv9, E⟩ := hEl wr (Below.refl _ _) k hkl
        obtain rfl : u = t' := Option.some.inj (E.well.ht.symm.trans HQ.out.2.1)
        obtain rfl : cd9 = cd := Option.some.inj (E.well.hc.symm.trans HCD.out)
        obtain ⟨F, df, rfl, -, hdf1, hdf2, -⟩ := id E.rf
        unfold maxLen at hdf2
        have x3 := E.c3
        have hlen : bufLen wr (w.heap.size + 1 + 1 + 1) k = u.f.length := bufLen_of kat hRM (HH.out.below hB2) HQ.out.1 HQ.out.2.1
        have HLEN := Lib.hid hlen
        obtain ⟨z0, y0⟩ := kat.at_ 0 (x := .slice A7 M'.mem.length c97) rfl
        obtain ⟨z1, y1⟩ := kat.at_ 1 (x := .slice (some ⟨bT7, oT7, none⟩) M'.ths.length d7) rfl
        obtain ⟨p0, -⟩ := kp2.at_ 0 (x := .int .i64 p.c) rfl
        obtain ⟨p1, -⟩ := kp2.at_ 1 (x := .slice (some ⟨b, o, none⟩) p.x.length cp) rfl
        have hkl' : (k : Int) < M'.ths.length := by omega
        have HB2 := Lib.hid hB2
        have HK2 := Lib.hid (And.intro kat (And.intro kp2 kr2))
        clear E hEl hlen kat kp2 kr2 hB2
        by_cases hf : 0 < u.f.length
        · obtain ⟨e1, e2, e3, e4, e5⟩ := daM_step HQ.out.1 HQ.out.2.1 HCD.out hf
          have HS := Lib.hid (And.intro e1 (And.intro e2 (And.intro e3 (And.intro e4 e5))))
          have htot := machOk_tot HQ.out.1
          clear e1 e2 e3 e4 e5
          go_wp2_with fail
          refine (spec_l04Do _ _ _ p M' ⟨k, true⟩ _ (HH.out.below HB2.out) hRM HS.out.2.2.2.1 (by omega)).mono ?_
          rintro e w2 ⟨mv2, tv2, bs2, rfl, hO, hbs, hb2⟩
          rw [HS.out.2.2.2.2] at hO
          obtain ⟨A2, c2, B2, d2, rfl, rfl⟩ := hO.slices
          have ka2 := HK2.out.1.below hb2 HK2.out.1.lt
          have kp3 := (HK2.out.2.1.below hb2 HK2.out.2.1.lt)
          have kr3 := (HK2.out.2.2.below hb2 HK2.out.2.2.lt)
          obtain ⟨q0, v0⟩ := ka2.at_ 0 (x := .slice A7 M'.mem.length c97) rfl
          obtain ⟨q1, v1⟩ := ka2.at_ 1 (x := .slice (some ⟨bT7, oT7, none⟩) M'.ths.length d7) rfl
          have HN := Lib.hid (plInv_next (T := (plM M k t cd9)) (own := true) HQ.out.1 HQ.out.2.1 HCD.out hf HK2.out.1.lt ka2 hO hbs rfl)
          have hBn := ((HB2.out.trans (hb2.mono HB2.out.size)).setCell (p := ⟨w.heap.size + 1 + 1 + 1, 0, none⟩) (by show w.heap.size ≤ w.heap.size + 1 + 1 + 1; omega) (.slice A2 (drainF M' k u).mem.length c2)).setCell (p := ⟨w.heap.size + 1 + 1 + 1, 1, none⟩) (by show w.heap.size ≤ w.heap.size + 1 + 1 + 1; omega) (.slice B2 (drainF M' k u).ths.length d2)
          have kpn := (kp3.far (p := ⟨w.heap.size + 1 + 1 + 1, 0, none⟩) (by show w.heap.size ≠ w.heap.size + 1 + 1 + 1; omega) (.slice A2 (drainF M' k u).mem.length c2)).far (p := ⟨w.heap.size + 1 + 1 + 1, 1, none⟩) (by show w.heap.size ≠ w.heap.size + 1 + 1 + 1; omega) (.slice B2 (drainF M' k u).ths.length d2)
          have krn := (kr3.far (p := ⟨w.heap.size + 1 + 1 + 1, 0, none⟩) (by show w.heap.size + 1 + 1 ≠ w.heap.size + 1 + 1 + 1; omega) (.slice A2 (drainF M' k u).mem.length c2)).far (p := ⟨w.heap.size + 1 + 1 + 1, 1, none⟩) (by show w.heap.size + 1 + 1 ≠ w.heap.size + 1 + 1 + 1; omega) (.slice B2 (drainF M' k u).ths.length d2)
          have HF := Lib.hid (And.intro kpn (And.intro krn hBn))
          clear ka2 kp3 kr3 hO hbs hb2 kpn krn hBn z0 y0 z1 y1 p0 p1 x3
          go_wp2_with fail
          have hI := HN.out (HQ.out.2.2)
          refine ⟨⟨hI.1, HF.out.1, HF.out.2.1, HF.out.2.2⟩, ?_⟩
          rw [HLEN.out, hI.2 (HH.out.below HF.out.2.2)]
          exact Nat.lt_of_succ_le (Nat.le_of_eq HS.out.2.2.1)
        · have hf0 : u.f.length = 0 := by omega
          have hnil : u.f = [] := List.eq_nil_of_length_eq_zero hf0
          have hMT : M' = (plM M k t cd9) := by rw [← HQ.out.2.2, daM_nil HQ.out.2.1 hnil]
          have HMT := Lib.hid hMT
          clear hMT hnil
          obtain ⟨bs5, hO5, hbs5⟩ := HOw.out (by first | exact rfl | trivial)
          obtain ⟨r0, s0⟩ := HK2.out.2.2.at_ 0 (x := .slice none 0 0) rfl
          obtain ⟨r1, s1⟩ := HK2.out.2.2.at_ 1 (x := .slice none 0 0) rfl
          have kf := (HK2.out.2.2.set_ 0 (.slice A7 M'.mem.length c97)).set_ 1 (.slice (some ⟨bT7, oT7, none⟩) M'.ths.length d7)
          obtain ⟨m0, -⟩ := kf.at_ 0 (x := .slice A7 M'.mem.length c97) rfl
          obtain ⟨m1, -⟩ := kf.at_ 1 (x := .slice (some ⟨bT7, oT7, none⟩) M'.ths.length d7) rfl
          have hof := (hO5.far (b := w.heap.size + 1 + 1) (k := 0) (u := .slice A7 M'.mem.length c97) fun x hx => by have := hbs5 x hx; omega).far (b := w.heap.size + 1 + 1) (k := 1) (u := .slice (some ⟨bT7, oT7, none⟩) M'.ths.length d7) fun x hx => by have := hbs5 x hx; omega
          have hBf := (HB2.out.setCell (p := ⟨w.heap.size + 1 + 1, 0, none⟩) (by show w.heap.size ≤ w.heap.size + 1 + 1; omega) (.slice A7 M'.mem.length c97)).setCell (p := ⟨w.heap.size + 1 + 1, 1, none⟩) (by show w.heap.size ≤ w.heap.size + 1 + 1; omega) (.slice (some ⟨bT7, oT7, none⟩) M'.ths.length d7)
          have HE := Lib.hid (And.intro hof (And.intro (fun b hb => by have := hbs5 b hb; omega : ∀ b ∈ bs5, w.heap.size ≤ b) hBf))
          clear hO5 hbs5 hof hBf kf
          go_wp2_with fail
          exact bodyPost_ret (v := .agg #[.slice A7 M'.mem.length c97, .slice (some ⟨bT7, oT7, none⟩) M'.ths.length d7]) (by simp [results, Tryz.results54, go_sem, m0, m1]) rfl ⟨_, _, bs5, rfl, by rw [← HMT.out]; exact HE.out.1, HE.out.2.1, HE.out.2.2⟩
end Go.Proofs.YtiflooopfpcelaaGreat
