/- The known litmus tests: the table, the texts' codes (spec.l06Codes, impl's litmus.prog), the table in memory (impl.knownTests). Condition: the library's variables stand as written. -/
import Derived.Test.YtgbgjlmkmlhefaaGreatDoorKC
import Derived.Test.YtgbgjlmkmlhefaaGreatDoorKept
import Derived.Deep.DeepCutAuto
namespace Go.Proofs.YtgbgjlmkmlhefaaGreatDoor
set_option maxRecDepth 20000
set_option linter.unusedSimpArgs false
set_option linter.unusedVariables false
open Go.ChangeShapes Go.WideShapes Go.ChangeAt Go.RowKit
set_option linter.unusedVariables false
def kn : List (List UInt8) := [[83, 66], [83, 66, 70], [77, 80], [76, 66], [67, 79], [82, 87], [87, 67], [83, 87]]
def kt : List (List (List UInt8)) := [[[115, 101, 116, 32, 49, 32, 49, 59, 32, 115, 116, 111, 114, 101, 32, 49, 32, 48, 59, 32, 108, 111, 97, 100, 32, 48, 32, 49], [115, 101, 116, 32, 49, 32, 49, 59, 32, 115, 116, 111, 114, 101, 32, 49, 32, 49, 59, 32, 108, 111, 97, 100, 32, 48, 32, 48]], [[115, 101, 116, 32, 49, 32, 49, 59, 32, 115, 116, 111, 114, 101, 32, 49, 32, 48, 59, 32, 102, 101, 110, 99, 101, 59, 32, 108, 111, 97, 100, 32, 48, 32, 49], [115, 101, 116, 32, 49, 32, 49, 59, 32, 115, 116, 111, 114, 101, 32, 49, 32, 49, 59, 32, 102, 101, 110, 99, 101, 59, 32, 108, 111, 97, 100, 32, 48, 32, 48]], [[115, 101, 116, 32, 49, 32, 49, 59, 32, 115, 116, 111, 114, 101, 32, 49, 32, 48, 59, 32, 115, 116, 111, 114, 101, 32, 49, 32, 49], [108, 111, 97, 100, 32, 48, 32, 49, 59, 32, 108, 111, 97, 100, 32, 49, 32, 48]], [[115, 101, 116, 32, 49, 32, 49, 59, 32, 108, 111, 97, 100, 32, 48, 32, 48, 59, 32, 115, 116, 111, 114, 101, 32, 49, 32, 49], [115, 101, 116, 32, 49, 32, 49, 59, 32, 108, 111, 97, 100, 32, 48, 32, 49, 59, 32, 115, 116, 111, 114, 101, 32, 49, 32, 48]], [[115, 101, 116, 32, 49, 32, 49, 59, 32, 115, 116, 111, 114, 101, 32, 49, 32, 48], [108, 111, 97, 100, 32, 48, 32, 48, 59, 32, 108, 111, 97, 100, 32, 50, 32, 48]], [[115, 101, 116, 32, 49, 32, 49, 59, 32, 115, 116, 111, 114, 101, 32, 49, 32, 48, 59, 32, 108, 111, 97, 100, 32, 48, 32, 48, 59, 32, 108, 111, 97, 100, 32, 50, 32, 49], [115, 101, 116, 32, 49, 32, 49, 59, 32, 115, 116, 111, 114, 101, 32, 49, 32, 49, 59, 32, 108, 111, 97, 100, 32, 48, 32, 49, 59, 32, 108, 111, 97, 100, 32, 50, 32, 48]], [[115, 101, 116, 32, 49, 32, 49, 59, 32, 115, 116, 111, 114, 101, 32, 49, 32, 48], [115, 101, 116, 32, 49, 32, 49, 59, 32, 108, 111, 97, 100, 32, 48, 32, 48, 59, 32, 115, 116, 111, 114, 101, 32, 49, 32, 49], [108, 111, 97, 100, 32, 48, 32, 49, 59, 32, 108, 111, 97, 100, 32, 50, 32, 48]], [[115, 101, 116, 32, 49, 32, 49, 59, 32, 115, 119, 97, 112, 32, 48, 32, 49, 32, 48, 59, 32, 108, 111, 97, 100, 32, 50, 32, 49], [115, 101, 116, 32, 49, 32, 49, 59, 32, 115, 119, 97, 112, 32, 48, 32, 49, 32, 49, 59, 32, 108, 111, 97, 100, 32, 50, 32, 48]]]
def ka : List (List UInt8) := [[48, 58, 48, 61, 48, 32, 38, 32, 49, 58, 48, 61, 48], [48, 58, 48, 61, 48, 32, 38, 32, 49, 58, 48, 61, 48], [49, 58, 48, 61, 49, 32, 38, 32, 49, 58, 49, 61, 48], [48, 58, 48, 61, 49, 32, 38, 32, 49, 58, 48, 61, 49], [49, 58, 48, 61, 49, 32, 38, 32, 49, 58, 50, 61, 48], [48, 58, 48, 61, 49, 32, 38, 32, 48, 58, 50, 61, 48, 32, 38, 32, 49, 58, 48, 61, 49, 32, 38, 32, 49, 58, 50, 61, 48], [49, 58, 48, 61, 49, 32, 38, 32, 50, 58, 48, 61, 49, 32, 38, 32, 50, 58, 50, 61, 48], [48, 58, 50, 61, 48, 32, 38, 32, 49, 58, 50, 61, 48]]
def codeV (t : List UInt8) : List Ins := (codeCF t).getD []
def kstrs (l : List (List UInt8)) : List Value := l.map str
theorem codeV_len (t : List UInt8) : (codeV t).length ≤ 16 := codeCF_len t
theorem infoRowsK : (Tryz.prog.info? 31).map (fun i => (i.zero, i.size, i.bytes)) = some (some (.slice none 0 0), 1, 24) := by kernel_rfl
theorem rd_kstrs (w : World) (l : List (List UInt8)) (t : TypeId) (cs : Array Value) (hcs : cs = (kstrs l).toArray) {n : Nat} (hn : n = l.length) (hm : n ≤ 1048576) : Rd (w.alloc (.cells cs t)) (.slice (some ⟨w.heap.size, 0, none⟩) n n) 1 l.length (kstrs l) := by
  subst hn hcs
  refine ⟨_, _, rfl, by simp [kstrs], Nat.le_refl _, by unfold maxLen; omega, fun _ => ⟨_, _, rfl, by simp, fun j u hu => ?_⟩⟩
  rw [Nat.zero_add, World.cell?_alloc_new]
  simpa using hu
theorem kstrs_at {l : List (List UInt8)} {k : Nat} {s : List UInt8} (h : l[k]? = some s) : (kstrs l)[k]? = some (str s) := by simp [kstrs, h]
/-- an owned row's blocks are its own block -/
theorem owns_blk {w : World} {base : Nat} {e : TypeId} {size n : Nat} {v : Value} {cs : List Value} (h : w.ownsRow base e size v n cs) : ∃ bs, Own w v size n cs bs ∧ (∀ b ∈ bs, base ≤ b) ∧ ∀ b ∈ bs, v.ownBlock = some b := by
  obtain ⟨hl, ⟨rfl, rfl⟩ | ⟨g, cap, cur, rfl, hb, hg, hn, hm, hc, ht⟩⟩ := h
  · exact ⟨[], ⟨none, 0, rfl, hl, Nat.le_refl _, by simp [maxLen], .inl ⟨rfl, rfl⟩⟩, by simp, by simp⟩
  · obtain ⟨bs, h1, h2⟩ := Own.of_owns (w := w) (base := base) (e := e) (size := size) (v := .slice (some ⟨g, 0, none⟩) n cap) (n := n) (cs := cs) ⟨hl, .inr ⟨g, cap, cur, rfl, hb, hg, hn, hm, hc, ht⟩⟩
    refine ⟨bs, h1, h2, fun b hbm => ?_⟩
    obtain ⟨A, c, he, _, _, _, ⟨_, rfl⟩ | ⟨_, b', o, hA, rfl, _⟩⟩ := h1
    · simp at hbm
    · injection he with h3
      rw [hA] at h3
      injection h3 with h3
      injection h3 with h3
      simp at hbm
      subst hbm h3
      rfl
/-- rows of codes beside the row of their slices -/
structure KRows (w : World) (base : Nat) (v : Value) (us : List Value) (xss : List (List Ins)) (bss : List (List Nat)) : Prop where
  row : w.ownsRow base 31 1 v us.length us
  ins : InSS w us xss bss
  far : ∀ b ∈ bss.flatten, base ≤ b ∧ v.ownBlock ≠ some b
theorem KRows.below {w w' : World} {base : Nat} {v : Value} {us : List Value} {xss : List (List Ins)} {bss : List (List Nat)} (h : KRows w base v us xss bss) (hb : Below w.heap.size w w') : KRows w' base v us xss bss :=
  ⟨ownsRow_below h.row hb, InSS.of_blocks hb.size h.ins (fun b hm => hb.block b (InSS.lt h.ins b hm)), h.far⟩
theorem InSS.lens {w : World} : ∀ {us : List Value} {xss : List (List Ins)} {bss : List (List Nat)}, InSS w us xss bss → us.length = xss.length
  | [], [], [], _ => rfl
  | _ :: us, _ :: xss, _ :: bss, h => by simp [InSS.lens h.2.2]
  | [], [], _ :: _, h => h.elim
  | [], _ :: _, _, h => h.elim
  | _ :: _, [], _, h => h.elim
  | _ :: _, _ :: _, [], h => h.elim
theorem KRows.own {w : World} {base : Nat} {v : Value} {us : List Value} {xss : List (List Ins)} {bss : List (List Nat)} (h : KRows w base v us xss bss) : ∃ bs, OwnSS w v xss bs ∧ ∀ b ∈ bs, base ≤ b := by
  obtain ⟨b0, h1, h2, h3⟩ := owns_blk h.row
  refine ⟨b0 ++ bss.flatten, ⟨us, b0, bss, by rw [← InSS.lens h.ins]; exact h1, h.ins, rfl, fun x hx y hy e => (h.far y hy).2 (by rw [h3 x hx, e])⟩, fun b hb => ?_⟩
  rcases List.mem_append.1 hb with hb | hb
  · exact h2 b hb
  · exact (h.far b hb).1
/-- one code more: it is parsed, then appended -/
theorem KRows.snoc {w w1 wa w7 : World} {base : Nat} {v u v7 : Value} {us : List Value} {xss : List (List Ins)} {bss : List (List Nat)} {L : List Ins} {bs : List Nat} (h : KRows w base v us xss bss) (hb1 : Below w.heap.size w w1) (ho : Own w1 u 4 L.length (flc L) bs) (hlo : ∀ b ∈ bs, w.heap.size ≤ b) (hba : Below w1.heap.size w1 wa) (hbase : base ≤ w.heap.size)
    (hO7 : w7.ownsRow base 31 1 v7 (us.length + 1) (us ++ [u])) (hg7 : wa.grownBy w7 v.ownBlock) (hv7 : v7.ownBlock = v.ownBlock ∨ v7.ownBlock = some wa.heap.size) :
    KRows w7 base v7 (us ++ [u]) (xss ++ [L]) (bss ++ [bs]) := by
  have h1 := h.below hb1
  have hI1 := InSS.snoc ho h1.ins (fun x hx y hy => by have := InSS.lt h.ins x hx; have := hlo y hy; omega)
  have hlt := InSS.lt hI1
  have hIa : InSS wa (us ++ [u]) (xss ++ [L]) (bss ++ [bs]) := InSS.of_blocks hba.size hI1 (fun b hm => hba.block b (hlt b hm))
  have hfar : ∀ b ∈ (bss ++ [bs]).flatten, base ≤ b ∧ v.ownBlock ≠ some b := fun b hm => by
    rw [List.flatten_append] at hm
    rcases List.mem_append.1 hm with hm | hm
    · exact h.far b hm
    · have hm' := hlo b (by simpa using hm)
      exact ⟨by omega, fun e => by have := (h.row.lt b e).2; omega⟩
  refine ⟨by simpa using hO7, InSS.of_blocks hg7.size hIa (fun b hm => hg7.block b (by have := hlt b hm; have := hba.size; omega) (fun e => (hfar b hm).2 e.symm)), fun b hm => ⟨(hfar b hm).1, ?_⟩⟩
  rcases hv7 with e | e
  · rw [e]
    exact (hfar b hm).2
  · rw [e]
    intro e'
    injection e' with e'
    have := hlt b hm
    have := hba.size
    omega
def RetSSK (xss : List (List Ins)) (w : World) (e : Ending) (w' : World) : Prop := ∃ v' bs, e = .returned v' ∧ OwnSS w' v' xss bs ∧ (∀ b ∈ bs, w.heap.size ≤ b) ∧ Below w.heap.size w w'
set_option maxHeartbeats 3200000 in
theorem spec_l06Codes (v : Value) (ts : List (List UInt8)) (w : World) (h : Rd w v 1 ts.length (kstrs ts)) (hn : ts.length ≤ 8) (hl : ∀ t ∈ ts, t.length ≤ 1000) :
    Calls Tryz.prog 39 #[v] w (RetSSK (ts.map codeV) w) := by
  obtain ⟨A, c, rfl, -, hnc, hc, hr⟩ := h
  unfold maxLen at hc
  obtain ⟨q, hq, hqz0, hqz1, hqz2⟩ := info_parts infoRowsK
  have hK0 : KRows (w.alloc (.cells #[] 31)) w.heap.size (.slice (some ⟨w.heap.size, 0, none⟩) 0 0) [] [] [] :=
    ⟨⟨by simp, .inr ⟨w.heap.size, 0, #[], rfl, Nat.le_refl _, heap_alloc_new w _, Nat.le_refl _, by simp [maxLen], by simp, by simp⟩⟩, trivial, by simp⟩
  have hB0 := (Below.refl w.heap.size w).alloc (Nat.le_refl _) (.cells #[] 31)
  go_enter Tryz.func39, Tryz.ntmps39
  go_wp2_with fail
  go_loopw [3, 4] (fun vo j wr => ∃ (k : Nat) (us : List Value) (bss : List (List Nat)), k ≤ ts.length ∧ j = .int .i64 k ∧ Hid (us.length = k) ∧ KRows wr w.heap.size vo us ((ts.take k).map codeV) bss ∧ Below w.heap.size w wr) (fun _ j _ => ts.length - (intOf j).toNat)
  case atStart => exact ⟨0, [], [], Nat.zero_le _, rfl, Lib.hid rfl, hK0, hB0⟩
  case round =>
    obtain ⟨k, us, bss, hk, rfl, HL, hK, hB⟩ := hrel
    clear hK0 hB0
    by_cases hlt : k < ts.length
    · obtain ⟨t, ht⟩ : ∃ t, ts[k]? = some t := ⟨_, List.getElem?_eq_getElem hlt⟩
      obtain ⟨b, o, rfl, hb, hcell⟩ := hr (by omega)
      have hx := (hB.cell (p := ⟨b, o + k, none⟩) hb).trans (hcell k _ (kstrs_at ht))
      have htl := hl t (List.mem_of_getElem? ht)
      have HC := Lib.hid (spec_PC t wr (codeV t) (codeCF t).isSome (by omega) rfl rfl)
      have HT : Hid ((ts.take k).map codeV ++ [codeV t] = (ts.take (k + 1)).map codeV) := Lib.hid (by rw [List.take_add_one, ht, List.map_append]; rfl)
      have hul : us.length ≤ 8 := by have := HL.out; omega
      have hcv := codeV_len t
      obtain ⟨L, hL⟩ : ∃ L, codeV t = L := ⟨_, rfl⟩
      rw [hL] at HC HT hcv
      obtain ⟨ok, hok⟩ : ∃ ok, (codeCF t).isSome = ok := ⟨_, rfl⟩
      rw [hok] at HC
      obtain ⟨AO, cO, rfl, hcO, hcOm⟩ := owns_slice hK.row
      clear ht hcell hL hok
      go_wp2_with fail
      refine HC.out.mono ?_
      rintro e w1 ⟨v1, b1, rfl, ho1, hlo1, hb1⟩
      obtain ⟨A1, c1, rfl, -, -⟩ := ho1.slice
      have hB1 := hB.trans (hb1.mono hB.size)
      have hR1 := ownsRow_below hK.row hb1
      have hba := (Below.refl w1.heap.size w1).alloc (Nat.le_refl _) (.cells #[.slice A1 L.length c1] 31)
      go_wp2_with (at_builtin; refine wpList_append_kept _ rfl _ _ 24 rfl w.heap.size 31 q (.slice none 0 0) 1 24 Tryz.underlying24 hq hqz0 hqz1 hqz2 rfl (by decide) _ us.length us rfl (hR1.alloc _) ⟨w1.heap.size, 0, none⟩ 1 1 [.slice A1 L.length c1] rfl rfl (new_cells _ _ _) (by simp [Value.oneCell']) (by unfold maxLen; omega) (by omega) (by have := hB1.size; simp; omega) ?_)
      intro v7 w7 ho7 hg7 hv7 hk7
      have hK7 := KRows.snoc hK hb1 ho1 hlo1 hba hB.size ho7 hg7 (by simpa using hv7)
      rw [HT.out] at hK7
      have hB7 := (hB1.alloc hB1.size (.cells #[.slice A1 L.length c1] 31)).grown hg7 (by have := hB1.size; simp; omega) (fun x hx => (hR1.lt x hx).1)
      clear hk7 ho7 hg7 hv7 hR1 hba
      go_wp2_with fail
      exact ⟨⟨k + 1, _, _, by omega, by go_num, Lib.hid (by simp [HL.out]), hK7, hB7⟩, by simp [intOf] <;> omega⟩
    · obtain rfl : k = ts.length := by omega
      obtain ⟨bs, h1, h2⟩ := hK.own
      rw [List.take_length] at h1
      clear hr
      go_wp2_with fail
      go_ret
      exact ⟨_, bs, rfl, h1, h2, hB⟩
def RetPrK (q : Pr) (w : World) (e : Ending) (w' : World) : Prop := ∃ v' bs, e = .returned (.agg #[.int .i64 q.c, v']) ∧ OwnSS w' v' q.x bs ∧ (∀ b ∈ bs, w.heap.size ≤ b) ∧ Below w.heap.size w w'
theorem KRows.set {w : World} {base g i : Nat} {v : Value} {us : List Value} {xss : List (List Ins)} {bss : List (List Nat)} (h : KRows w base v us xss bss) (hg : g < base) (u : Value) : KRows (w.setCell ⟨g, i, none⟩ u) base v us xss bss :=
  ⟨ownsRow_setCell_below h.row (a := ⟨g, i, none⟩) hg u, InSS.of_blocks (by simp [World.setCell]) h.ins (fun b hm => Below.heap_setCell _ _ _ _ (by have := (h.far b hm).1; show b ≠ g; omega)), h.far⟩
set_option maxHeartbeats 3200000 in
theorem impl_prog (nm qy : Value) (v : Value) (ts : List (List UInt8)) (w : World) (hnm : nm.oneCell' = true) (hqy : qy.oneCell' = true) (h : Rd w v 1 ts.length (kstrs ts)) (hn : ts.length ≤ 8) (hl : ∀ t ∈ ts, t.length ≤ 1000) (hE : EnvP w) :
    Calls Tryz.prog 42 #[.agg #[nm, v, qy]] w (RetPrK ⟨2, ts.map codeV⟩ w) := by
  obtain ⟨A, c, rfl, -, hnc, hc, hr⟩ := h
  unfold maxLen at hc
  obtain ⟨q, hq, hqz0, hqz1, hqz2⟩ := info_parts infoRowsK
  have k0 := ((Bk.new w #[nm, .slice A ts.length c, qy] 73).alloc (.cells #[.int .i64 0, .slice none 0 0] 26)).alloc (.cells #[.int .i64 2, .slice none 0 0] 26)
  have k1 := (Bk.new (w.alloc (.cells #[nm, .slice A ts.length c, qy] 73)) #[.int .i64 0, .slice none 0 0] 26).alloc (.cells #[.int .i64 2, .slice none 0 0] 26)
  have k2 := Bk.new ((w.alloc (.cells #[nm, .slice A ts.length c, qy] 73)).alloc (.cells #[.int .i64 0, .slice none 0 0] 26)) #[.int .i64 2, .slice none 0 0] 26
  have hB0 := (((Below.refl w.heap.size w).alloc (Nat.le_refl _) (.cells #[nm, .slice A ts.length c, qy] 73)).alloc (by simp) (.cells #[.int .i64 0, .slice none 0 0] 26)).alloc (by simp; omega) (.cells #[.int .i64 2, .slice none 0 0] 26)
  simp only [World.size_alloc, Nat.add_assoc] at k1 k2
  obtain ⟨W, hW⟩ : ∃ W, ((w.alloc (.cells #[nm, .slice A ts.length c, qy] 73)).alloc (.cells #[.int .i64 0, .slice none 0 0] 26)).alloc (.cells #[.int .i64 2, .slice none 0 0] 26) = W := ⟨_, rfl⟩
  rw [hW] at k0 k1 k2 hB0
  have hsW : w.heap.size + 3 ≤ W.heap.size ∧ W.heap.size ≤ w.heap.size + 3 := by rw [← hW]; simp
  have HW := Lib.hid hW
  have HB0 := Lib.hid hB0
  have K0 := Lib.hid k0
  have K1 := Lib.hid k1
  have HSW := Lib.hid hsW
  have HE := Lib.hid hE
  have hKR : KRows W W.heap.size (.slice none 0 0) [] [] [] := ⟨World.ownsRow_nil _ _ _ _, trivial, by simp⟩
  have hBW := Below.refl (w.heap.size + 2) W
  clear hW k0 k1 hB0 hsW hE
  obtain ⟨x1, -⟩ := K0.out.at_ 1 (x := .slice A ts.length c) rfl
  go_enter Tryz.func42, Tryz.ntmps42
  go_upto_region 2 with (fail)
  rw [HW.out]
  go_wp2_with fail
  clear x1
  go_loopw [12] (fun j wr => ∃ (k : Nat) (us : List Value) (bss : List (List Nat)) (vo : Value), k ≤ ts.length ∧ j = .int .i64 k ∧ Hid (us.length = k) ∧ KRows wr W.heap.size vo us ((ts.take k).map codeV) bss ∧ Below (w.heap.size + 2) W wr ∧ Bk wr (w.heap.size + 2) #[.int .i64 2, vo] 26) (fun j _ => ts.length - (intOf j).toNat)
  case atStart => exact ⟨0, [], [], _, Nat.zero_le _, rfl, Lib.hid rfl, hKR, hBW, k2⟩
  case round =>
    obtain ⟨k, us, bss, vo, hk, rfl, HL, hK, hB, kg⟩ := hrel
    clear hKR hBW k2
    have hsw := HSW.out
    have hbs := hB.size
    obtain ⟨AO, cO, rfl, hcO, hcOm⟩ := owns_slice hK.row
    obtain ⟨z0, -⟩ := kg.at_ 0 (x := .int .i64 2) rfl
    obtain ⟨z1, g1⟩ := kg.at_ 1 (x := .slice AO us.length cO) rfl
    by_cases hlt : k < ts.length
    · obtain ⟨t, ht⟩ : ∃ t, ts[k]? = some t := ⟨_, List.getElem?_eq_getElem hlt⟩
      obtain ⟨b, o, rfl, hb, hcell⟩ := hr (by omega)
      have hx := (hB.cell (p := ⟨b, o + k, none⟩) (by show b < w.heap.size + 2; omega)).trans ((HB0.out.cell (p := ⟨b, o + k, none⟩) hb).trans (hcell k _ (kstrs_at ht)))
      have htl := hl t (List.mem_of_getElem? ht)
      have hEr : EnvP wr := HE.out.below (HB0.out.trans (hB.mono (by omega))) (Nat.le_refl _)
      have HC := Lib.hid (impl_PC t wr (codeV t) (codeCF t).isSome (by omega) rfl rfl hEr)
      have HT : Hid ((ts.take k).map codeV ++ [codeV t] = (ts.take (k + 1)).map codeV) := Lib.hid (by rw [List.take_add_one, ht, List.map_append]; rfl)
      have hul : us.length ≤ 8 := by have := HL.out; omega
      have hcv := codeV_len t
      obtain ⟨L, hL⟩ : ∃ L, codeV t = L := ⟨_, rfl⟩
      rw [hL] at HC HT hcv
      obtain ⟨ok, hok⟩ : ∃ ok, (codeCF t).isSome = ok := ⟨_, rfl⟩
      rw [hok] at HC
      clear ht hcell hL hok hEr
      go_wp2_with fail
      refine HC.out.mono ?_
      rintro e w1 ⟨v1, b1, rfl, ho1, hlo1, hb1⟩
      obtain ⟨A1, c1, rfl, -, -⟩ := ho1.slice
      have hB1 := hB.trans (hb1.mono (by omega))
      have hR1 := ownsRow_below hK.row hb1
      have kg1 := kg.below hb1 kg.lt
      have hs1 := hb1.size
      have hba := (Below.refl w1.heap.size w1).alloc (Nat.le_refl _) (.cells #[.slice A1 L.length c1] 31)
      clear z0 z1 g1
      obtain ⟨z1, g1⟩ := kg1.at_ 1 (x := .slice AO us.length cO) rfl
      go_wp2_with (at_builtin; refine wpList_append_kept _ rfl _ _ 24 rfl W.heap.size 31 q (.slice none 0 0) 1 24 Tryz.underlying24 hq hqz0 hqz1 hqz2 rfl (by decide) _ us.length us rfl (hR1.alloc _) ⟨w1.heap.size, 0, none⟩ 1 1 [.slice A1 L.length c1] rfl rfl (new_cells _ _ _) (by simp [Value.oneCell']) (by unfold maxLen; omega) (by omega) (by simp; omega) ?_)
      intro v7 w7 ho7 hg7 hv7 hk7
      obtain ⟨A7, c7, rfl, -, -⟩ := owns_slice ho7
      have hK7 := KRows.snoc hK hb1 ho1 hlo1 hba (by omega) ho7 hg7 (by simpa using hv7)
      rw [HT.out] at hK7
      have hK8 := hK7.set (g := w.heap.size + 2) (i := 1) (by omega) (.slice A7 (us.length + 1) c7)
      have hB7 := (hB1.alloc (by omega) (.cells #[.slice A1 L.length c1] 31)).grown hg7 (by simp; omega) (fun x hx => by have := (hR1.lt x hx).1; omega)
      have hB8 := hB7.setCell (p := ⟨w.heap.size + 2, 1, none⟩) (Nat.le_refl _) (.slice A7 (us.length + 1) c7)
      have kg7 := (kg1.alloc (.cells #[.slice A1 L.length c1] 31)).grown hg7 (fun x hx => by have := (hR1.lt x hx).1; omega)
      obtain ⟨y1, f1⟩ := kg7.at_ 1 (x := .slice AO us.length cO) rfl
      have kg8 := kg7.set_ 1 (.slice A7 (us.length + 1) c7)
      have HF := Lib.hid (And.intro hK8 (And.intro hB8 kg8))
      clear hk7 ho7 hg7 hv7 hR1 hba hK7 hK8 hB7 hB8 kg7 kg8 kg1 z1 g1
      go_wp2_with fail
      exact ⟨⟨k + 1, _, _, _, by omega, by go_num, Lib.hid (by simp [HL.out]), HF.out.1, HF.out.2.1, by simpa using HF.out.2.2⟩, by simp [intOf] <;> omega⟩
    · obtain rfl : k = ts.length := by omega
      obtain ⟨bs, h1, h2⟩ := hK.own
      rw [List.take_length] at h1
      have k1r := K1.out.below hB (by omega)
      obtain ⟨y0, f0⟩ := k1r.at_ 0 (x := .int .i64 0) rfl
      have k2a := k1r.set_ 0 (.int .i64 2)
      obtain ⟨y1, f1⟩ := k2a.at_ 1 (x := .slice none 0 0) rfl
      have k2b := k2a.set_ 1 (.slice AO us.length cO)
      obtain ⟨r0, -⟩ := k2b.at_ 0 (x := .int .i64 2) rfl
      obtain ⟨r1, -⟩ := k2b.at_ 1 (x := .slice AO us.length cO) rfl
      have hOF := (h1.far (b := w.heap.size + 1) (i := 0) (u := .int .i64 2) fun x hx => by have := h2 x hx; omega).far (b := w.heap.size + 1) (i := 1) (u := .slice AO us.length cO) fun x hx => by have := h2 x hx; omega
      have hBF := ((HB0.out.trans (hB.mono (by omega))).setCell (p := ⟨w.heap.size + 1, 0, none⟩) (by show w.heap.size ≤ w.heap.size + 1; omega) (.int .i64 2)).setCell (p := ⟨w.heap.size + 1, 1, none⟩) (by show w.heap.size ≤ w.heap.size + 1; omega) (.slice AO us.length cO)
      have HF := Lib.hid (And.intro hOF (And.intro hBF fun x hx => Nat.le_trans (by omega : w.heap.size ≤ W.heap.size) (h2 x hx)))
      clear hr hOF hBF k1r k2a k2b hK hB h1 h2 kg
      go_wp2_with fail
      exact bodyPost_ret (v := .agg #[.int .i64 2, .slice AO us.length cO]) (by simp [results, Tryz.results42, go_sem, r0, r1]) rfl ⟨_, bs, rfl, HF.out.1, HF.out.2.2, HF.out.2.1⟩
end Go.Proofs.YtgbgjlmkmlhefaaGreatDoor
