/- Contracts of chapter 8's functions (package impl), first part: an object's tests, the list of objects, HeapOk. Condition: the heap's rows can be read. -/
import Derived.Test.YtpenneklpolhgaaDoorVH
import Derived.Deep.RegionHeld3
namespace Go.Proofs.YtpenneklpolhgaaDoor
set_option maxRecDepth 20000
set_option linter.unusedSimpArgs false
set_option linter.unusedVariables false
open Go.ChangeShapes Go.WideShapes Go.ChangeAt Go.RowKit
set_option linter.unusedVariables false
/-- an object's cells: its number, its generation, whether it is live -/
def obC (h : Hp) (i : Nat) : List Value := [.int .i64 i, .int .i64 (h.g.getD i 0), .bool (h.l.getD i false)]
def obCs (h : Hp) (k : Nat) : List Value := (List.range k).flatMap (obC h)
theorem obCs_succ (h : Hp) (k : Nat) : obCs h (k + 1) = obCs h k ++ obC h k := by simp [obCs, List.range_succ]
theorem obCs_len (h : Hp) : ∀ k, (obCs h k).length = k * 3
  | 0 => rfl
  | k + 1 => by rw [obCs_succ, List.length_append, obCs_len h k]; simp [obC]; omega
theorem obCs_at (h : Hp) : ∀ {n k : Nat}, k < n → ∀ j < 3, (obCs h n)[k * 3 + j]? = (obC h k)[j]?
  | 0, k, hk, j, hj => by omega
  | n + 1, k, hk, j, hj => by
    rw [obCs_succ]
    by_cases e : k = n
    · subst e
      rw [List.getElem?_append_right (by rw [obCs_len]; omega), obCs_len]
      congr 1
      omega
    · rw [List.getElem?_append_left (by rw [obCs_len]; omega)]
      exact obCs_at h (by omega) j hj
def zOb : Nat → List Value
  | 0 => []
  | n + 1 => .int .i64 0 :: .int .i64 0 :: .bool false :: zOb n
theorem zOb_len : ∀ n, (zOb n).length = n * 3
  | 0 => rfl
  | n + 1 => by simp only [zOb, List.length_cons, zOb_len n]; omega
theorem zOb_at : ∀ (n j : Nat), j < n * 3 → (zOb n)[j]? = some (#[Value.int .i64 0, .int .i64 0, .bool false][j % 3]!)
  | 0, j, h => by omega
  | n + 1, 0, h => rfl
  | n + 1, 1, h => rfl
  | n + 1, 2, h => rfl
  | n + 1, j + 3, h => by
    rw [show (j + 3) % 3 = j % 3 from by omega]
    exact zOb_at n j (by omega)
theorem zOb_made (n : Nat) : (madeCells #[.int .i64 0, .int .i64 0, .bool false] (n * 3)).toList = zOb n := by
  apply List.ext_getElem?
  intro j
  by_cases hj : j < n * 3
  · rw [zOb_at n j hj]
    simp only [madeCells, Array.toList_map, List.getElem?_map, Array.toList_range, List.getElem?_range hj, Option.map_some]
    rfl
  · rw [List.getElem?_eq_none (l := zOb n) (by rw [zOb_len]; omega)]
    simp [madeCells, hj]
def obPart (h : Hp) (n k : Nat) : List Value := obCs h k ++ zOb (n - k)
theorem obPart_at {h : Hp} {n k : Nat} (hk : k < n) : (obPart h n k)[k * 3]? = some (.int .i64 0) ∧ (obPart h n k)[k * 3 + 1]? = some (.int .i64 0) ∧ (obPart h n k)[k * 3 + 2]? = some (.bool false) := by
  have hc := obCs_len h k
  unfold obPart
  rw [show n - k = (n - (k + 1)) + 1 from by omega, zOb]
  refine ⟨?_, ?_, ?_⟩
  all_goals
    rw [List.getElem?_append_right (by omega), hc]
    simp
theorem set3o {L R : List Value} {k : Nat} (a b c a' b' c' : Value) (hl : L.length = k * 3) :
    (((L ++ a :: b :: c :: R).set (k * 3) a').set (k * 3 + 1) b').set (k * 3 + 2) c' = L ++ a' :: b' :: c' :: R := by
  subst_vars
  rw [List.set_append, if_neg (by omega), List.set_append, if_neg (by omega), List.set_append, if_neg (by omega)]
  simp [hl, show k * 3 + 1 - k * 3 = 1 from by omega, show k * 3 + 2 - k * 3 = 2 from by omega]
theorem obPart_set {h : Hp} {n k : Nat} {x : Int} {y : Bool} (hk : k < n) (hx : h.g[k]? = some x) (hy : h.l[k]? = some y) :
    (((obPart h n k).set (k * 3) (.int .i64 k)).set (k * 3 + 1) (.int .i64 x)).set (k * 3 + 2) (.bool y) = obPart h n (k + 1) := by
  unfold obPart
  rw [show n - k = (n - (k + 1)) + 1 from by omega, zOb, set3o _ _ _ _ _ _ (obCs_len h k), obCs_succ, List.append_assoc]
  simp [obC, List.getD_eq_getElem?_getD, hx, hy]
theorem obPart_all (h : Hp) (n : Nat) : obPart h n n = obCs h n := by simp [obPart, zOb]
theorem infoObj : (Tryd.prog.info? 92).map (fun i => (i.zero, i.size, i.bytes)) = some (some (.agg #[.int .i64 0, .int .i64 0, .bool false]), 3, 24) := by kernel_rfl
set_option maxHeartbeats 400000 in
theorem ref_allocated (r : P2) (w : World) :
    Calls Tryd.prog 58 #[.agg #[.int .i64 r.a, .int .i64 r.b]] w fun e w' => e = .returned (.bool (decide (0 < r.b))) ∧ Below w.heap.size w w' := by
  have hB := (Below.refl w.heap.size w).alloc (Nat.le_refl _) (.cells #[.int .i64 r.a, .int .i64 r.b] 33)
  by_cases h0 : 0 < r.b
  all_goals
    go_enter Tryd.func58, Tryd.ntmps58
    go_wp2_with fail
    go_ret
    exact ⟨ret_bool (by simp; omega), hB⟩
set_option maxHeartbeats 800000 in
theorem obj_valid (k x : Int) (y : Bool) (w : World) :
    Calls Tryd.prog 73 #[.agg #[.int .i64 k, .int .i64 x, .bool y]] w fun e w' => e = .returned (.bool (gOk x y)) ∧ Below w.heap.size w w' := by
  have hB := (Below.refl w.heap.size w).alloc (Nat.le_refl _) (.cells #[.int .i64 k, .int .i64 x, .bool y] 92)
  have k0 := Bk.new w #[.int .i64 k, .int .i64 x, .bool y] 92
  cases hi : inB x 0 1000000
  · have HG : Hid (gOk x y = false) := Lib.hid (by simp [gOk, hi])
    rcases inB_false hi with h1 | h1
    all_goals
      clear hi k0
      go_enter Tryd.func73, Tryd.ntmps73
      go_wp2_with fail
      go_ret
      exact ⟨ret_bool HG.out.symm, hB⟩
  · obtain ⟨h1, h2⟩ := inB_true hi
    by_cases h0 : 0 < x
    · have HG : Hid (gOk x y = true) := Lib.hid (by simp [gOk, hi]; omega)
      have hd : decide (0 < x) = true := by simp [h0]
      have HR := Lib.hid (ref_allocated ⟨k, x⟩ (w.alloc (.cells #[.int .i64 k, .int .i64 x, .bool y] 92)))
      rw [show decide (0 < (P2.mk k x).b) = true from hd] at HR
      clear hi hd
      go_enter Tryd.func73, Tryd.ntmps73
      go_wp2_with (go_at_call 58; refine HR.out.mono ?_; rintro e w1 ⟨rfl, hb1⟩)
      go_ret
      exact ⟨ret_bool HG.out.symm, hB.trans (hb1.mono hB.size)⟩
    · have hx0 : x = 0 := by omega
      subst hx0
      have HR := Lib.hid (ref_allocated ⟨k, 0⟩ (w.alloc (.cells #[.int .i64 k, .int .i64 0, .bool y] 92)))
      rw [show decide (0 < (P2.mk k 0).b) = false from rfl] at HR
      clear hi h1 h2 h0
      cases y
      all_goals
        go_enter Tryd.func73, Tryd.ntmps73
        go_wp2_with (go_at_call 58; refine HR.out.mono ?_; rintro e w1 ⟨rfl, hb1⟩; obtain ⟨c2, -⟩ := (k0.below hb1 k0.lt).at_ 2 rfl)
        go_ret
        exact ⟨rfl, hB.trans (hb1.mono hB.size)⟩
def szB (h : Hp) : Bool := inB h.g.length 1 24 && decide (h.l.length = h.g.length)
set_option maxHeartbeats 800000 in
theorem heap_sizeOk (gv lv : Value) (h : Hp) (w : World) (r : RdHp w gv lv h) :
    Calls Tryd.prog 72 #[.agg #[gv, lv]] w fun e w' => e = .returned (.bool (szB h)) ∧ Below w.heap.size w w' := by
  obtain ⟨A, c, B, d, rfl, rfl, hc1, hd1, hc2, hd2⟩ := r.slices
  have hB := (Below.refl w.heap.size w).alloc (Nat.le_refl _) (.cells #[.slice A h.g.length c, .slice B h.l.length d] 29)
  cases hi : inB h.g.length 1 24
  · have HG : Hid (szB h = false) := Lib.hid (by simp [szB, hi])
    rcases inB_false hi with h1 | h1
    all_goals
      clear hi
      go_enter Tryd.func72, Tryd.ntmps72
      go_wp2_with fail
      go_ret
      exact ⟨ret_bool HG.out.symm, hB⟩
  · obtain ⟨h1, h2⟩ := inB_true hi
    by_cases hl : h.l.length = h.g.length
    · have HG : Hid (szB h = true) := Lib.hid (by simp [szB, hi, hl])
      have e : ((h.l.length : Int) == (h.g.length : Int)) = true := by simp [hl]
      clear hi hl
      go_enter Tryd.func72, Tryd.ntmps72
      go_wp2_with fail
      go_ret
      exact ⟨ret_bool HG.out.symm, hB⟩
    · have HG : Hid (szB h = false) := Lib.hid (by simp [szB, hl])
      have e : ((h.l.length : Int) == (h.g.length : Int)) = false := by simp; omega
      clear hi hl
      go_enter Tryd.func72, Tryd.ntmps72
      go_wp2_with fail
      go_ret
      exact ⟨ret_bool HG.out.symm, hB⟩
set_option maxHeartbeats 1600000 in
theorem heap_objects (gv lv : Value) (h : Hp) (w : World) (r : RdHp w gv lv h) (hle : h.g.length ≤ h.l.length) (hsz : h.g.length ≤ 16777216) :
    Calls Tryd.prog 57 #[.agg #[gv, lv]] w fun e w' => ∃ g, e = .returned (.slice (some ⟨g, 0, none⟩) h.g.length h.g.length) ∧ w'.ownsRow w.heap.size 92 3 (.slice (some ⟨g, 0, none⟩) h.g.length h.g.length) h.g.length (obCs h h.g.length) ∧ Below w.heap.size w w' := by
  obtain ⟨A, c, B, d, rfl, rfl, hc1, hd1, hc2, hd2⟩ := r.slices
  obtain ⟨i, hi, hz0, hz1, hz2⟩ := info_parts infoObj
  have k0 := Bk.new w #[.slice A h.g.length c, .slice B h.l.length d] 29
  have hB0 := (Below.refl w.heap.size w).alloc (Nat.le_refl _) (.cells #[.slice A h.g.length c, .slice B h.l.length d] 29)
  go_enter Tryd.func57, Tryd.ntmps57
  go_wp2_with (at_make; refine wpList_make_full _ rfl _ _ 89 rfl (w.heap.size + 1) 92 i (.agg #[.int .i64 0, .int .i64 0, .bool false]) 3 Tryd.underlying89 hi hz0 hz1 _ _ _ _ h.g.length rfl rfl rfl rfl (by rw [hz2]; omega) (by unfold maxLen; omega) (by simp) ?_)
  intro w1 hown hg1
  rw [zOb_made] at hown
  have hb1 : Below (w.heap.size + 1) (w.alloc (.cells #[.slice A h.g.length c, .slice B h.l.length d] 29)) w1 := (Below.refl _ _).grown hg1 (by simp) (by simp)
  have hB1 := hB0.trans (hb1.mono (Nat.le_succ _))
  have k1 := k0.below hb1 (Nat.lt_succ_self _)
  obtain ⟨x0, -⟩ := k1.at_ 0 (x := .slice A h.g.length c) rfl
  clear hg1 hb1 k0 hB0
  go_wp2_with fail
  go_loopw [13] (fun i wr => ∃ k : Nat, k ≤ h.g.length ∧ i = .int .i64 k ∧ wr.ownsRow (w.heap.size + 1) 92 3 (.slice (some ⟨w.heap.size + 1, 0, none⟩) h.g.length h.g.length) h.g.length (obPart h h.g.length k) ∧ Below w.heap.size w wr ∧ Bk wr w.heap.size #[.slice A h.g.length c, .slice B h.l.length d] 29) (fun i _ => h.g.length - (intOf i).toNat)
  case atStart => exact ⟨0, Nat.zero_le _, rfl, by simpa [obPart, obCs] using hown, hB1, k1⟩
  case round =>
    obtain ⟨k, hk, rfl, hO, hB, K⟩ := hrel
    clear hown hB1 k1 x0
    by_cases hlt : k < h.g.length
    · obtain ⟨b, o, c', b', o', d', he, he', -, ⟨hb, hb'⟩, hcell, hcell'⟩ := r.open_ (by omega) (by omega)
      injection he with e1 _ e2
      injection he' with e3 _ e4
      subst e1 e2 e3 e4
      obtain ⟨x, hxk, hx⟩ := int_at (w := wr) (fun j u hu => (hB.cell (p := ⟨b, o + j, none⟩) hb).trans (hcell j u hu)) hlt
      obtain ⟨y, hyk, hy⟩ := bool_at (w := wr) (k := k) (fun j u hu => (hB.cell (p := ⟨b', o' + j, none⟩) hb').trans (hcell' j u hu)) (by omega)
      obtain ⟨x1, -⟩ := K.at_ 1 (x := .slice (some ⟨b', o', none⟩) h.l.length d) rfl
      have hlg : k < h.l.length := by omega
      obtain ⟨p0, p1, p2⟩ := obPart_at (h := h) hlt
      have hc0 := (hO.cellAt (k * 3) (by omega)).trans p0
      have hc1 := (hO.cellAt (k * 3 + 1) (by omega)).trans p1
      have hc2 := (hO.cellAt (k * 3 + 2) (by omega)).trans p2
      have hf0 := hO.frozenAt (k * 3)
      have hf1 := hO.frozenAt (k * 3 + 1)
      have hf2 := hO.frozenAt (k * 3 + 2)
      have HP := Lib.hid (obPart_set hlt hxk.out hyk.out)
      have hO' := (((hO.stored (k * 3) (.int .i64 k)).1.stored (k * 3 + 1) (.int .i64 x)).1.stored (k * 3 + 2) (.bool y)).1
      rw [HP.out] at hO'
      clear hcell hcell' p0 p1 p2
      go_wp2_with fail
      exact ⟨⟨k + 1, by omega, by go_num, hO', ((hB.setCell (p := ⟨w.heap.size + 1, k * 3, none⟩) (Nat.le_succ _) _).setCell (p := ⟨w.heap.size + 1, k * 3 + 1, none⟩) (Nat.le_succ _) _).setCell (p := ⟨w.heap.size + 1, k * 3 + 2, none⟩) (Nat.le_succ _) _,
        ((K.far (p := ⟨w.heap.size + 1, k * 3, none⟩) (by simp) _).far (p := ⟨w.heap.size + 1, k * 3 + 1, none⟩) (by simp) _).far (p := ⟨w.heap.size + 1, k * 3 + 2, none⟩) (by simp) _⟩, by simp [intOf]; omega⟩
    · obtain rfl : k = h.g.length := by omega
      rw [obPart_all] at hO
      have HO := Lib.hid hO
      clear hO
      go_wp2_with fail
      go_ret
      refine ⟨w.heap.size + 1, rfl, ?_, hB⟩
      obtain ⟨hl, ⟨h1, -⟩ | ⟨g, cap, cur, h1, h2, h3⟩⟩ := HO.out
      · cases h1
      · exact ⟨hl, .inr ⟨g, cap, cur, h1, by omega, h3⟩⟩
end Go.Proofs.YtpenneklpolhgaaDoor
