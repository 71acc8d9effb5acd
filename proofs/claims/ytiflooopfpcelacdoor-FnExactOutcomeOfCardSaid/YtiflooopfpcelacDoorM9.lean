/- Contracts of the laws' helpers over moves and lists of moves. Condition: the size that the law bounds. -/
import Derived.Test.YtiflooopfpcelacDoorMach
import Derived.Test.YtiflooopfpcelacDoorM1
namespace Go.Proofs.YtiflooopfpcelacDoor
set_option maxRecDepth 20000
set_option linter.unusedSimpArgs false
set_option linter.unusedVariables false
open Go.ChangeShapes Go.WideShapes Go.ChangeAt Go.RowKit
def mvC (m : Mv) : List Value := [.int .i64 m.t, .bool m.d]
def mvCs (ms : List Mv) : List Value := ms.flatMap mvC
theorem mvCs_cons (m : Mv) (ms : List Mv) : mvCs (m :: ms) = mvC m ++ mvCs ms := by simp [mvCs]
theorem mvCs_append (ms ns : List Mv) : mvCs (ms ++ ns) = mvCs ms ++ mvCs ns := by simp [mvCs]
theorem mvCs_one (m : Mv) : mvCs [m] = mvC m := by simp [mvCs]
theorem mvCs_len : ∀ (ms : List Mv), (mvCs ms).length = ms.length * 2
  | [] => rfl
  | m :: ms => by rw [mvCs_cons, List.length_append, mvCs_len ms]; simp [mvC]; omega
theorem mvCs_at : ∀ {xs : List Mv} {k : Nat} {x : Mv}, xs[k]? = some x → ∀ j < 2, (mvCs xs)[k * 2 + j]? = (mvC x)[j]?
  | [], k, x, h, j, hj => by simp at h
  | i :: xs, 0, x, h, j, hj => by
    simp only [List.getElem?_cons_zero, Option.some.injEq] at h
    subst h
    rw [mvCs_cons, List.getElem?_append_left (by simp [mvC]; omega)]
    simp
  | i :: xs, k + 1, x, h, j, hj => by
    rw [mvCs_cons, List.getElem?_append_right (by simp [mvC]; omega)]
    have e : (k + 1) * 2 + j - (mvC i).length = k * 2 + j := by simp [mvC]; omega
    rw [e]
    exact mvCs_at (by simpa using h) j hj
theorem mv_at {w wr : World} {b o k : Nat} {xs : List Mv} (hc : ∀ j u, (mvCs xs)[j]? = some u → w.cell? ⟨b, o + j, none⟩ = some u) (h : k < xs.length) {B : Nat} (hB : Below B w wr) (hb : b < B) :
    ∃ x, Hid (xs[k]? = some x) ∧ wr.cell? ⟨b, o + k * 2, none⟩ = some (.int .i64 x.t) ∧ wr.cell? ⟨b, o + k * 2 + 1, none⟩ = some (.bool x.d) := by
  have hx : xs[k]? = some xs[k] := List.getElem?_eq_getElem h
  have hh : ∀ j u, (mvCs xs)[j]? = some u → wr.cell? ⟨b, o + j, none⟩ = some u := fun j u hu => (hB.cell (p := ⟨b, o + j, none⟩) hb).trans (hc j u hu)
  exact ⟨xs[k], Lib.hid hx, hh (k * 2 + 0) _ (mvCs_at hx 0 (by omega)), hh (k * 2 + 1) _ (mvCs_at hx 1 (by omega))⟩
theorem mv_atA {w wr : World} {ad : Addr} {k : Nat} {xs : List Mv} (hc : ∀ j u, (mvCs xs)[j]? = some u → w.cell? (ad.add j) = some u) (h : k < xs.length) {B : Nat} (hB : Below B w wr) (hb : ad.block < B) :
    ∃ x, Hid (xs[k]? = some x) ∧ wr.cell? (ad.add (k * 2)) = some (.int .i64 x.t) ∧ wr.cell? ⟨(ad.add (k * 2)).block, (ad.add (k * 2)).off + 1, none⟩ = some (.bool x.d) := by
  have hx : xs[k]? = some xs[k] := List.getElem?_eq_getElem h
  have hh : ∀ j u, (mvCs xs)[j]? = some u → wr.cell? (ad.add j) = some u := fun j u hu => (hB.cell (p := ad.add j) (by rw [add_block]; exact hb)).trans (hc j u hu)
  refine ⟨xs[k], Lib.hid hx, hh (k * 2 + 0) _ (mvCs_at hx 0 (by omega)), ?_⟩
  rw [← add_more ad _ 1 (by omega)]
  exact hh (k * 2 + 1) _ (mvCs_at hx 1 (by omega))
def zMv : Nat → List Value
  | 0 => []
  | n + 1 => .int .i64 0 :: .bool false :: zMv n
theorem zMv_len : ∀ n, (zMv n).length = n * 2
  | 0 => rfl
  | n + 1 => by simp only [zMv, List.length_cons, zMv_len n]; omega
theorem zMv_at : ∀ (n j : Nat), j < n * 2 → (zMv n)[j]? = some (#[Value.int .i64 0, .bool false][j % 2]!)
  | 0, j, h => by omega
  | n + 1, 0, h => rfl
  | n + 1, 1, h => rfl
  | n + 1, j + 2, h => by
    rw [show (j + 2) % 2 = j % 2 from by omega]
    exact zMv_at n j (by omega)
theorem zMv_made (n : Nat) : (madeCells #[.int .i64 0, .bool false] (n * 2)).toList = zMv n := by
  apply List.ext_getElem?
  intro j
  by_cases hj : j < n * 2
  · rw [zMv_at n j hj]
    simp only [madeCells, Array.toList_map, List.getElem?_map, Array.toList_range, List.getElem?_range hj, Option.map_some]
    rfl
  · rw [List.getElem?_eq_none (l := zMv n) (by rw [zMv_len]; omega)]
    simp [madeCells, hj]
def mvPart (ms : List Mv) (k : Nat) : List Value := mvCs (ms.take k) ++ zMv (ms.length - k)
theorem mvPart_at {ms : List Mv} {k : Nat} (h : k < ms.length) : (mvPart ms k)[k * 2]? = some (.int .i64 0) ∧ (mvPart ms k)[k * 2 + 1]? = some (.bool false) := by
  have hc : (mvCs (ms.take k)).length = k * 2 := by rw [mvCs_len, List.length_take]; omega
  unfold mvPart
  rw [show ms.length - k = (ms.length - (k + 1)) + 1 from by omega, zMv]
  refine ⟨?_, ?_⟩
  all_goals
    rw [List.getElem?_append_right (by omega), hc]
    simp
theorem mvPart_set {ms : List Mv} {k : Nat} {t : Mv} (h : ms[k]? = some t) : ((mvPart ms k).set (k * 2) (.int .i64 t.t)).set (k * 2 + 1) (.bool t.d) = mvPart ms (k + 1) := by
  have hk := (List.getElem?_eq_some_iff.1 h).1
  have hc : (mvCs (ms.take k)).length = k * 2 := by rw [mvCs_len, List.length_take]; omega
  unfold mvPart
  rw [show ms.length - k = (ms.length - (k + 1)) + 1 from by omega, zMv, set2 _ _ _ _ hc, List.take_add_one, h, Option.toList_some, mvCs_append, mvCs_one, List.append_assoc]
  rfl
theorem mvPart_all (ms : List Mv) : mvPart ms ms.length = mvCs ms := by simp [mvPart, zMv]
def mkMv (j : Nat) (m : Int) : Mv := ⟨m + (j * 2 : Nat), (m + (j * 2 + 1 : Nat)) % 3 == 0⟩
def mkMvs (n : Nat) (m : Int) : List Mv := (List.range n).map fun j => mkMv j m
theorem mkMvs_len (n : Nat) (m : Int) : (mkMvs n m).length = n := by simp [mkMvs]
def mvAt (ms : List Mv) (m : Int) (k : Nat) : List Mv := mkMvs k m ++ ms.drop k
theorem mvAt_len {ms : List Mv} {m : Int} {k : Nat} (h : k ≤ ms.length) : (mvAt ms m k).length = ms.length := by
  simp only [mvAt, List.length_append, mkMvs_len, List.length_drop]
  omega
theorem mvAt_at {ms : List Mv} {m : Int} {k : Nat} {t : Mv} (h : ms[k]? = some t) : (mvAt ms m k)[k]? = some t := by
  obtain ⟨hk, rfl⟩ := List.getElem?_eq_some_iff.1 h
  unfold mvAt
  rw [List.getElem?_append_right (by rw [mkMvs_len]; omega), mkMvs_len, Nat.sub_self]
  simp
theorem mvCs_set : ∀ {xs : List Mv} {k : Nat} {x : Mv} (y : Mv), xs[k]? = some x → ((mvCs xs).set (k * 2) (.int .i64 y.t)).set (k * 2 + 1) (.bool y.d) = mvCs (xs.set k y)
  | [], k, x, y, h => by simp at h
  | i :: xs, 0, x, y, h => by simp [mvCs, mvC]
  | i :: xs, k + 1, x, y, h => by
    have := mvCs_set (xs := xs) (k := k) y (by simpa using h)
    rw [List.set_cons_succ, mvCs_cons, mvCs_cons, ← this, List.set_append, if_neg (by simp [mvC]; omega), List.set_append, if_neg (by simp [mvC]; omega)]
    have e1 : (k + 1) * 2 - (mvC i).length = k * 2 := by simp [mvC]; omega
    have e2 : (k + 1) * 2 + 1 - (mvC i).length = k * 2 + 1 := by simp [mvC]; omega
    rw [e1, e2]
theorem mvAt_next {ms : List Mv} {m : Int} {k : Nat} {t : Mv} (h : ms[k]? = some t) : (mvAt ms m k).set k (mkMv k m) = mvAt ms m (k + 1) := by
  obtain ⟨hk, rfl⟩ := List.getElem?_eq_some_iff.1 h
  unfold mvAt
  rw [List.set_append, if_neg (by rw [mkMvs_len]; omega), mkMvs_len, Nat.sub_self, List.drop_eq_getElem_cons hk, List.set_cons_zero]
  simp only [mkMvs, List.range_succ, List.map_append, List.map_cons, List.map_nil, List.append_assoc, List.cons_append, List.nil_append]
end Go.Proofs.YtiflooopfpcelacDoor
