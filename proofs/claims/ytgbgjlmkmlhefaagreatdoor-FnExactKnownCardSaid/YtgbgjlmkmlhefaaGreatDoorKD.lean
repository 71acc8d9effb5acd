import Derived.Test.YtgbgjlmkmlhefaaGreatDoorK1
import Derived.Test.YtgbgjlmkmlhefaaGreatDoorKA
/- The known litmus tests: spec.Known and impl.Known answer alike. Condition: the library's variables stand as written. -/
namespace Go.Proofs.YtgbgjlmkmlhefaaGreatDoor
set_option maxRecDepth 20000
set_option linter.unusedSimpArgs false
set_option linter.unusedVariables false
open Go.ChangeShapes Go.WideShapes Go.ChangeAt Go.RowKit
set_option linter.unusedVariables false
abbrev KRow := List UInt8 × List (List UInt8) × List UInt8
def tx0 : List (List UInt8) := [[115, 101, 116, 32, 49, 32, 49, 59, 32, 115, 116, 111, 114, 101, 32, 49, 32, 48, 59, 32, 108, 111, 97, 100, 32, 48, 32, 49], [115, 101, 116, 32, 49, 32, 49, 59, 32, 115, 116, 111, 114, 101, 32, 49, 32, 49, 59, 32, 108, 111, 97, 100, 32, 48, 32, 48]]
def tx1 : List (List UInt8) := [[115, 101, 116, 32, 49, 32, 49, 59, 32, 115, 116, 111, 114, 101, 32, 49, 32, 48, 59, 32, 102, 101, 110, 99, 101, 59, 32, 108, 111, 97, 100, 32, 48, 32, 49], [115, 101, 116, 32, 49, 32, 49, 59, 32, 115, 116, 111, 114, 101, 32, 49, 32, 49, 59, 32, 102, 101, 110, 99, 101, 59, 32, 108, 111, 97, 100, 32, 48, 32, 48]]
def tx2 : List (List UInt8) := [[115, 101, 116, 32, 49, 32, 49, 59, 32, 115, 116, 111, 114, 101, 32, 49, 32, 48, 59, 32, 115, 116, 111, 114, 101, 32, 49, 32, 49], [108, 111, 97, 100, 32, 48, 32, 49, 59, 32, 108, 111, 97, 100, 32, 49, 32, 48]]
def tx3 : List (List UInt8) := [[115, 101, 116, 32, 49, 32, 49, 59, 32, 108, 111, 97, 100, 32, 48, 32, 48, 59, 32, 115, 116, 111, 114, 101, 32, 49, 32, 49], [115, 101, 116, 32, 49, 32, 49, 59, 32, 108, 111, 97, 100, 32, 48, 32, 49, 59, 32, 115, 116, 111, 114, 101, 32, 49, 32, 48]]
def tx4 : List (List UInt8) := [[115, 101, 116, 32, 49, 32, 49, 59, 32, 115, 116, 111, 114, 101, 32, 49, 32, 48], [108, 111, 97, 100, 32, 48, 32, 48, 59, 32, 108, 111, 97, 100, 32, 50, 32, 48]]
def tx5 : List (List UInt8) := [[115, 101, 116, 32, 49, 32, 49, 59, 32, 115, 116, 111, 114, 101, 32, 49, 32, 48, 59, 32, 108, 111, 97, 100, 32, 48, 32, 48, 59, 32, 108, 111, 97, 100, 32, 50, 32, 49], [115, 101, 116, 32, 49, 32, 49, 59, 32, 115, 116, 111, 114, 101, 32, 49, 32, 49, 59, 32, 108, 111, 97, 100, 32, 48, 32, 49, 59, 32, 108, 111, 97, 100, 32, 50, 32, 48]]
def tx6 : List (List UInt8) := [[115, 101, 116, 32, 49, 32, 49, 59, 32, 115, 116, 111, 114, 101, 32, 49, 32, 48], [115, 101, 116, 32, 49, 32, 49, 59, 32, 108, 111, 97, 100, 32, 48, 32, 48, 59, 32, 115, 116, 111, 114, 101, 32, 49, 32, 49], [108, 111, 97, 100, 32, 48, 32, 49, 59, 32, 108, 111, 97, 100, 32, 50, 32, 48]]
def tx7 : List (List UInt8) := [[115, 101, 116, 32, 49, 32, 49, 59, 32, 115, 119, 97, 112, 32, 48, 32, 49, 32, 48, 59, 32, 108, 111, 97, 100, 32, 50, 32, 49], [115, 101, 116, 32, 49, 32, 49, 59, 32, 115, 119, 97, 112, 32, 48, 32, 49, 32, 49, 59, 32, 108, 111, 97, 100, 32, 50, 32, 48]]
def tab : List KRow := [([83, 66], tx0, [48, 58, 48, 61, 48, 32, 38, 32, 49, 58, 48, 61, 48]), ([83, 66, 70], tx1, [48, 58, 48, 61, 48, 32, 38, 32, 49, 58, 48, 61, 48]), ([77, 80], tx2, [49, 58, 48, 61, 49, 32, 38, 32, 49, 58, 49, 61, 48]), ([76, 66], tx3, [48, 58, 48, 61, 49, 32, 38, 32, 49, 58, 48, 61, 49]), ([67, 79], tx4, [49, 58, 48, 61, 49, 32, 38, 32, 49, 58, 50, 61, 48]), ([82, 87], tx5, [48, 58, 48, 61, 49, 32, 38, 32, 48, 58, 50, 61, 48, 32, 38, 32, 49, 58, 48, 61, 49, 32, 38, 32, 49, 58, 50, 61, 48]), ([87, 67], tx6, [49, 58, 48, 61, 49, 32, 38, 32, 50, 58, 48, 61, 49, 32, 38, 32, 50, 58, 50, 61, 48]), ([83, 87], tx7, [48, 58, 50, 61, 48, 32, 38, 32, 49, 58, 50, 61, 48])]
def askV (t : List UInt8) : List Ins := (askCF t).getD []
def scanK (s : List UInt8) : List KRow → Option (List (List Ins) × List Ins)
  | [] => none
  | r :: rs => if r.1 = s then some (r.2.1.map codeV, askV r.2.2) else scanK s rs
def knownF (s : List UInt8) : Option (List (List Ins) × List Ins) := scanK s tab
def knP (s : List UInt8) : Pr := match knownF s with | some r => ⟨2, r.1⟩ | none => ⟨0, []⟩
def knA (s : List UInt8) : List Ins := match knownF s with | some r => r.2 | none => []
def knB (s : List UInt8) : Bool := (knownF s).isSome
theorem scan_hit {s : List UInt8} {k : Nat} {r : KRow} (h : knownF s = scanK s (tab.drop k)) (hr : tab[k]? = some r) (e : r.1 = s) : knownF s = some (r.2.1.map codeV, askV r.2.2) := by
  rw [h, drop_of hr]
  simp [scanK, e]
theorem scan_miss {s : List UInt8} {k : Nat} {r : KRow} (h : knownF s = scanK s (tab.drop k)) (hr : tab[k]? = some r) (e : ¬ r.1 = s) : knownF s = scanK s (tab.drop (k + 1)) := by
  rw [h, drop_of hr]
  simp [scanK, e]
theorem scan_end {s : List UInt8} (h : knownF s = scanK s (tab.drop 8)) : knownF s = none := by
  rw [h]
  rfl
theorem tab_len : tab.length = 8 := rfl
theorem tab_texts {k : Nat} {r : KRow} (h : tab[k]? = some r) : r.1.length ≤ 1000 ∧ r.2.1.length ≤ 8 ∧ (∀ t ∈ r.2.1, t.length ≤ 1000) ∧ r.2.2.length ≤ 1000 := by
  have hm := List.mem_of_getElem? h
  have hall : ∀ r ∈ tab, r.1.length ≤ 1000 ∧ r.2.1.length ≤ 8 ∧ (∀ t ∈ r.2.1, t.length ≤ 1000) ∧ r.2.2.length ≤ 1000 := by decide +kernel
  exact hall r hm
/-- what the answer is: a program of its own, atoms of their own in older blocks, whether the name is known -/
def RetKn (s : List UInt8) (w : World) (e : Ending) (w' : World) : Prop :=
  ∃ (v0 : Value) (bs0 : List Nat) (v1 : Value) (bs1 : List Nat) (mid : Nat), e = .returned (.tuple #[.agg #[.int .i64 (knP s).c, v0], v1, .bool (knB s)]) ∧ OwnSS w' v0 (knP s).x bs0 ∧ Own w' v1 4 (knA s).length (flc (knA s)) bs1 ∧
    (∀ b ∈ bs0, mid ≤ b) ∧ (∀ b ∈ bs1, b < mid) ∧ (∀ b ∈ bs1, w.heap.size ≤ b) ∧ w.heap.size ≤ mid ∧ Below w.heap.size w w'
theorem kn_some {s : List UInt8} {cs : List (List Ins)} {L : List Ins} (h : knownF s = some (cs, L)) : knP s = ⟨2, cs⟩ ∧ knA s = L ∧ knB s = true := by simp [knP, knA, knB, h]
theorem kn_none {s : List UInt8} (h : knownF s = none) : knP s = ⟨0, []⟩ ∧ knA s = [] ∧ knB s = false := by simp [knP, knA, knB, h]
theorem kn_tot (s : List UInt8) : totSS (knP s).x ≤ 1000 ∧ (knA s).length ≤ 8 := by
  have key : ∀ (rs : List KRow) (cs : List (List Ins)) (L : List Ins), (∀ r ∈ rs, r.2.1.length ≤ 8) → scanK s rs = some (cs, L) → totSS cs ≤ 1000 ∧ L.length ≤ 8 := by
    intro rs
    induction rs with
    | nil => intro cs L _ h; cases h
    | cons r rs ih =>
      intro cs L hr h
      unfold scanK at h
      split at h
      · injection h with h
        injection h with h1 h2
        subst h1 h2
        refine ⟨?_, askCF_len _⟩
        have h8 := hr r (List.mem_cons_self ..)
        have hs : ∀ (l : List (List UInt8)), ((l.map codeV).map List.length).sum ≤ 16 * l.length := by
          intro l
          induction l with
          | nil => simp
          | cons t l ih =>
            have := codeV_len t
            simp only [List.map_cons, List.sum_cons, List.length_cons]
            omega
        have := hs r.2.1
        unfold totSS
        rw [List.length_map]
        omega
      · exact ih cs L (fun r h => hr r (List.mem_cons_of_mem _ h)) h
  cases h : knownF s with
  | none =>
    obtain ⟨h1, h2, -⟩ := kn_none h
    rw [h1, h2]
    simp [totSS]
  | some r =>
    obtain ⟨cs, L⟩ := r
    obtain ⟨h1, h2, -⟩ := kn_some h
    rw [h1, h2]
    exact key tab cs L (fun r hr => by obtain ⟨k, hk, rfl⟩ := List.getElem_of_mem hr; exact (tab_texts (List.getElem?_eq_getElem hk)).2.1) h
/-- a row of the table in memory: its name, its texts, its query -/
def RowAt (w : World) (a b c : Addr) (r : KRow) : Prop := ∃ v, w.cell? a = some (str r.1) ∧ w.cell? b = some v ∧ w.cell? c = some (str r.2.2) ∧ Rd w v 1 r.2.1.length (kstrs r.2.1)
theorem below_chain {B : Nat} {w w1 : World} (h : Below B w w1) (hB : B ≤ w.heap.size) (o : Obj) : Below B w (w1.alloc o) := h.alloc (Nat.le_trans hB h.size) o
theorem rd_chain {w w1 w2 : World} {v : Value} {n : Nat} {cs : List Value} (h : Rd w1 v 1 n cs) (hb : Below w1.heap.size w1 w2) : Rd w2 v 1 n cs := h.below hb
theorem rows8 {T T' : TypeId} (w : World) (t0 t1 t2 t3 t4 t5 t6 t7 : List (List UInt8)) (n0 n1 n2 n3 n4 n5 n6 n7 q0 q1 q2 q3 q4 q5 q6 q7 : List UInt8) (hl : t0.length ≤ 1048576 ∧ t1.length ≤ 1048576 ∧ t2.length ≤ 1048576 ∧ t3.length ≤ 1048576 ∧ t4.length ≤ 1048576 ∧ t5.length ≤ 1048576 ∧ t6.length ≤ 1048576 ∧ t7.length ≤ 1048576) :
    RowAt ((((((((((w.alloc (.cells (kstrs t0).toArray T)).alloc (.cells (kstrs t1).toArray T)).alloc (.cells (kstrs t2).toArray T)).alloc (.cells (kstrs t3).toArray T)).alloc (.cells (kstrs t4).toArray T)).alloc (.cells (kstrs t5).toArray T)).alloc (.cells (kstrs t6).toArray T)).alloc (.cells (kstrs t7).toArray T)).alloc (.cells #[str n0, .slice (some ⟨w.heap.size + 0, 0, none⟩) t0.length t0.length, str q0, str n1, .slice (some ⟨w.heap.size + 1, 0, none⟩) t1.length t1.length, str q1, str n2, .slice (some ⟨w.heap.size + 2, 0, none⟩) t2.length t2.length, str q2, str n3, .slice (some ⟨w.heap.size + 3, 0, none⟩) t3.length t3.length, str q3, str n4, .slice (some ⟨w.heap.size + 4, 0, none⟩) t4.length t4.length, str q4, str n5, .slice (some ⟨w.heap.size + 5, 0, none⟩) t5.length t5.length, str q5, str n6, .slice (some ⟨w.heap.size + 6, 0, none⟩) t6.length t6.length, str q6, str n7, .slice (some ⟨w.heap.size + 7, 0, none⟩) t7.length t7.length, str q7] T'))) ⟨w.heap.size + 8, 0, none⟩ ⟨w.heap.size + 8, 1, none⟩ ⟨w.heap.size + 8, 2, none⟩ (n0, t0, q0) ∧ RowAt ((((((((((w.alloc (.cells (kstrs t0).toArray T)).alloc (.cells (kstrs t1).toArray T)).alloc (.cells (kstrs t2).toArray T)).alloc (.cells (kstrs t3).toArray T)).alloc (.cells (kstrs t4).toArray T)).alloc (.cells (kstrs t5).toArray T)).alloc (.cells (kstrs t6).toArray T)).alloc (.cells (kstrs t7).toArray T)).alloc (.cells #[str n0, .slice (some ⟨w.heap.size + 0, 0, none⟩) t0.length t0.length, str q0, str n1, .slice (some ⟨w.heap.size + 1, 0, none⟩) t1.length t1.length, str q1, str n2, .slice (some ⟨w.heap.size + 2, 0, none⟩) t2.length t2.length, str q2, str n3, .slice (some ⟨w.heap.size + 3, 0, none⟩) t3.length t3.length, str q3, str n4, .slice (some ⟨w.heap.size + 4, 0, none⟩) t4.length t4.length, str q4, str n5, .slice (some ⟨w.heap.size + 5, 0, none⟩) t5.length t5.length, str q5, str n6, .slice (some ⟨w.heap.size + 6, 0, none⟩) t6.length t6.length, str q6, str n7, .slice (some ⟨w.heap.size + 7, 0, none⟩) t7.length t7.length, str q7] T'))) ⟨w.heap.size + 8, 3, none⟩ ⟨w.heap.size + 8, 4, none⟩ ⟨w.heap.size + 8, 5, none⟩ (n1, t1, q1) ∧ RowAt ((((((((((w.alloc (.cells (kstrs t0).toArray T)).alloc (.cells (kstrs t1).toArray T)).alloc (.cells (kstrs t2).toArray T)).alloc (.cells (kstrs t3).toArray T)).alloc (.cells (kstrs t4).toArray T)).alloc (.cells (kstrs t5).toArray T)).alloc (.cells (kstrs t6).toArray T)).alloc (.cells (kstrs t7).toArray T)).alloc (.cells #[str n0, .slice (some ⟨w.heap.size + 0, 0, none⟩) t0.length t0.length, str q0, str n1, .slice (some ⟨w.heap.size + 1, 0, none⟩) t1.length t1.length, str q1, str n2, .slice (some ⟨w.heap.size + 2, 0, none⟩) t2.length t2.length, str q2, str n3, .slice (some ⟨w.heap.size + 3, 0, none⟩) t3.length t3.length, str q3, str n4, .slice (some ⟨w.heap.size + 4, 0, none⟩) t4.length t4.length, str q4, str n5, .slice (some ⟨w.heap.size + 5, 0, none⟩) t5.length t5.length, str q5, str n6, .slice (some ⟨w.heap.size + 6, 0, none⟩) t6.length t6.length, str q6, str n7, .slice (some ⟨w.heap.size + 7, 0, none⟩) t7.length t7.length, str q7] T'))) ⟨w.heap.size + 8, 6, none⟩ ⟨w.heap.size + 8, 7, none⟩ ⟨w.heap.size + 8, 8, none⟩ (n2, t2, q2) ∧ RowAt ((((((((((w.alloc (.cells (kstrs t0).toArray T)).alloc (.cells (kstrs t1).toArray T)).alloc (.cells (kstrs t2).toArray T)).alloc (.cells (kstrs t3).toArray T)).alloc (.cells (kstrs t4).toArray T)).alloc (.cells (kstrs t5).toArray T)).alloc (.cells (kstrs t6).toArray T)).alloc (.cells (kstrs t7).toArray T)).alloc (.cells #[str n0, .slice (some ⟨w.heap.size + 0, 0, none⟩) t0.length t0.length, str q0, str n1, .slice (some ⟨w.heap.size + 1, 0, none⟩) t1.length t1.length, str q1, str n2, .slice (some ⟨w.heap.size + 2, 0, none⟩) t2.length t2.length, str q2, str n3, .slice (some ⟨w.heap.size + 3, 0, none⟩) t3.length t3.length, str q3, str n4, .slice (some ⟨w.heap.size + 4, 0, none⟩) t4.length t4.length, str q4, str n5, .slice (some ⟨w.heap.size + 5, 0, none⟩) t5.length t5.length, str q5, str n6, .slice (some ⟨w.heap.size + 6, 0, none⟩) t6.length t6.length, str q6, str n7, .slice (some ⟨w.heap.size + 7, 0, none⟩) t7.length t7.length, str q7] T'))) ⟨w.heap.size + 8, 9, none⟩ ⟨w.heap.size + 8, 10, none⟩ ⟨w.heap.size + 8, 11, none⟩ (n3, t3, q3) ∧ RowAt ((((((((((w.alloc (.cells (kstrs t0).toArray T)).alloc (.cells (kstrs t1).toArray T)).alloc (.cells (kstrs t2).toArray T)).alloc (.cells (kstrs t3).toArray T)).alloc (.cells (kstrs t4).toArray T)).alloc (.cells (kstrs t5).toArray T)).alloc (.cells (kstrs t6).toArray T)).alloc (.cells (kstrs t7).toArray T)).alloc (.cells #[str n0, .slice (some ⟨w.heap.size + 0, 0, none⟩) t0.length t0.length, str q0, str n1, .slice (some ⟨w.heap.size + 1, 0, none⟩) t1.length t1.length, str q1, str n2, .slice (some ⟨w.heap.size + 2, 0, none⟩) t2.length t2.length, str q2, str n3, .slice (some ⟨w.heap.size + 3, 0, none⟩) t3.length t3.length, str q3, str n4, .slice (some ⟨w.heap.size + 4, 0, none⟩) t4.length t4.length, str q4, str n5, .slice (some ⟨w.heap.size + 5, 0, none⟩) t5.length t5.length, str q5, str n6, .slice (some ⟨w.heap.size + 6, 0, none⟩) t6.length t6.length, str q6, str n7, .slice (some ⟨w.heap.size + 7, 0, none⟩) t7.length t7.length, str q7] T'))) ⟨w.heap.size + 8, 12, none⟩ ⟨w.heap.size + 8, 13, none⟩ ⟨w.heap.size + 8, 14, none⟩ (n4, t4, q4) ∧ RowAt ((((((((((w.alloc (.cells (kstrs t0).toArray T)).alloc (.cells (kstrs t1).toArray T)).alloc (.cells (kstrs t2).toArray T)).alloc (.cells (kstrs t3).toArray T)).alloc (.cells (kstrs t4).toArray T)).alloc (.cells (kstrs t5).toArray T)).alloc (.cells (kstrs t6).toArray T)).alloc (.cells (kstrs t7).toArray T)).alloc (.cells #[str n0, .slice (some ⟨w.heap.size + 0, 0, none⟩) t0.length t0.length, str q0, str n1, .slice (some ⟨w.heap.size + 1, 0, none⟩) t1.length t1.length, str q1, str n2, .slice (some ⟨w.heap.size + 2, 0, none⟩) t2.length t2.length, str q2, str n3, .slice (some ⟨w.heap.size + 3, 0, none⟩) t3.length t3.length, str q3, str n4, .slice (some ⟨w.heap.size + 4, 0, none⟩) t4.length t4.length, str q4, str n5, .slice (some ⟨w.heap.size + 5, 0, none⟩) t5.length t5.length, str q5, str n6, .slice (some ⟨w.heap.size + 6, 0, none⟩) t6.length t6.length, str q6, str n7, .slice (some ⟨w.heap.size + 7, 0, none⟩) t7.length t7.length, str q7] T'))) ⟨w.heap.size + 8, 15, none⟩ ⟨w.heap.size + 8, 16, none⟩ ⟨w.heap.size + 8, 17, none⟩ (n5, t5, q5) ∧ RowAt ((((((((((w.alloc (.cells (kstrs t0).toArray T)).alloc (.cells (kstrs t1).toArray T)).alloc (.cells (kstrs t2).toArray T)).alloc (.cells (kstrs t3).toArray T)).alloc (.cells (kstrs t4).toArray T)).alloc (.cells (kstrs t5).toArray T)).alloc (.cells (kstrs t6).toArray T)).alloc (.cells (kstrs t7).toArray T)).alloc (.cells #[str n0, .slice (some ⟨w.heap.size + 0, 0, none⟩) t0.length t0.length, str q0, str n1, .slice (some ⟨w.heap.size + 1, 0, none⟩) t1.length t1.length, str q1, str n2, .slice (some ⟨w.heap.size + 2, 0, none⟩) t2.length t2.length, str q2, str n3, .slice (some ⟨w.heap.size + 3, 0, none⟩) t3.length t3.length, str q3, str n4, .slice (some ⟨w.heap.size + 4, 0, none⟩) t4.length t4.length, str q4, str n5, .slice (some ⟨w.heap.size + 5, 0, none⟩) t5.length t5.length, str q5, str n6, .slice (some ⟨w.heap.size + 6, 0, none⟩) t6.length t6.length, str q6, str n7, .slice (some ⟨w.heap.size + 7, 0, none⟩) t7.length t7.length, str q7] T'))) ⟨w.heap.size + 8, 18, none⟩ ⟨w.heap.size + 8, 19, none⟩ ⟨w.heap.size + 8, 20, none⟩ (n6, t6, q6) ∧ RowAt ((((((((((w.alloc (.cells (kstrs t0).toArray T)).alloc (.cells (kstrs t1).toArray T)).alloc (.cells (kstrs t2).toArray T)).alloc (.cells (kstrs t3).toArray T)).alloc (.cells (kstrs t4).toArray T)).alloc (.cells (kstrs t5).toArray T)).alloc (.cells (kstrs t6).toArray T)).alloc (.cells (kstrs t7).toArray T)).alloc (.cells #[str n0, .slice (some ⟨w.heap.size + 0, 0, none⟩) t0.length t0.length, str q0, str n1, .slice (some ⟨w.heap.size + 1, 0, none⟩) t1.length t1.length, str q1, str n2, .slice (some ⟨w.heap.size + 2, 0, none⟩) t2.length t2.length, str q2, str n3, .slice (some ⟨w.heap.size + 3, 0, none⟩) t3.length t3.length, str q3, str n4, .slice (some ⟨w.heap.size + 4, 0, none⟩) t4.length t4.length, str q4, str n5, .slice (some ⟨w.heap.size + 5, 0, none⟩) t5.length t5.length, str q5, str n6, .slice (some ⟨w.heap.size + 6, 0, none⟩) t6.length t6.length, str q6, str n7, .slice (some ⟨w.heap.size + 7, 0, none⟩) t7.length t7.length, str q7] T'))) ⟨w.heap.size + 8, 21, none⟩ ⟨w.heap.size + 8, 22, none⟩ ⟨w.heap.size + 8, 23, none⟩ (n7, t7, q7) := by
  obtain ⟨h0, h1, h2, h3, h4, h5, h6, h7⟩ := hl
  obtain ⟨w1, e1⟩ : ∃ w', w' = w.alloc (.cells (kstrs t0).toArray T) := ⟨_, rfl⟩
  have r0 := rd_kstrs w t0 T _ rfl rfl h0
  rw [← e1] at r0 ⊢
  have s1 : w1.heap.size = w.heap.size + 1 := by rw [e1, World.size_alloc]
  obtain ⟨w2, e2⟩ : ∃ w', w' = w1.alloc (.cells (kstrs t1).toArray T) := ⟨_, rfl⟩
  have r1 := rd_kstrs w1 t1 T _ rfl rfl h1
  rw [← e2] at r1 ⊢
  have s2 : w2.heap.size = w.heap.size + 2 := by rw [e2, World.size_alloc, s1]
  rw [s1] at r1
  obtain ⟨w3, e3⟩ : ∃ w', w' = w2.alloc (.cells (kstrs t2).toArray T) := ⟨_, rfl⟩
  have r2 := rd_kstrs w2 t2 T _ rfl rfl h2
  rw [← e3] at r2 ⊢
  have s3 : w3.heap.size = w.heap.size + 3 := by rw [e3, World.size_alloc, s2]
  rw [s2] at r2
  obtain ⟨w4, e4⟩ : ∃ w', w' = w3.alloc (.cells (kstrs t3).toArray T) := ⟨_, rfl⟩
  have r3 := rd_kstrs w3 t3 T _ rfl rfl h3
  rw [← e4] at r3 ⊢
  have s4 : w4.heap.size = w.heap.size + 4 := by rw [e4, World.size_alloc, s3]
  rw [s3] at r3
  obtain ⟨w5, e5⟩ : ∃ w', w' = w4.alloc (.cells (kstrs t4).toArray T) := ⟨_, rfl⟩
  have r4 := rd_kstrs w4 t4 T _ rfl rfl h4
  rw [← e5] at r4 ⊢
  have s5 : w5.heap.size = w.heap.size + 5 := by rw [e5, World.size_alloc, s4]
  rw [s4] at r4
  obtain ⟨w6, e6⟩ : ∃ w', w' = w5.alloc (.cells (kstrs t5).toArray T) := ⟨_, rfl⟩
  have r5 := rd_kstrs w5 t5 T _ rfl rfl h5
  rw [← e6] at r5 ⊢
  have s6 : w6.heap.size = w.heap.size + 6 := by rw [e6, World.size_alloc, s5]
  rw [s5] at r5
  obtain ⟨w7, e7⟩ : ∃ w', w' = w6.alloc (.cells (kstrs t6).toArray T) := ⟨_, rfl⟩
  have r6 := rd_kstrs w6 t6 T _ rfl rfl h6
  rw [← e7] at r6 ⊢
  have s7 : w7.heap.size = w.heap.size + 7 := by rw [e7, World.size_alloc, s6]
  rw [s6] at r6
  obtain ⟨w8, e8⟩ : ∃ w', w' = w7.alloc (.cells (kstrs t7).toArray T) := ⟨_, rfl⟩
  have r7 := rd_kstrs w7 t7 T _ rfl rfl h7
  rw [← e8] at r7 ⊢
  have s8 : w8.heap.size = w.heap.size + 8 := by rw [e8, World.size_alloc, s7]
  rw [s7] at r7
  obtain ⟨w9, e9⟩ : ∃ w', w' = w8.alloc (.cells #[str n0, .slice (some ⟨w.heap.size + 0, 0, none⟩) t0.length t0.length, str q0, str n1, .slice (some ⟨w.heap.size + 1, 0, none⟩) t1.length t1.length, str q1, str n2, .slice (some ⟨w.heap.size + 2, 0, none⟩) t2.length t2.length, str q2, str n3, .slice (some ⟨w.heap.size + 3, 0, none⟩) t3.length t3.length, str q3, str n4, .slice (some ⟨w.heap.size + 4, 0, none⟩) t4.length t4.length, str q4, str n5, .slice (some ⟨w.heap.size + 5, 0, none⟩) t5.length t5.length, str q5, str n6, .slice (some ⟨w.heap.size + 6, 0, none⟩) t6.length t6.length, str q6, str n7, .slice (some ⟨w.heap.size + 7, 0, none⟩) t7.length t7.length, str q7] T') := ⟨_, rfl⟩
  rw [← e9]
  have hc : ∀ j, w9.cell? ⟨w.heap.size + 8, j, none⟩ = (#[str n0, .slice (some ⟨w.heap.size + 0, 0, none⟩) t0.length t0.length, str q0, str n1, .slice (some ⟨w.heap.size + 1, 0, none⟩) t1.length t1.length, str q1, str n2, .slice (some ⟨w.heap.size + 2, 0, none⟩) t2.length t2.length, str q2, str n3, .slice (some ⟨w.heap.size + 3, 0, none⟩) t3.length t3.length, str q3, str n4, .slice (some ⟨w.heap.size + 4, 0, none⟩) t4.length t4.length, str q4, str n5, .slice (some ⟨w.heap.size + 5, 0, none⟩) t5.length t5.length, str q5, str n6, .slice (some ⟨w.heap.size + 6, 0, none⟩) t6.length t6.length, str q6, str n7, .slice (some ⟨w.heap.size + 7, 0, none⟩) t7.length t7.length, str q7] : Array Value)[j]? := fun j => by rw [e9, ← s8]; exact World.cell?_alloc_new _ _ _ _
  have b0 : Below w1.heap.size w1 w9 := by
    rw [e9, e8, e7, e6, e5, e4, e3, e2]
    exact (below_chain (below_chain (below_chain (below_chain (below_chain (below_chain (below_chain (below_chain (Below.refl _ _) (Nat.le_refl _) _) (Nat.le_refl _) _) (Nat.le_refl _) _) (Nat.le_refl _) _) (Nat.le_refl _) _) (Nat.le_refl _) _) (Nat.le_refl _) _) (Nat.le_refl _) _)
  have b1 : Below w2.heap.size w2 w9 := by
    rw [e9, e8, e7, e6, e5, e4, e3]
    exact (below_chain (below_chain (below_chain (below_chain (below_chain (below_chain (below_chain (Below.refl _ _) (Nat.le_refl _) _) (Nat.le_refl _) _) (Nat.le_refl _) _) (Nat.le_refl _) _) (Nat.le_refl _) _) (Nat.le_refl _) _) (Nat.le_refl _) _)
  have b2 : Below w3.heap.size w3 w9 := by
    rw [e9, e8, e7, e6, e5, e4]
    exact (below_chain (below_chain (below_chain (below_chain (below_chain (below_chain (Below.refl _ _) (Nat.le_refl _) _) (Nat.le_refl _) _) (Nat.le_refl _) _) (Nat.le_refl _) _) (Nat.le_refl _) _) (Nat.le_refl _) _)
  have b3 : Below w4.heap.size w4 w9 := by
    rw [e9, e8, e7, e6, e5]
    exact (below_chain (below_chain (below_chain (below_chain (below_chain (Below.refl _ _) (Nat.le_refl _) _) (Nat.le_refl _) _) (Nat.le_refl _) _) (Nat.le_refl _) _) (Nat.le_refl _) _)
  have b4 : Below w5.heap.size w5 w9 := by
    rw [e9, e8, e7, e6]
    exact (below_chain (below_chain (below_chain (below_chain (Below.refl _ _) (Nat.le_refl _) _) (Nat.le_refl _) _) (Nat.le_refl _) _) (Nat.le_refl _) _)
  have b5 : Below w6.heap.size w6 w9 := by
    rw [e9, e8, e7]
    exact (below_chain (below_chain (below_chain (Below.refl _ _) (Nat.le_refl _) _) (Nat.le_refl _) _) (Nat.le_refl _) _)
  have b6 : Below w7.heap.size w7 w9 := by
    rw [e9, e8]
    exact (below_chain (below_chain (Below.refl _ _) (Nat.le_refl _) _) (Nat.le_refl _) _)
  have b7 : Below w8.heap.size w8 w9 := by
    rw [e9]
    exact (below_chain (Below.refl _ _) (Nat.le_refl _) _)
  exact ⟨⟨_, hc 0, hc 1, hc 2, r0.below b0⟩, ⟨_, hc 3, hc 4, hc 5, r1.below b1⟩, ⟨_, hc 6, hc 7, hc 8, r2.below b2⟩, ⟨_, hc 9, hc 10, hc 11, r3.below b3⟩, ⟨_, hc 12, hc 13, hc 14, r4.below b4⟩, ⟨_, hc 15, hc 16, hc 17, r5.below b5⟩, ⟨_, hc 18, hc 19, hc 20, r6.below b6⟩, ⟨_, hc 21, hc 22, hc 23, r7.below b7⟩⟩
theorem rows8s {T T' : TypeId} (w : World) (ns qs : List (List UInt8)) (t0 t1 t2 t3 t4 t5 t6 t7 : List (List UInt8)) (hl : t0.length ≤ 1048576 ∧ t1.length ≤ 1048576 ∧ t2.length ≤ 1048576 ∧ t3.length ≤ 1048576 ∧ t4.length ≤ 1048576 ∧ t5.length ≤ 1048576 ∧ t6.length ≤ 1048576 ∧ t7.length ≤ 1048576) :
    (∀ j, ((((((((((((w.alloc (.cells (kstrs ns).toArray T)).alloc (.cells (kstrs t0).toArray T)).alloc (.cells (kstrs t1).toArray T)).alloc (.cells (kstrs t2).toArray T)).alloc (.cells (kstrs t3).toArray T)).alloc (.cells (kstrs t4).toArray T)).alloc (.cells (kstrs t5).toArray T)).alloc (.cells (kstrs t6).toArray T)).alloc (.cells (kstrs t7).toArray T)).alloc (.cells #[.slice (some ⟨w.heap.size + 1, 0, none⟩) t0.length t0.length, .slice (some ⟨w.heap.size + 2, 0, none⟩) t1.length t1.length, .slice (some ⟨w.heap.size + 3, 0, none⟩) t2.length t2.length, .slice (some ⟨w.heap.size + 4, 0, none⟩) t3.length t3.length, .slice (some ⟨w.heap.size + 5, 0, none⟩) t4.length t4.length, .slice (some ⟨w.heap.size + 6, 0, none⟩) t5.length t5.length, .slice (some ⟨w.heap.size + 7, 0, none⟩) t6.length t6.length, .slice (some ⟨w.heap.size + 8, 0, none⟩) t7.length t7.length] T')).alloc (.cells (kstrs qs).toArray T))).cell? ⟨w.heap.size, j, none⟩ = (kstrs ns)[j]?) ∧ (∀ j, ((((((((((((w.alloc (.cells (kstrs ns).toArray T)).alloc (.cells (kstrs t0).toArray T)).alloc (.cells (kstrs t1).toArray T)).alloc (.cells (kstrs t2).toArray T)).alloc (.cells (kstrs t3).toArray T)).alloc (.cells (kstrs t4).toArray T)).alloc (.cells (kstrs t5).toArray T)).alloc (.cells (kstrs t6).toArray T)).alloc (.cells (kstrs t7).toArray T)).alloc (.cells #[.slice (some ⟨w.heap.size + 1, 0, none⟩) t0.length t0.length, .slice (some ⟨w.heap.size + 2, 0, none⟩) t1.length t1.length, .slice (some ⟨w.heap.size + 3, 0, none⟩) t2.length t2.length, .slice (some ⟨w.heap.size + 4, 0, none⟩) t3.length t3.length, .slice (some ⟨w.heap.size + 5, 0, none⟩) t4.length t4.length, .slice (some ⟨w.heap.size + 6, 0, none⟩) t5.length t5.length, .slice (some ⟨w.heap.size + 7, 0, none⟩) t6.length t6.length, .slice (some ⟨w.heap.size + 8, 0, none⟩) t7.length t7.length] T')).alloc (.cells (kstrs qs).toArray T))).cell? ⟨w.heap.size + 10, j, none⟩ = (kstrs qs)[j]?) ∧ (∃ v, ((((((((((((w.alloc (.cells (kstrs ns).toArray T)).alloc (.cells (kstrs t0).toArray T)).alloc (.cells (kstrs t1).toArray T)).alloc (.cells (kstrs t2).toArray T)).alloc (.cells (kstrs t3).toArray T)).alloc (.cells (kstrs t4).toArray T)).alloc (.cells (kstrs t5).toArray T)).alloc (.cells (kstrs t6).toArray T)).alloc (.cells (kstrs t7).toArray T)).alloc (.cells #[.slice (some ⟨w.heap.size + 1, 0, none⟩) t0.length t0.length, .slice (some ⟨w.heap.size + 2, 0, none⟩) t1.length t1.length, .slice (some ⟨w.heap.size + 3, 0, none⟩) t2.length t2.length, .slice (some ⟨w.heap.size + 4, 0, none⟩) t3.length t3.length, .slice (some ⟨w.heap.size + 5, 0, none⟩) t4.length t4.length, .slice (some ⟨w.heap.size + 6, 0, none⟩) t5.length t5.length, .slice (some ⟨w.heap.size + 7, 0, none⟩) t6.length t6.length, .slice (some ⟨w.heap.size + 8, 0, none⟩) t7.length t7.length] T')).alloc (.cells (kstrs qs).toArray T))).cell? ⟨w.heap.size + 9, 0, none⟩ = some v ∧ Rd ((((((((((((w.alloc (.cells (kstrs ns).toArray T)).alloc (.cells (kstrs t0).toArray T)).alloc (.cells (kstrs t1).toArray T)).alloc (.cells (kstrs t2).toArray T)).alloc (.cells (kstrs t3).toArray T)).alloc (.cells (kstrs t4).toArray T)).alloc (.cells (kstrs t5).toArray T)).alloc (.cells (kstrs t6).toArray T)).alloc (.cells (kstrs t7).toArray T)).alloc (.cells #[.slice (some ⟨w.heap.size + 1, 0, none⟩) t0.length t0.length, .slice (some ⟨w.heap.size + 2, 0, none⟩) t1.length t1.length, .slice (some ⟨w.heap.size + 3, 0, none⟩) t2.length t2.length, .slice (some ⟨w.heap.size + 4, 0, none⟩) t3.length t3.length, .slice (some ⟨w.heap.size + 5, 0, none⟩) t4.length t4.length, .slice (some ⟨w.heap.size + 6, 0, none⟩) t5.length t5.length, .slice (some ⟨w.heap.size + 7, 0, none⟩) t6.length t6.length, .slice (some ⟨w.heap.size + 8, 0, none⟩) t7.length t7.length] T')).alloc (.cells (kstrs qs).toArray T))) v 1 t0.length (kstrs t0)) ∧ (∃ v, ((((((((((((w.alloc (.cells (kstrs ns).toArray T)).alloc (.cells (kstrs t0).toArray T)).alloc (.cells (kstrs t1).toArray T)).alloc (.cells (kstrs t2).toArray T)).alloc (.cells (kstrs t3).toArray T)).alloc (.cells (kstrs t4).toArray T)).alloc (.cells (kstrs t5).toArray T)).alloc (.cells (kstrs t6).toArray T)).alloc (.cells (kstrs t7).toArray T)).alloc (.cells #[.slice (some ⟨w.heap.size + 1, 0, none⟩) t0.length t0.length, .slice (some ⟨w.heap.size + 2, 0, none⟩) t1.length t1.length, .slice (some ⟨w.heap.size + 3, 0, none⟩) t2.length t2.length, .slice (some ⟨w.heap.size + 4, 0, none⟩) t3.length t3.length, .slice (some ⟨w.heap.size + 5, 0, none⟩) t4.length t4.length, .slice (some ⟨w.heap.size + 6, 0, none⟩) t5.length t5.length, .slice (some ⟨w.heap.size + 7, 0, none⟩) t6.length t6.length, .slice (some ⟨w.heap.size + 8, 0, none⟩) t7.length t7.length] T')).alloc (.cells (kstrs qs).toArray T))).cell? ⟨w.heap.size + 9, 1, none⟩ = some v ∧ Rd ((((((((((((w.alloc (.cells (kstrs ns).toArray T)).alloc (.cells (kstrs t0).toArray T)).alloc (.cells (kstrs t1).toArray T)).alloc (.cells (kstrs t2).toArray T)).alloc (.cells (kstrs t3).toArray T)).alloc (.cells (kstrs t4).toArray T)).alloc (.cells (kstrs t5).toArray T)).alloc (.cells (kstrs t6).toArray T)).alloc (.cells (kstrs t7).toArray T)).alloc (.cells #[.slice (some ⟨w.heap.size + 1, 0, none⟩) t0.length t0.length, .slice (some ⟨w.heap.size + 2, 0, none⟩) t1.length t1.length, .slice (some ⟨w.heap.size + 3, 0, none⟩) t2.length t2.length, .slice (some ⟨w.heap.size + 4, 0, none⟩) t3.length t3.length, .slice (some ⟨w.heap.size + 5, 0, none⟩) t4.length t4.length, .slice (some ⟨w.heap.size + 6, 0, none⟩) t5.length t5.length, .slice (some ⟨w.heap.size + 7, 0, none⟩) t6.length t6.length, .slice (some ⟨w.heap.size + 8, 0, none⟩) t7.length t7.length] T')).alloc (.cells (kstrs qs).toArray T))) v 1 t1.length (kstrs t1)) ∧ (∃ v, ((((((((((((w.alloc (.cells (kstrs ns).toArray T)).alloc (.cells (kstrs t0).toArray T)).alloc (.cells (kstrs t1).toArray T)).alloc (.cells (kstrs t2).toArray T)).alloc (.cells (kstrs t3).toArray T)).alloc (.cells (kstrs t4).toArray T)).alloc (.cells (kstrs t5).toArray T)).alloc (.cells (kstrs t6).toArray T)).alloc (.cells (kstrs t7).toArray T)).alloc (.cells #[.slice (some ⟨w.heap.size + 1, 0, none⟩) t0.length t0.length, .slice (some ⟨w.heap.size + 2, 0, none⟩) t1.length t1.length, .slice (some ⟨w.heap.size + 3, 0, none⟩) t2.length t2.length, .slice (some ⟨w.heap.size + 4, 0, none⟩) t3.length t3.length, .slice (some ⟨w.heap.size + 5, 0, none⟩) t4.length t4.length, .slice (some ⟨w.heap.size + 6, 0, none⟩) t5.length t5.length, .slice (some ⟨w.heap.size + 7, 0, none⟩) t6.length t6.length, .slice (some ⟨w.heap.size + 8, 0, none⟩) t7.length t7.length] T')).alloc (.cells (kstrs qs).toArray T))).cell? ⟨w.heap.size + 9, 2, none⟩ = some v ∧ Rd ((((((((((((w.alloc (.cells (kstrs ns).toArray T)).alloc (.cells (kstrs t0).toArray T)).alloc (.cells (kstrs t1).toArray T)).alloc (.cells (kstrs t2).toArray T)).alloc (.cells (kstrs t3).toArray T)).alloc (.cells (kstrs t4).toArray T)).alloc (.cells (kstrs t5).toArray T)).alloc (.cells (kstrs t6).toArray T)).alloc (.cells (kstrs t7).toArray T)).alloc (.cells #[.slice (some ⟨w.heap.size + 1, 0, none⟩) t0.length t0.length, .slice (some ⟨w.heap.size + 2, 0, none⟩) t1.length t1.length, .slice (some ⟨w.heap.size + 3, 0, none⟩) t2.length t2.length, .slice (some ⟨w.heap.size + 4, 0, none⟩) t3.length t3.length, .slice (some ⟨w.heap.size + 5, 0, none⟩) t4.length t4.length, .slice (some ⟨w.heap.size + 6, 0, none⟩) t5.length t5.length, .slice (some ⟨w.heap.size + 7, 0, none⟩) t6.length t6.length, .slice (some ⟨w.heap.size + 8, 0, none⟩) t7.length t7.length] T')).alloc (.cells (kstrs qs).toArray T))) v 1 t2.length (kstrs t2)) ∧ (∃ v, ((((((((((((w.alloc (.cells (kstrs ns).toArray T)).alloc (.cells (kstrs t0).toArray T)).alloc (.cells (kstrs t1).toArray T)).alloc (.cells (kstrs t2).toArray T)).alloc (.cells (kstrs t3).toArray T)).alloc (.cells (kstrs t4).toArray T)).alloc (.cells (kstrs t5).toArray T)).alloc (.cells (kstrs t6).toArray T)).alloc (.cells (kstrs t7).toArray T)).alloc (.cells #[.slice (some ⟨w.heap.size + 1, 0, none⟩) t0.length t0.length, .slice (some ⟨w.heap.size + 2, 0, none⟩) t1.length t1.length, .slice (some ⟨w.heap.size + 3, 0, none⟩) t2.length t2.length, .slice (some ⟨w.heap.size + 4, 0, none⟩) t3.length t3.length, .slice (some ⟨w.heap.size + 5, 0, none⟩) t4.length t4.length, .slice (some ⟨w.heap.size + 6, 0, none⟩) t5.length t5.length, .slice (some ⟨w.heap.size + 7, 0, none⟩) t6.length t6.length, .slice (some ⟨w.heap.size + 8, 0, none⟩) t7.length t7.length] T')).alloc (.cells (kstrs qs).toArray T))).cell? ⟨w.heap.size + 9, 3, none⟩ = some v ∧ Rd ((((((((((((w.alloc (.cells (kstrs ns).toArray T)).alloc (.cells (kstrs t0).toArray T)).alloc (.cells (kstrs t1).toArray T)).alloc (.cells (kstrs t2).toArray T)).alloc (.cells (kstrs t3).toArray T)).alloc (.cells (kstrs t4).toArray T)).alloc (.cells (kstrs t5).toArray T)).alloc (.cells (kstrs t6).toArray T)).alloc (.cells (kstrs t7).toArray T)).alloc (.cells #[.slice (some ⟨w.heap.size + 1, 0, none⟩) t0.length t0.length, .slice (some ⟨w.heap.size + 2, 0, none⟩) t1.length t1.length, .slice (some ⟨w.heap.size + 3, 0, none⟩) t2.length t2.length, .slice (some ⟨w.heap.size + 4, 0, none⟩) t3.length t3.length, .slice (some ⟨w.heap.size + 5, 0, none⟩) t4.length t4.length, .slice (some ⟨w.heap.size + 6, 0, none⟩) t5.length t5.length, .slice (some ⟨w.heap.size + 7, 0, none⟩) t6.length t6.length, .slice (some ⟨w.heap.size + 8, 0, none⟩) t7.length t7.length] T')).alloc (.cells (kstrs qs).toArray T))) v 1 t3.length (kstrs t3)) ∧ (∃ v, ((((((((((((w.alloc (.cells (kstrs ns).toArray T)).alloc (.cells (kstrs t0).toArray T)).alloc (.cells (kstrs t1).toArray T)).alloc (.cells (kstrs t2).toArray T)).alloc (.cells (kstrs t3).toArray T)).alloc (.cells (kstrs t4).toArray T)).alloc (.cells (kstrs t5).toArray T)).alloc (.cells (kstrs t6).toArray T)).alloc (.cells (kstrs t7).toArray T)).alloc (.cells #[.slice (some ⟨w.heap.size + 1, 0, none⟩) t0.length t0.length, .slice (some ⟨w.heap.size + 2, 0, none⟩) t1.length t1.length, .slice (some ⟨w.heap.size + 3, 0, none⟩) t2.length t2.length, .slice (some ⟨w.heap.size + 4, 0, none⟩) t3.length t3.length, .slice (some ⟨w.heap.size + 5, 0, none⟩) t4.length t4.length, .slice (some ⟨w.heap.size + 6, 0, none⟩) t5.length t5.length, .slice (some ⟨w.heap.size + 7, 0, none⟩) t6.length t6.length, .slice (some ⟨w.heap.size + 8, 0, none⟩) t7.length t7.length] T')).alloc (.cells (kstrs qs).toArray T))).cell? ⟨w.heap.size + 9, 4, none⟩ = some v ∧ Rd ((((((((((((w.alloc (.cells (kstrs ns).toArray T)).alloc (.cells (kstrs t0).toArray T)).alloc (.cells (kstrs t1).toArray T)).alloc (.cells (kstrs t2).toArray T)).alloc (.cells (kstrs t3).toArray T)).alloc (.cells (kstrs t4).toArray T)).alloc (.cells (kstrs t5).toArray T)).alloc (.cells (kstrs t6).toArray T)).alloc (.cells (kstrs t7).toArray T)).alloc (.cells #[.slice (some ⟨w.heap.size + 1, 0, none⟩) t0.length t0.length, .slice (some ⟨w.heap.size + 2, 0, none⟩) t1.length t1.length, .slice (some ⟨w.heap.size + 3, 0, none⟩) t2.length t2.length, .slice (some ⟨w.heap.size + 4, 0, none⟩) t3.length t3.length, .slice (some ⟨w.heap.size + 5, 0, none⟩) t4.length t4.length, .slice (some ⟨w.heap.size + 6, 0, none⟩) t5.length t5.length, .slice (some ⟨w.heap.size + 7, 0, none⟩) t6.length t6.length, .slice (some ⟨w.heap.size + 8, 0, none⟩) t7.length t7.length] T')).alloc (.cells (kstrs qs).toArray T))) v 1 t4.length (kstrs t4)) ∧ (∃ v, ((((((((((((w.alloc (.cells (kstrs ns).toArray T)).alloc (.cells (kstrs t0).toArray T)).alloc (.cells (kstrs t1).toArray T)).alloc (.cells (kstrs t2).toArray T)).alloc (.cells (kstrs t3).toArray T)).alloc (.cells (kstrs t4).toArray T)).alloc (.cells (kstrs t5).toArray T)).alloc (.cells (kstrs t6).toArray T)).alloc (.cells (kstrs t7).toArray T)).alloc (.cells #[.slice (some ⟨w.heap.size + 1, 0, none⟩) t0.length t0.length, .slice (some ⟨w.heap.size + 2, 0, none⟩) t1.length t1.length, .slice (some ⟨w.heap.size + 3, 0, none⟩) t2.length t2.length, .slice (some ⟨w.heap.size + 4, 0, none⟩) t3.length t3.length, .slice (some ⟨w.heap.size + 5, 0, none⟩) t4.length t4.length, .slice (some ⟨w.heap.size + 6, 0, none⟩) t5.length t5.length, .slice (some ⟨w.heap.size + 7, 0, none⟩) t6.length t6.length, .slice (some ⟨w.heap.size + 8, 0, none⟩) t7.length t7.length] T')).alloc (.cells (kstrs qs).toArray T))).cell? ⟨w.heap.size + 9, 5, none⟩ = some v ∧ Rd ((((((((((((w.alloc (.cells (kstrs ns).toArray T)).alloc (.cells (kstrs t0).toArray T)).alloc (.cells (kstrs t1).toArray T)).alloc (.cells (kstrs t2).toArray T)).alloc (.cells (kstrs t3).toArray T)).alloc (.cells (kstrs t4).toArray T)).alloc (.cells (kstrs t5).toArray T)).alloc (.cells (kstrs t6).toArray T)).alloc (.cells (kstrs t7).toArray T)).alloc (.cells #[.slice (some ⟨w.heap.size + 1, 0, none⟩) t0.length t0.length, .slice (some ⟨w.heap.size + 2, 0, none⟩) t1.length t1.length, .slice (some ⟨w.heap.size + 3, 0, none⟩) t2.length t2.length, .slice (some ⟨w.heap.size + 4, 0, none⟩) t3.length t3.length, .slice (some ⟨w.heap.size + 5, 0, none⟩) t4.length t4.length, .slice (some ⟨w.heap.size + 6, 0, none⟩) t5.length t5.length, .slice (some ⟨w.heap.size + 7, 0, none⟩) t6.length t6.length, .slice (some ⟨w.heap.size + 8, 0, none⟩) t7.length t7.length] T')).alloc (.cells (kstrs qs).toArray T))) v 1 t5.length (kstrs t5)) ∧ (∃ v, ((((((((((((w.alloc (.cells (kstrs ns).toArray T)).alloc (.cells (kstrs t0).toArray T)).alloc (.cells (kstrs t1).toArray T)).alloc (.cells (kstrs t2).toArray T)).alloc (.cells (kstrs t3).toArray T)).alloc (.cells (kstrs t4).toArray T)).alloc (.cells (kstrs t5).toArray T)).alloc (.cells (kstrs t6).toArray T)).alloc (.cells (kstrs t7).toArray T)).alloc (.cells #[.slice (some ⟨w.heap.size + 1, 0, none⟩) t0.length t0.length, .slice (some ⟨w.heap.size + 2, 0, none⟩) t1.length t1.length, .slice (some ⟨w.heap.size + 3, 0, none⟩) t2.length t2.length, .slice (some ⟨w.heap.size + 4, 0, none⟩) t3.length t3.length, .slice (some ⟨w.heap.size + 5, 0, none⟩) t4.length t4.length, .slice (some ⟨w.heap.size + 6, 0, none⟩) t5.length t5.length, .slice (some ⟨w.heap.size + 7, 0, none⟩) t6.length t6.length, .slice (some ⟨w.heap.size + 8, 0, none⟩) t7.length t7.length] T')).alloc (.cells (kstrs qs).toArray T))).cell? ⟨w.heap.size + 9, 6, none⟩ = some v ∧ Rd ((((((((((((w.alloc (.cells (kstrs ns).toArray T)).alloc (.cells (kstrs t0).toArray T)).alloc (.cells (kstrs t1).toArray T)).alloc (.cells (kstrs t2).toArray T)).alloc (.cells (kstrs t3).toArray T)).alloc (.cells (kstrs t4).toArray T)).alloc (.cells (kstrs t5).toArray T)).alloc (.cells (kstrs t6).toArray T)).alloc (.cells (kstrs t7).toArray T)).alloc (.cells #[.slice (some ⟨w.heap.size + 1, 0, none⟩) t0.length t0.length, .slice (some ⟨w.heap.size + 2, 0, none⟩) t1.length t1.length, .slice (some ⟨w.heap.size + 3, 0, none⟩) t2.length t2.length, .slice (some ⟨w.heap.size + 4, 0, none⟩) t3.length t3.length, .slice (some ⟨w.heap.size + 5, 0, none⟩) t4.length t4.length, .slice (some ⟨w.heap.size + 6, 0, none⟩) t5.length t5.length, .slice (some ⟨w.heap.size + 7, 0, none⟩) t6.length t6.length, .slice (some ⟨w.heap.size + 8, 0, none⟩) t7.length t7.length] T')).alloc (.cells (kstrs qs).toArray T))) v 1 t6.length (kstrs t6)) ∧ (∃ v, ((((((((((((w.alloc (.cells (kstrs ns).toArray T)).alloc (.cells (kstrs t0).toArray T)).alloc (.cells (kstrs t1).toArray T)).alloc (.cells (kstrs t2).toArray T)).alloc (.cells (kstrs t3).toArray T)).alloc (.cells (kstrs t4).toArray T)).alloc (.cells (kstrs t5).toArray T)).alloc (.cells (kstrs t6).toArray T)).alloc (.cells (kstrs t7).toArray T)).alloc (.cells #[.slice (some ⟨w.heap.size + 1, 0, none⟩) t0.length t0.length, .slice (some ⟨w.heap.size + 2, 0, none⟩) t1.length t1.length, .slice (some ⟨w.heap.size + 3, 0, none⟩) t2.length t2.length, .slice (some ⟨w.heap.size + 4, 0, none⟩) t3.length t3.length, .slice (some ⟨w.heap.size + 5, 0, none⟩) t4.length t4.length, .slice (some ⟨w.heap.size + 6, 0, none⟩) t5.length t5.length, .slice (some ⟨w.heap.size + 7, 0, none⟩) t6.length t6.length, .slice (some ⟨w.heap.size + 8, 0, none⟩) t7.length t7.length] T')).alloc (.cells (kstrs qs).toArray T))).cell? ⟨w.heap.size + 9, 7, none⟩ = some v ∧ Rd ((((((((((((w.alloc (.cells (kstrs ns).toArray T)).alloc (.cells (kstrs t0).toArray T)).alloc (.cells (kstrs t1).toArray T)).alloc (.cells (kstrs t2).toArray T)).alloc (.cells (kstrs t3).toArray T)).alloc (.cells (kstrs t4).toArray T)).alloc (.cells (kstrs t5).toArray T)).alloc (.cells (kstrs t6).toArray T)).alloc (.cells (kstrs t7).toArray T)).alloc (.cells #[.slice (some ⟨w.heap.size + 1, 0, none⟩) t0.length t0.length, .slice (some ⟨w.heap.size + 2, 0, none⟩) t1.length t1.length, .slice (some ⟨w.heap.size + 3, 0, none⟩) t2.length t2.length, .slice (some ⟨w.heap.size + 4, 0, none⟩) t3.length t3.length, .slice (some ⟨w.heap.size + 5, 0, none⟩) t4.length t4.length, .slice (some ⟨w.heap.size + 6, 0, none⟩) t5.length t5.length, .slice (some ⟨w.heap.size + 7, 0, none⟩) t6.length t6.length, .slice (some ⟨w.heap.size + 8, 0, none⟩) t7.length t7.length] T')).alloc (.cells (kstrs qs).toArray T))) v 1 t7.length (kstrs t7)) := by
  obtain ⟨h0, h1, h2, h3, h4, h5, h6, h7⟩ := hl
  obtain ⟨w0, e0⟩ : ∃ w', w' = w.alloc (.cells (kstrs ns).toArray T) := ⟨_, rfl⟩
  have n0 : ∀ j, w0.cell? ⟨w.heap.size, j, none⟩ = (kstrs ns)[j]? := fun j => by rw [e0]; exact (World.cell?_alloc_new _ _ _ _).trans (by simp)
  have s0 : w0.heap.size = w.heap.size + 1 := by rw [e0, World.size_alloc]
  rw [← e0]
  obtain ⟨w1, e1⟩ : ∃ w', w' = w0.alloc (.cells (kstrs t0).toArray T) := ⟨_, rfl⟩
  have r0 := rd_kstrs w0 t0 T _ rfl rfl h0
  rw [← e1] at r0 ⊢
  rw [s0] at r0
  have s1 : w1.heap.size = w.heap.size + 2 := by rw [e1, World.size_alloc, s0]
  obtain ⟨w2, e2⟩ : ∃ w', w' = w1.alloc (.cells (kstrs t1).toArray T) := ⟨_, rfl⟩
  have r1 := rd_kstrs w1 t1 T _ rfl rfl h1
  rw [← e2] at r1 ⊢
  rw [s1] at r1
  have s2 : w2.heap.size = w.heap.size + 3 := by rw [e2, World.size_alloc, s1]
  obtain ⟨w3, e3⟩ : ∃ w', w' = w2.alloc (.cells (kstrs t2).toArray T) := ⟨_, rfl⟩
  have r2 := rd_kstrs w2 t2 T _ rfl rfl h2
  rw [← e3] at r2 ⊢
  rw [s2] at r2
  have s3 : w3.heap.size = w.heap.size + 4 := by rw [e3, World.size_alloc, s2]
  obtain ⟨w4, e4⟩ : ∃ w', w' = w3.alloc (.cells (kstrs t3).toArray T) := ⟨_, rfl⟩
  have r3 := rd_kstrs w3 t3 T _ rfl rfl h3
  rw [← e4] at r3 ⊢
  rw [s3] at r3
  have s4 : w4.heap.size = w.heap.size + 5 := by rw [e4, World.size_alloc, s3]
  obtain ⟨w5, e5⟩ : ∃ w', w' = w4.alloc (.cells (kstrs t4).toArray T) := ⟨_, rfl⟩
  have r4 := rd_kstrs w4 t4 T _ rfl rfl h4
  rw [← e5] at r4 ⊢
  rw [s4] at r4
  have s5 : w5.heap.size = w.heap.size + 6 := by rw [e5, World.size_alloc, s4]
  obtain ⟨w6, e6⟩ : ∃ w', w' = w5.alloc (.cells (kstrs t5).toArray T) := ⟨_, rfl⟩
  have r5 := rd_kstrs w5 t5 T _ rfl rfl h5
  rw [← e6] at r5 ⊢
  rw [s5] at r5
  have s6 : w6.heap.size = w.heap.size + 7 := by rw [e6, World.size_alloc, s5]
  obtain ⟨w7, e7⟩ : ∃ w', w' = w6.alloc (.cells (kstrs t6).toArray T) := ⟨_, rfl⟩
  have r6 := rd_kstrs w6 t6 T _ rfl rfl h6
  rw [← e7] at r6 ⊢
  rw [s6] at r6
  have s7 : w7.heap.size = w.heap.size + 8 := by rw [e7, World.size_alloc, s6]
  obtain ⟨w8, e8⟩ : ∃ w', w' = w7.alloc (.cells (kstrs t7).toArray T) := ⟨_, rfl⟩
  have r7 := rd_kstrs w7 t7 T _ rfl rfl h7
  rw [← e8] at r7 ⊢
  rw [s7] at r7
  have s8 : w8.heap.size = w.heap.size + 9 := by rw [e8, World.size_alloc, s7]
  obtain ⟨w9, e9⟩ : ∃ w', w' = w8.alloc (.cells #[.slice (some ⟨w.heap.size + 1, 0, none⟩) t0.length t0.length, .slice (some ⟨w.heap.size + 2, 0, none⟩) t1.length t1.length, .slice (some ⟨w.heap.size + 3, 0, none⟩) t2.length t2.length, .slice (some ⟨w.heap.size + 4, 0, none⟩) t3.length t3.length, .slice (some ⟨w.heap.size + 5, 0, none⟩) t4.length t4.length, .slice (some ⟨w.heap.size + 6, 0, none⟩) t5.length t5.length, .slice (some ⟨w.heap.size + 7, 0, none⟩) t6.length t6.length, .slice (some ⟨w.heap.size + 8, 0, none⟩) t7.length t7.length] T') := ⟨_, rfl⟩
  have hc : ∀ j, w9.cell? ⟨w.heap.size + 9, j, none⟩ = (#[.slice (some ⟨w.heap.size + 1, 0, none⟩) t0.length t0.length, .slice (some ⟨w.heap.size + 2, 0, none⟩) t1.length t1.length, .slice (some ⟨w.heap.size + 3, 0, none⟩) t2.length t2.length, .slice (some ⟨w.heap.size + 4, 0, none⟩) t3.length t3.length, .slice (some ⟨w.heap.size + 5, 0, none⟩) t4.length t4.length, .slice (some ⟨w.heap.size + 6, 0, none⟩) t5.length t5.length, .slice (some ⟨w.heap.size + 7, 0, none⟩) t6.length t6.length, .slice (some ⟨w.heap.size + 8, 0, none⟩) t7.length t7.length] : Array Value)[j]? := fun j => by rw [e9, ← s8]; exact World.cell?_alloc_new _ _ _ _
  have s9 : w9.heap.size = w.heap.size + 10 := by rw [e9, World.size_alloc, s8]
  rw [← e9]
  obtain ⟨wA, eA⟩ : ∃ w', w' = w9.alloc (.cells (kstrs qs).toArray T) := ⟨_, rfl⟩
  have ha : ∀ j, wA.cell? ⟨w.heap.size + 10, j, none⟩ = (kstrs qs)[j]? := fun j => by rw [eA, ← s9]; exact (World.cell?_alloc_new _ _ _ _).trans (by simp)
  rw [← eA]
  have b0 : Below w1.heap.size w1 wA := by
    rw [eA, e9, e8, e7, e6, e5, e4, e3, e2]
    exact (below_chain (below_chain (below_chain (below_chain (below_chain (below_chain (below_chain (below_chain (below_chain (Below.refl _ _) (Nat.le_refl _) _) (Nat.le_refl _) _) (Nat.le_refl _) _) (Nat.le_refl _) _) (Nat.le_refl _) _) (Nat.le_refl _) _) (Nat.le_refl _) _) (Nat.le_refl _) _) (Nat.le_refl _) _)
  have b1 : Below w2.heap.size w2 wA := by
    rw [eA, e9, e8, e7, e6, e5, e4, e3]
    exact (below_chain (below_chain (below_chain (below_chain (below_chain (below_chain (below_chain (below_chain (Below.refl _ _) (Nat.le_refl _) _) (Nat.le_refl _) _) (Nat.le_refl _) _) (Nat.le_refl _) _) (Nat.le_refl _) _) (Nat.le_refl _) _) (Nat.le_refl _) _) (Nat.le_refl _) _)
  have b2 : Below w3.heap.size w3 wA := by
    rw [eA, e9, e8, e7, e6, e5, e4]
    exact (below_chain (below_chain (below_chain (below_chain (below_chain (below_chain (below_chain (Below.refl _ _) (Nat.le_refl _) _) (Nat.le_refl _) _) (Nat.le_refl _) _) (Nat.le_refl _) _) (Nat.le_refl _) _) (Nat.le_refl _) _) (Nat.le_refl _) _)
  have b3 : Below w4.heap.size w4 wA := by
    rw [eA, e9, e8, e7, e6, e5]
    exact (below_chain (below_chain (below_chain (below_chain (below_chain (below_chain (Below.refl _ _) (Nat.le_refl _) _) (Nat.le_refl _) _) (Nat.le_refl _) _) (Nat.le_refl _) _) (Nat.le_refl _) _) (Nat.le_refl _) _)
  have b4 : Below w5.heap.size w5 wA := by
    rw [eA, e9, e8, e7, e6]
    exact (below_chain (below_chain (below_chain (below_chain (below_chain (Below.refl _ _) (Nat.le_refl _) _) (Nat.le_refl _) _) (Nat.le_refl _) _) (Nat.le_refl _) _) (Nat.le_refl _) _)
  have b5 : Below w6.heap.size w6 wA := by
    rw [eA, e9, e8, e7]
    exact (below_chain (below_chain (below_chain (below_chain (Below.refl _ _) (Nat.le_refl _) _) (Nat.le_refl _) _) (Nat.le_refl _) _) (Nat.le_refl _) _)
  have b6 : Below w7.heap.size w7 wA := by
    rw [eA, e9, e8]
    exact (below_chain (below_chain (below_chain (Below.refl _ _) (Nat.le_refl _) _) (Nat.le_refl _) _) (Nat.le_refl _) _)
  have b7 : Below w8.heap.size w8 wA := by
    rw [eA, e9]
    exact (below_chain (below_chain (Below.refl _ _) (Nat.le_refl _) _) (Nat.le_refl _) _)
  have bn : Below w0.heap.size w0 wA := by
    rw [eA, e9, e8, e7, e6, e5, e4, e3, e2, e1]
    exact (below_chain (below_chain (below_chain (below_chain (below_chain (below_chain (below_chain (below_chain (below_chain (below_chain (Below.refl _ _) (Nat.le_refl _) _) (Nat.le_refl _) _) (Nat.le_refl _) _) (Nat.le_refl _) _) (Nat.le_refl _) _) (Nat.le_refl _) _) (Nat.le_refl _) _) (Nat.le_refl _) _) (Nat.le_refl _) _) (Nat.le_refl _) _)
  have bt : Below w9.heap.size w9 wA := by rw [eA]; exact (below_chain (Below.refl _ _) (Nat.le_refl _) _)
  exact ⟨fun j => (bn.cell (p := ⟨w.heap.size, j, none⟩) (by show w.heap.size < w0.heap.size; omega)).trans (n0 j), ha, ⟨_, (bt.cell (p := ⟨w.heap.size + 9, 0, none⟩) (by show w.heap.size + 9 < w9.heap.size; omega)).trans (hc 0), r0.below b0⟩, ⟨_, (bt.cell (p := ⟨w.heap.size + 9, 1, none⟩) (by show w.heap.size + 9 < w9.heap.size; omega)).trans (hc 1), r1.below b1⟩, ⟨_, (bt.cell (p := ⟨w.heap.size + 9, 2, none⟩) (by show w.heap.size + 9 < w9.heap.size; omega)).trans (hc 2), r2.below b2⟩, ⟨_, (bt.cell (p := ⟨w.heap.size + 9, 3, none⟩) (by show w.heap.size + 9 < w9.heap.size; omega)).trans (hc 3), r3.below b3⟩, ⟨_, (bt.cell (p := ⟨w.heap.size + 9, 4, none⟩) (by show w.heap.size + 9 < w9.heap.size; omega)).trans (hc 4), r4.below b4⟩, ⟨_, (bt.cell (p := ⟨w.heap.size + 9, 5, none⟩) (by show w.heap.size + 9 < w9.heap.size; omega)).trans (hc 5), r5.below b5⟩, ⟨_, (bt.cell (p := ⟨w.heap.size + 9, 6, none⟩) (by show w.heap.size + 9 < w9.heap.size; omega)).trans (hc 6), r6.below b6⟩, ⟨_, (bt.cell (p := ⟨w.heap.size + 9, 7, none⟩) (by show w.heap.size + 9 < w9.heap.size; omega)).trans (hc 7), r7.below b7⟩⟩
set_option maxHeartbeats 1600000 in
theorem impl_knownTests (w : World) : Calls Tryz.prog 40 #[] w fun e w' => ∃ b, e = .returned (.slice (some ⟨b, 0, none⟩) 8 8) ∧ b < w'.heap.size ∧ (∀ k r, tab[k]? = some r → RowAt w' ⟨b, k * 3, none⟩ ⟨b, k * 3 + 1, none⟩ ⟨b, k * 3 + 2, none⟩ r) ∧ Below w.heap.size w w' := by
  go_enter Tryz.func40, Tryz.ntmps40
  go_wp2_with fail
  go_ret
  refine ⟨w.heap.size + 8, rfl, ?_, ?_, ?_⟩
  · simp
  · have h := rows8 (T := 9) (T' := 73) w tx0 tx1 tx2 tx3 tx4 tx5 tx6 tx7 [83, 66] [83, 66, 70] [77, 80] [76, 66] [67, 79] [82, 87] [87, 67] [83, 87] [48, 58, 48, 61, 48, 32, 38, 32, 49, 58, 48, 61, 48] [48, 58, 48, 61, 48, 32, 38, 32, 49, 58, 48, 61, 48] [49, 58, 48, 61, 49, 32, 38, 32, 49, 58, 49, 61, 48] [48, 58, 48, 61, 49, 32, 38, 32, 49, 58, 48, 61, 49] [49, 58, 48, 61, 49, 32, 38, 32, 49, 58, 50, 61, 48] [48, 58, 48, 61, 49, 32, 38, 32, 48, 58, 50, 61, 48, 32, 38, 32, 49, 58, 48, 61, 49, 32, 38, 32, 49, 58, 50, 61, 48] [49, 58, 48, 61, 49, 32, 38, 32, 50, 58, 48, 61, 49, 32, 38, 32, 50, 58, 50, 61, 48] [48, 58, 50, 61, 48, 32, 38, 32, 49, 58, 50, 61, 48] (by decide +kernel)
    obtain ⟨h0, h1, h2, h3, h4, h5, h6, h7⟩ := h
    intro k r hr
    match k, hr with
    | 0, hr => cases hr; exact h0
    | 1, hr => cases hr; exact h1
    | 2, hr => cases hr; exact h2
    | 3, hr => cases hr; exact h3
    | 4, hr => cases hr; exact h4
    | 5, hr => cases hr; exact h5
    | 6, hr => cases hr; exact h6
    | 7, hr => cases hr; exact h7
    | k + 8, hr => exact absurd (List.getElem?_eq_some_iff.1 hr).1 (by rw [tab_len]; omega)
  · exact (below_chain (below_chain (below_chain (below_chain (below_chain (below_chain (below_chain (below_chain (below_chain (Below.refl _ _) (Nat.le_refl _) _) (Nat.le_refl _) _) (Nat.le_refl _) _) (Nat.le_refl _) _) (Nat.le_refl _) _) (Nat.le_refl _) _) (Nat.le_refl _) _) (Nat.le_refl _) _) (Nat.le_refl _) _)
end Go.Proofs.YtgbgjlmkmlhefaaGreatDoor

/- The known litmus tests: impl.Known and spec.Known. Condition: the library's variables stand as written. -/
namespace Go.Proofs.YtgbgjlmkmlhefaaGreatDoor
set_option maxRecDepth 20000
set_option linter.unusedSimpArgs false
set_option linter.unusedVariables false
open Go.ChangeShapes Go.WideShapes Go.ChangeAt Go.RowKit
set_option linter.unusedVariables false
set_option maxHeartbeats 3200000 in
theorem impl_Known (s : List UInt8) (w : World) (hE : EnvP w) : Calls Tryz.prog 14 #[str s] w (RetKn s w) := by
  have HE := Lib.hid hE
  have k0 := Bk.new w #[.int .i64 0, .slice none 0 0] 26
  have hBa := (Below.refl w.heap.size w).alloc (Nat.le_refl _) (.cells #[.int .i64 0, .slice none 0 0] 26)
  clear hE
  go_enter Tryz.func14, Tryz.ntmps14
  go_wp2_with fail
  refine (impl_knownTests _).mono ?_
  rintro e w0 ⟨b, rfl, hb, hrow, hB0⟩
  have k1 := k0.below hB0 k0.lt
  have hB1 := hBa.trans (hB0.mono hBa.size)
  have hs0 := hB0.size
  simp only [World.size_alloc] at hs0
  have HR := Lib.hid hrow
  have KR := Lib.hid k1
  have HB1 := Lib.hid hB1
  clear k0 hBa hB0 k1 hB1 hrow
  go_wp2_with fail
  go_loopw [6, 11] (fun _ j wr => ∃ k : Nat, k ≤ 8 ∧ j = .int .i64 k ∧ Hid (knownF s = scanK s (tab.drop k)) ∧ Below w0.heap.size w0 wr) (fun _ j _ => 8 - (intOf j).toNat)
  case atStart => exact ⟨0, Nat.zero_le _, rfl, Lib.hid rfl, Below.refl _ _⟩
  case round =>
    obtain ⟨k, hk, rfl, HK, hB⟩ := hrel
    have hbs := hB.size
    by_cases hlt : k < 8
    · obtain ⟨r, hr⟩ : ∃ r, tab[k]? = some r := ⟨_, List.getElem?_eq_getElem (by rw [tab_len]; exact hlt)⟩
      obtain ⟨vt, x0, x1, x2, hrd⟩ := HR.out k r hr
      have y0 := (hB.cell (p := ⟨b, k * 3, none⟩) hb).trans x0
      have y1 := (hB.cell (p := ⟨b, k * 3 + 1, none⟩) hb).trans x1
      have y2 := (hB.cell (p := ⟨b, k * 3 + 2, none⟩) hb).trans x2
      have hrd' := hrd.below hB
      obtain ⟨AT, cT, rfl, -, -, -, -⟩ := id hrd'
      have HRD := Lib.hid hrd'
      have HR2 := Lib.hid hr
      have hbw : b < wr.heap.size := by omega
      clear x0 x1 x2 hrd hrd' hr
      by_cases he : r.1 = s
      · have HS := Lib.hid (kn_some (scan_hit HK.out HR2.out he))
        obtain ⟨h1k, h2k, h3k, h4k⟩ := tab_texts HR2.out
        obtain ⟨nm, ts, qy⟩ := r
        obtain rfl : s = nm := he.symm
        simp only at y0 y1 y2 HRD HS h1k h2k h3k h4k
        clear HK HR2 hk
        have kb := Bk.new wr #[str s, .slice AT ts.length cT, str qy] 73
        have hba := hB.alloc hB.size (.cells #[str s, .slice AT ts.length cT, str qy] 73)
        have hbr := (Below.refl wr.heap.size wr).alloc (Nat.le_refl _) (.cells #[str s, .slice AT ts.length cT, str qy] 73)
        obtain ⟨W, hW⟩ : ∃ W, wr.alloc (.cells #[str s, .slice AT ts.length cT, str qy] 73) = W := ⟨_, rfl⟩
        have hsW : W.heap.size = wr.heap.size + 1 := by rw [← hW]; simp
        rw [hW] at kb hba hbr
        have HW := Lib.hid hW
        have HEW := Lib.hid (HE.out.below (HB1.out.trans (hba.mono (by omega))) (Nat.le_refl _))
        have HBA := Lib.hid hba
        have HP := Lib.hid (impl_PA qy W (askV qy) (askCF qy).isSome (by omega) rfl rfl HEW.out.1)
        have hal : (askV qy).length ≤ 8 := askCF_len qy
        obtain ⟨L, hL⟩ : ∃ L, askV qy = L := ⟨_, rfl⟩
        obtain ⟨ok, hok⟩ : ∃ ok, (askCF qy).isSome = ok := ⟨_, rfl⟩
        rw [hL] at HS HP hal
        rw [hok] at HP
        obtain ⟨q0, -⟩ := kb.at_ 2 (x := str qy) rfl
        clear hW hba hL hok
        go_wp2_with fail
        rw [HW.out]
        refine HP.out.mono ?_
        rintro e w1 ⟨v1, bs1, rfl, ho1, hlo1, hb1⟩
        obtain ⟨A1, c1, rfl, -, -⟩ := ho1.slice
        have kb1 := kb.below hb1 kb.lt
        obtain ⟨p0, -⟩ := kb1.at_ 0 (x := str s) rfl
        obtain ⟨p1, -⟩ := kb1.at_ 1 (x := .slice AT ts.length cT) rfl
        obtain ⟨p2, -⟩ := kb1.at_ 2 (x := str qy) rfl
        have hs1 := hb1.size
        have HG := Lib.hid (impl_prog (str s) (str qy) (.slice AT ts.length cT) ts w1 rfl rfl ((HRD.out.below hbr).below hb1) h2k h3k (HEW.out.below hb1 (Nat.le_refl _)))
        obtain ⟨X, hX⟩ : ∃ X, ts.map codeV = X := ⟨_, rfl⟩
        rw [hX] at HG HS
        have hl1 := ho1.lt
        clear q0 hX
        go_wp2_with fail
        refine HG.out.mono ?_
        rintro e w2 ⟨v2, bs2, rfl, ho2, hlo2, hb2⟩
        obtain ⟨A2, c2, rfl, -, -⟩ := ho2.slice
        have hs2 := hb2.size
        have hB2 := (HBA.out.trans (hb1.mono (by omega))).trans (hb2.mono (by omega))
        have kr := KR.out.below hB2 KR.out.lt
        obtain ⟨z0, f0⟩ := kr.at_ 0 (x := .int .i64 0) rfl
        have kra := kr.set_ 0 (.int .i64 2)
        obtain ⟨z1, f1⟩ := kra.at_ 1 (x := .slice none 0 0) rfl
        have krb := kra.set_ 1 (.slice A2 X.length c2)
        obtain ⟨r0, -⟩ := krb.at_ 0 (x := .int .i64 2) rfl
        obtain ⟨r1, -⟩ := krb.at_ 1 (x := .slice A2 X.length c2) rfl
        have hBF := ((HB1.out.trans (hB2.mono (by omega))).setCell (p := ⟨w.heap.size, 0, none⟩) (Nat.le_refl _) (.int .i64 2)).setCell (p := ⟨w.heap.size, 1, none⟩) (Nat.le_refl _) (.slice A2 X.length c2)
        have hO2 := (ho2.far (b := w.heap.size) (i := 0) (u := .int .i64 2) fun x hx => by have := hlo2 x hx; omega).far (b := w.heap.size) (i := 1) (u := .slice A2 X.length c2) fun x hx => by have := hlo2 x hx; omega
        have hO1 := ((ho1.below hb2).far (b := w.heap.size) (i := 0) (u := .int .i64 2) fun x hx => by have := hlo1 x hx; omega).far (b := w.heap.size) (i := 1) (u := .slice A2 X.length c2) fun x hx => by have := hlo1 x hx; omega
        have HF := Lib.hid (And.intro hO2 (And.intro hO1 hBF))
        clear p0 p1 p2 kr kra krb hBF hO2 hO1 hB2 kb kb1 ho1 ho2
        go_wp2_with fail
        refine bodyPost_ret (v := .tuple #[.agg #[.int .i64 2, .slice A2 X.length c2], .slice A1 L.length c1, .bool true]) (by simp [results, Tryz.results14, go_sem, r0, r1]) rfl ?_
        obtain ⟨g1, g2, g3⟩ := HS.out
        refine ⟨.slice A2 X.length c2, bs2, .slice A1 L.length c1, bs1, w1.heap.size, by rw [g1, g3], ?_, ?_, hlo2, hl1, fun x hx => by have := hlo1 x hx; omega, by omega, HF.out.2.2⟩
        · rw [g1]
          exact HF.out.1
        · rw [g2]
          exact HF.out.2.1
      · have HM := Lib.hid (scan_miss HK.out HR2.out he)
        have e1 : (r.1 == s) = false := by simp [he]
        have hba := (Below.refl w0.heap.size w0).trans (hB.alloc hB.size (.cells #[str r.1, .slice AT r.2.1.length cT, str r.2.2] 73))
        go_wp2_with fail
        exact ⟨⟨k + 1, by omega, by go_num, HM, hba⟩, by simp [intOf] <;> omega⟩
    · obtain rfl : k = 8 := by omega
      have HN := Lib.hid (kn_none (scan_end HK.out))
      have kr := KR.out.below hB KR.out.lt
      have kz := kr
      obtain ⟨y0, f0⟩ := kz.at_ 0 (x := .int .i64 0) rfl
      have kza := kz.set_ 0 (.int .i64 0)
      obtain ⟨y1, f1⟩ := kza.at_ 1 (x := .slice none 0 0) rfl
      have kzb := kza.set_ 1 (.slice none 0 0)
      obtain ⟨r0, -⟩ := kzb.at_ 0 (x := .int .i64 0) rfl
      obtain ⟨r1, -⟩ := kzb.at_ 1 (x := .slice none 0 0) rfl
      clear kz kza kzb
      have hBF := ((HB1.out.trans (hB.mono (by omega))).setCell (p := ⟨w.heap.size, 0, none⟩) (Nat.le_refl _) (.int .i64 0)).setCell (p := ⟨w.heap.size, 1, none⟩) (Nat.le_refl _) (.slice none 0 0)
      have HBF := Lib.hid hBF
      clear hBF hB
      go_wp2_with fail
      refine bodyPost_ret (v := .tuple #[.agg #[.int .i64 0, .slice none 0 0], .slice none 0 0, .bool false]) (by simp [results, Tryz.results14, go_sem, r0, r1]) rfl ?_
      obtain ⟨h1, h2, h3⟩ := HN.out
      refine ⟨.slice none 0 0, [], .slice none 0 0, [], w.heap.size, by rw [h1, h3], ?_, ?_, by simp, by simp, by simp, Nat.le_refl _, HBF.out⟩
      · rw [h1]
        exact OwnSS.nil _
      · rw [h2]
        exact Own.nil _ _
theorem wp_at {P : Program} {c : Code} {Q : Exit → Act → World → Prop} {f : Act} {W W' : World} (h : W = W') (g : Code.wp P c Q f W) : Code.wp P c Q f W' := h ▸ g
set_option maxHeartbeats 3200000 in
theorem spec_Known (s : List UInt8) (w : World) : Calls Tryz.prog 13 #[str s] w (RetKn s w) := by
  have k0 := Bk.new w #[.int .i64 0, .slice none 0 0] 26
  have hBa := (Below.refl w.heap.size w).alloc (Nat.le_refl _) (.cells #[.int .i64 0, .slice none 0 0] 26)
  have h := rows8s (T := 9) (T' := 65) (w.alloc (.cells #[.int .i64 0, .slice none 0 0] 26)) kn ka tx0 tx1 tx2 tx3 tx4 tx5 tx6 tx7 (by decide +kernel)
  rw [World.size_alloc] at h
  obtain ⟨W, hW⟩ : ∃ W, W = ((((((((((((w.alloc (.cells #[.int .i64 0, .slice none 0 0] 26)).alloc (.cells (kstrs kn).toArray 9)).alloc (.cells (kstrs tx0).toArray 9)).alloc (.cells (kstrs tx1).toArray 9)).alloc (.cells (kstrs tx2).toArray 9)).alloc (.cells (kstrs tx3).toArray 9)).alloc (.cells (kstrs tx4).toArray 9)).alloc (.cells (kstrs tx5).toArray 9)).alloc (.cells (kstrs tx6).toArray 9)).alloc (.cells (kstrs tx7).toArray 9)).alloc (.cells #[.slice (some ⟨w.heap.size + 1 + 1, 0, none⟩) tx0.length tx0.length, .slice (some ⟨w.heap.size + 1 + 2, 0, none⟩) tx1.length tx1.length, .slice (some ⟨w.heap.size + 1 + 3, 0, none⟩) tx2.length tx2.length, .slice (some ⟨w.heap.size + 1 + 4, 0, none⟩) tx3.length tx3.length, .slice (some ⟨w.heap.size + 1 + 5, 0, none⟩) tx4.length tx4.length, .slice (some ⟨w.heap.size + 1 + 6, 0, none⟩) tx5.length tx5.length, .slice (some ⟨w.heap.size + 1 + 7, 0, none⟩) tx6.length tx6.length, .slice (some ⟨w.heap.size + 1 + 8, 0, none⟩) tx7.length tx7.length] 65)).alloc (.cells (kstrs ka).toArray 9)) := ⟨_, rfl⟩
  have hBW : Below (w.alloc (.cells #[.int .i64 0, .slice none 0 0] 26)).heap.size (w.alloc (.cells #[.int .i64 0, .slice none 0 0] 26)) W := by
    rw [hW]
    exact (below_chain (below_chain (below_chain (below_chain (below_chain (below_chain (below_chain (below_chain (below_chain (below_chain (below_chain (Below.refl _ _) (Nat.le_refl _) _) (Nat.le_refl _) _) (Nat.le_refl _) _) (Nat.le_refl _) _) (Nat.le_refl _) _) (Nat.le_refl _) _) (Nat.le_refl _) _) (Nat.le_refl _) _) (Nat.le_refl _) _) (Nat.le_refl _) _) (Nat.le_refl _) _)
  rw [← hW] at h
  have hsW : W.heap.size = w.heap.size + 12 := by rw [hW]; simp only [World.size_alloc]
  obtain ⟨hn, ha, h0, h1, h2, h3, h4, h5, h6, h7⟩ := h
  have hall : ∀ k r, tab[k]? = some r → W.cell? ⟨w.heap.size + 1, k, none⟩ = some (str r.1) ∧ W.cell? ⟨w.heap.size + 1 + 1 + 1 + 1 + 1 + 1 + 1 + 1 + 1 + 1 + 1, k, none⟩ = some (str r.2.2) ∧ ∃ v, W.cell? ⟨w.heap.size + 1 + 1 + 1 + 1 + 1 + 1 + 1 + 1 + 1 + 1, k, none⟩ = some v ∧ Rd W v 1 r.2.1.length (kstrs r.2.1) := by
    intro k r hr
    match k, hr with
    | 0, hr => cases hr; exact ⟨(hn 0).trans rfl, (ha 0).trans rfl, h0⟩
    | 1, hr => cases hr; exact ⟨(hn 1).trans rfl, (ha 1).trans rfl, h1⟩
    | 2, hr => cases hr; exact ⟨(hn 2).trans rfl, (ha 2).trans rfl, h2⟩
    | 3, hr => cases hr; exact ⟨(hn 3).trans rfl, (ha 3).trans rfl, h3⟩
    | 4, hr => cases hr; exact ⟨(hn 4).trans rfl, (ha 4).trans rfl, h4⟩
    | 5, hr => cases hr; exact ⟨(hn 5).trans rfl, (ha 5).trans rfl, h5⟩
    | 6, hr => cases hr; exact ⟨(hn 6).trans rfl, (ha 6).trans rfl, h6⟩
    | 7, hr => cases hr; exact ⟨(hn 7).trans rfl, (ha 7).trans rfl, h7⟩
    | k + 8, hr => exact absurd (List.getElem?_eq_some_iff.1 hr).1 (by rw [tab_len]; omega)
  have HR := Lib.hid hall
  have KR := Lib.hid (k0.below hBW k0.lt)
  have HB1 := Lib.hid (hBa.trans (hBW.mono hBa.size))
  have HWW := Lib.hid hW
  have hgb : w.heap.size + 1 < W.heap.size ∧ w.heap.size + 1 + 1 + 1 + 1 + 1 + 1 + 1 + 1 + 1 + 1 < W.heap.size ∧ w.heap.size + 1 + 1 + 1 + 1 + 1 + 1 + 1 + 1 + 1 + 1 + 1 < W.heap.size := by omega
  clear hn ha h0 h1 h2 h3 h4 h5 h6 h7 hall hBW hBa k0 hW
  go_enter Tryz.func13, Tryz.ntmps13
  go_wp2_with fail
  refine wp_at HWW.out ?_
  go_loopw [8] (fun j wr => ∃ k : Nat, k ≤ 8 ∧ j = .int .i64 k ∧ Hid (knownF s = scanK s (tab.drop k)) ∧ Below W.heap.size W wr) (fun j _ => 8 - (intOf j).toNat)
  case atStart => exact ⟨0, Nat.zero_le _, rfl, Lib.hid rfl, Below.refl _ _⟩
  case round =>
    obtain ⟨k, hk, rfl, HK, hB⟩ := hrel
    have hbs := hB.size
    obtain ⟨hb1, hb2, hb3⟩ := hgb
    by_cases hlt : k < 8
    · obtain ⟨r, hr⟩ : ∃ r, tab[k]? = some r := ⟨_, List.getElem?_eq_getElem (by rw [tab_len]; exact hlt)⟩
      obtain ⟨x0, x2, vt, x1, hrd⟩ := HR.out k r hr
      have y0 := (hB.cell (p := ⟨w.heap.size + 1, k, none⟩) hb1).trans x0
      have y1 := (hB.cell (p := ⟨w.heap.size + 1 + 1 + 1 + 1 + 1 + 1 + 1 + 1 + 1 + 1, k, none⟩) hb2).trans x1
      have y2 := (hB.cell (p := ⟨w.heap.size + 1 + 1 + 1 + 1 + 1 + 1 + 1 + 1 + 1 + 1 + 1, k, none⟩) hb3).trans x2
      have hrd' := hrd.below hB
      obtain ⟨AT, cT, rfl, -, -, -, -⟩ := id hrd'
      have HRD := Lib.hid hrd'
      have HR2 := Lib.hid hr
      clear x0 x1 x2 hrd hrd' hr
      by_cases he : r.1 = s
      · have HS := Lib.hid (kn_some (scan_hit HK.out HR2.out he))
        obtain ⟨h1k, h2k, h3k, h4k⟩ := tab_texts HR2.out
        obtain ⟨nm, ts, qy⟩ := r
        obtain rfl : s = nm := he.symm
        simp only at y0 y1 y2 HRD HS h1k h2k h3k h4k
        clear HK HR2 hk
        have HP := Lib.hid (spec_PA qy wr (askV qy) (askCF qy).isSome (by omega) rfl rfl)
        have hal : (askV qy).length ≤ 8 := askCF_len qy
        obtain ⟨L, hL⟩ : ∃ L, askV qy = L := ⟨_, rfl⟩
        obtain ⟨ok, hok⟩ : ∃ ok, (askCF qy).isSome = ok := ⟨_, rfl⟩
        rw [hL] at HS HP hal
        rw [hok] at HP
        clear hL hok
        go_wp2_with fail
        refine HP.out.mono ?_
        rintro e w1 ⟨v1, bs1, rfl, ho1, hlo1, hb1⟩
        obtain ⟨A1, c1, rfl, -, -⟩ := ho1.slice
        have hs1 := hb1.size
        have p1 := (hb1.cell (p := ⟨w.heap.size + 1 + 1 + 1 + 1 + 1 + 1 + 1 + 1 + 1 + 1, k, none⟩) (by show w.heap.size + 1 + 1 + 1 + 1 + 1 + 1 + 1 + 1 + 1 + 1 < wr.heap.size; omega)).trans y1
        have HG := Lib.hid (spec_l06Codes (.slice AT ts.length cT) ts w1 (HRD.out.below hb1) h2k h3k)
        obtain ⟨X, hX⟩ : ∃ X, ts.map codeV = X := ⟨_, rfl⟩
        rw [hX] at HG HS
        have hl1 := ho1.lt
        clear hX y0 y1 y2
        go_wp2_with fail
        refine HG.out.mono ?_
        rintro e w2 ⟨v2, bs2, rfl, ho2, hlo2, hb2⟩
        obtain ⟨A2, c2, rfl, -, -⟩ := ho2.slice
        have hs2 := hb2.size
        have hB2 := (hB.trans (hb1.mono (by omega))).trans (hb2.mono (by omega))
        have kr := KR.out.below hB2 KR.out.lt
        obtain ⟨z0, f0⟩ := kr.at_ 0 (x := .int .i64 0) rfl
        have kra := kr.set_ 0 (.int .i64 2)
        obtain ⟨z1, f1⟩ := kra.at_ 1 (x := .slice none 0 0) rfl
        have krb := kra.set_ 1 (.slice A2 X.length c2)
        obtain ⟨r0, -⟩ := krb.at_ 0 (x := .int .i64 2) rfl
        obtain ⟨r1, -⟩ := krb.at_ 1 (x := .slice A2 X.length c2) rfl
        have hBF := ((HB1.out.trans (hB2.mono (by omega))).setCell (p := ⟨w.heap.size, 0, none⟩) (Nat.le_refl _) (.int .i64 2)).setCell (p := ⟨w.heap.size, 1, none⟩) (Nat.le_refl _) (.slice A2 X.length c2)
        have hO2 := (ho2.far (b := w.heap.size) (i := 0) (u := .int .i64 2) fun x hx => by have := hlo2 x hx; omega).far (b := w.heap.size) (i := 1) (u := .slice A2 X.length c2) fun x hx => by have := hlo2 x hx; omega
        have hO1 := ((ho1.below hb2).far (b := w.heap.size) (i := 0) (u := .int .i64 2) fun x hx => by have := hlo1 x hx; omega).far (b := w.heap.size) (i := 1) (u := .slice A2 X.length c2) fun x hx => by have := hlo1 x hx; omega
        have HF := Lib.hid (And.intro hO2 (And.intro hO1 hBF))
        clear p1 kr kra krb hBF hO2 hO1 hB2 ho1 ho2
        go_wp2_with fail
        refine bodyPost_ret (v := .tuple #[.agg #[.int .i64 2, .slice A2 X.length c2], .slice A1 L.length c1, .bool true]) (by simp [results, Tryz.results13, go_sem, r0, r1]) rfl ?_
        obtain ⟨g1, g2, g3⟩ := HS.out
        refine ⟨.slice A2 X.length c2, bs2, .slice A1 L.length c1, bs1, w1.heap.size, by rw [g1, g3], ?_, ?_, hlo2, hl1, fun x hx => by have := hlo1 x hx; omega, by omega, HF.out.2.2⟩
        · rw [g1]
          exact HF.out.1
        · rw [g2]
          exact HF.out.2.1
      · have HM := Lib.hid (scan_miss HK.out HR2.out he)
        have e1 : (r.1 == s) = false := by simp [he]
        go_wp2_with fail
        exact ⟨⟨k + 1, by omega, by go_num, HM, hB⟩, by simp [intOf] <;> omega⟩
    · obtain rfl : k = 8 := by omega
      have HN := Lib.hid (kn_none (scan_end HK.out))
      have kr := KR.out.below hB KR.out.lt
      have kz := kr
      obtain ⟨y0, f0⟩ := kz.at_ 0 (x := .int .i64 0) rfl
      have kza := kz.set_ 0 (.int .i64 0)
      obtain ⟨y1, f1⟩ := kza.at_ 1 (x := .slice none 0 0) rfl
      have kzb := kza.set_ 1 (.slice none 0 0)
      obtain ⟨r0, -⟩ := kzb.at_ 0 (x := .int .i64 0) rfl
      obtain ⟨r1, -⟩ := kzb.at_ 1 (x := .slice none 0 0) rfl
      clear kz kza kzb
      have hBF := ((HB1.out.trans (hB.mono (by omega))).setCell (p := ⟨w.heap.size, 0, none⟩) (Nat.le_refl _) (.int .i64 0)).setCell (p := ⟨w.heap.size, 1, none⟩) (Nat.le_refl _) (.slice none 0 0)
      have HBF := Lib.hid hBF
      clear hBF hB
      go_wp2_with fail
      refine bodyPost_ret (v := .tuple #[.agg #[.int .i64 0, .slice none 0 0], .slice none 0 0, .bool false]) (by simp [results, Tryz.results13, go_sem, r0, r1]) rfl ?_
      obtain ⟨h1, h2, h3⟩ := HN.out
      refine ⟨.slice none 0 0, [], .slice none 0 0, [], w.heap.size, by rw [h1, h3], ?_, ?_, by simp, by simp, by simp, Nat.le_refl _, HBF.out⟩
      · rw [h1]
        exact OwnSS.nil _
      · rw [h2]
        exact Own.nil _ _
end Go.Proofs.YtgbgjlmkmlhefaaGreatDoor
