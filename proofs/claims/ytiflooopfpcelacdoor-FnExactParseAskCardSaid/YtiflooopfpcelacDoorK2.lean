import Derived.Test.YtiflooopfpcelacDoorV4
import Derived.Test.YtiflooopfpcelacDoorI5
import Derived.Test.YtiflooopfpcelacDoorS2p
import Derived.Test.YtiflooopfpcelacDoorSteps
import Derived.Test.YtiflooopfpcelacDoorT5
import Derived.Lib.OthersKept
/- What chapter 6's functions answer, as plain functions over lists. An atom has the shape of an instruction: Kind o, T r, X s, V n. No condition. -/
namespace Go.Proofs.YtiflooopfpcelacDoor
set_option maxRecDepth 20000
set_option linter.unusedSimpArgs false
set_option linter.unusedVariables false
def atomOkF (a : Ins) (p : Pr) : Bool := progOkF p && valB a.n && (if a.o = 0 then inB a.r 0 (p.x.length - 1) && inB a.s 0 3 else a.o == 1 && a.r == 0 && inB a.s 0 (p.c - 1))
def thAt (M : Ma) (k : Nat) : Th := M.ths.getD k ⟨0, [], []⟩
def atomHolds (M : Ma) (a : Ins) : Bool :=
  if a.o = 0 then inB a.r 0 (M.ths.length - 1) && inB a.s 0 ((thAt M a.r.toNat).v.length - 1) && decide ((thAt M a.r.toNat).v.getD a.s.toNat 0 = a.n)
  else if a.o = 1 then inB a.s 0 (M.mem.length - 1) && decide (M.mem.getD a.s.toNat 0 = a.n) else false
def holdsF (M : Ma) (xs : List Ins) : Bool := decide (xs.length ≤ 8) && xs.all (atomHolds M)
theorem holdsF_big {M : Ma} {xs : List Ins} (h : ¬ xs.length ≤ 8) : holdsF M xs = false := by simp [holdsF, h]
theorem holdsF_of {M : Ma} {xs : List Ins} (h : xs.length ≤ 8) : holdsF M xs = xs.all (atomHolds M) := by simp [holdsF, h]
end Go.Proofs.YtiflooopfpcelacDoor

/- Contracts of chapter 6's atoms, of both sides: which place an atom looks at, whether it is well. Condition: the program can be read. -/
namespace Go.Proofs.YtiflooopfpcelacDoor
set_option maxRecDepth 20000
set_option linter.unusedSimpArgs false
set_option linter.unusedVariables false
open Go.ChangeShapes Go.WideShapes Go.ChangeAt Go.RowKit
set_option linter.unusedVariables false
def placeV (a : Ins) : Value := if a.o = 0 then .iface 146 (.agg #[.int .i64 a.r, .int .i64 a.s]) else if a.o = 1 then .iface 149 (.agg #[.int .i64 a.s]) else .nilIface
def knownB (a : Ins) : Bool := a.o == 0 || a.o == 1
def strayB (a : Ins) : Bool := a.o == 1 && a.r != 0
set_option maxHeartbeats 800000 in
theorem impl_placeOf (a : Ins) (w : World) :
    Calls Tryd.prog 102 #[(Value.agg #[.int .i64 a.o, .int .i64 a.r, .int .i64 a.s, .int .i64 a.n])] w fun e w' => e = .returned (.tuple #[placeV a, .bool (knownB a)]) ∧ Below w.heap.size w w' := by
  obtain ⟨o, r, s, n⟩ := a
  have HB := Lib.hid ((Below.refl w.heap.size w).alloc (Nat.le_refl _) (.cells #[.int .i64 o, .int .i64 r, .int .i64 s, .int .i64 n] 100))
  by_cases h0 : o = 0
  · subst h0
    go_enter Tryd.func102, Tryd.ntmps102
    go_wp2_with fail
    go_ret2
    exact ⟨rfl, HB.out⟩
  · by_cases h1 : o = 1
    · subst h1
      clear h0
      go_enter Tryd.func102, Tryd.ntmps102
      go_wp2_with fail
      go_ret2
      exact ⟨rfl, HB.out⟩
    · have e0 : (o == (0 : Int)) = false := by simp [h0]
      have e1 : (o == (1 : Int)) = false := by simp [h1]
      have HV : Hid (placeV ⟨o, r, s, n⟩ = .nilIface ∧ knownB ⟨o, r, s, n⟩ = false) := Lib.hid ⟨by simp [placeV, h0, h1], by simp [knownB, h0, h1]⟩
      clear h0 h1
      go_enter Tryd.func102, Tryd.ntmps102
      go_wp2_with fail
      go_ret2
      exact ⟨by rw [HV.out.1, HV.out.2]; rfl, HB.out⟩
set_option maxHeartbeats 800000 in
theorem impl_stray (a : Ins) (w : World) :
    Calls Tryd.prog 101 #[(Value.agg #[.int .i64 a.o, .int .i64 a.r, .int .i64 a.s, .int .i64 a.n])] w fun e w' => e = .returned (.bool (strayB a)) ∧ Below w.heap.size w w' := by
  obtain ⟨o, r, s, n⟩ := a
  have HB := Lib.hid ((Below.refl w.heap.size w).alloc (Nat.le_refl _) (.cells #[.int .i64 o, .int .i64 r, .int .i64 s, .int .i64 n] 100))
  cases e1 : (o == (1 : Int))
  · have HV : Hid (strayB ⟨o, r, s, n⟩ = false) := Lib.hid (by simp [strayB, e1])
    go_enter Tryd.func101, Tryd.ntmps101
    go_wp2_with fail
    go_ret
    exact ⟨ret_bool HV.out.symm, HB.out⟩
  · have HV : Hid (strayB ⟨o, r, s, n⟩ = (r != 0)) := Lib.hid (by simp [strayB, e1])
    go_enter Tryd.func101, Tryd.ntmps101
    go_wp2_with fail
    go_ret
    exact ⟨ret_bool HV.out.symm, HB.out⟩
end Go.Proofs.YtiflooopfpcelacDoor

/- The text of atoms: the model's and the program's. The program's asks for the library's table of powers of ten. Condition: the atoms can be read, their fields are integers of 64 bits. -/
namespace Go.Proofs.YtiflooopfpcelacDoor
set_option maxRecDepth 20000
set_option linter.unusedSimpArgs false
set_option linter.unusedVariables false
open Go.ChangeShapes Go.WideShapes Go.ChangeAt Go.RowKit
set_option linter.unusedVariables false
set_option maxHeartbeats 3200000 in
theorem fill_reg (b : Nat) (a0 : Int) (a1 : Int) (a2 : Int) (w : World) (hb : b < w.heap.size) (c0 : w.cell? ⟨b, 0, none⟩ = some (.int .i64 a0)) (c1 : w.cell? ⟨b, 1, none⟩ = some (.int .i64 a1)) (c2 : w.cell? ⟨b, 2, none⟩ = some (.int .i64 a2)) (ha0 : -9223372036854775808 ≤ a0 ∧ a0 ≤ 9223372036854775807) (ha1 : -9223372036854775808 ≤ a1 ∧ a1 ≤ 9223372036854775807) (ha2 : -9223372036854775808 ≤ a2 ∧ a2 ≤ 9223372036854775807) (ht : Tab w) :
    Calls Tryd.prog 103 #[.string ⟨#[35, 58, 35, 61, 35]⟩, .slice (some ⟨b, 0, none⟩) 3 3] w fun e w' => e = .returned (str (Lib.itoa a0 ++ [58] ++ Lib.itoa a1 ++ [61] ++ Lib.itoa a2)) ∧ Below w.heap.size w w' := by
  obtain ⟨t0, ht0⟩ : ∃ t, Lib.itoa a0 = t := ⟨_, rfl⟩
  have hl0 : t0.length ≤ 20 := by rw [← ht0]; exact digs_len ha0
  have hI0 := fun (W : World) (hW : Below w.heap.size w W) => itoa_call a0 W ha0 (ht.below hW (Nat.le_refl _))
  rw [ht0] at hI0 ⊢
  have HI0 := Lib.hid hI0
  have HC0 : Hid (∀ W, Below w.heap.size w W → W.cell? ⟨b, 0, none⟩ = some (.int .i64 a0)) := Lib.hid fun W hW => (hW.cell (p := ⟨b, 0, none⟩) hb).trans c0
  clear hI0 ht0 c0
  obtain ⟨t1, ht1⟩ : ∃ t, Lib.itoa a1 = t := ⟨_, rfl⟩
  have hl1 : t1.length ≤ 20 := by rw [← ht1]; exact digs_len ha1
  have hI1 := fun (W : World) (hW : Below w.heap.size w W) => itoa_call a1 W ha1 (ht.below hW (Nat.le_refl _))
  rw [ht1] at hI1 ⊢
  have HI1 := Lib.hid hI1
  have HC1 : Hid (∀ W, Below w.heap.size w W → W.cell? ⟨b, 1, none⟩ = some (.int .i64 a1)) := Lib.hid fun W hW => (hW.cell (p := ⟨b, 1, none⟩) hb).trans c1
  clear hI1 ht1 c1
  obtain ⟨t2, ht2⟩ : ∃ t, Lib.itoa a2 = t := ⟨_, rfl⟩
  have hl2 : t2.length ≤ 20 := by rw [← ht2]; exact digs_len ha2
  have hI2 := fun (W : World) (hW : Below w.heap.size w W) => itoa_call a2 W ha2 (ht.below hW (Nat.le_refl _))
  rw [ht2] at hI2 ⊢
  have HI2 := Lib.hid hI2
  have HC2 : Hid (∀ W, Below w.heap.size w W → W.cell? ⟨b, 2, none⟩ = some (.int .i64 a2)) := Lib.hid fun W hW => (hW.cell (p := ⟨b, 2, none⟩) hb).trans c2
  clear hI2 ht2 c2
  have q58 : ∀ W : World, (convert 21 9 (.int .i32 58)).run Tryd.prog W = .ok (.string ⟨#[58]⟩) W := fun _ => by kernel_rfl
  have q61 : ∀ W : World, (convert 21 9 (.int .i32 61)).run Tryd.prog W = .ok (.string ⟨#[61]⟩) W := fun _ => by kernel_rfl
  have hBa := (Below.refl w.heap.size w).alloc (Nat.le_refl _) (.stringIter ⟨#[35, 58, 35, 61, 35]⟩ 0)
  have hit0 : (w.alloc (.stringIter ⟨#[35, 58, 35, 61, 35]⟩ 0)).heap[w.heap.size]? = some (.stringIter ⟨#[35, 58, 35, 61, 35]⟩ 0) := World.iter_heap w ⟨#[35, 58, 35, 61, 35]⟩ 0
  clear ht hb
  go_enter Tryd.func103, Tryd.ntmps103
  go_wp2_with fail
  go_loopw [5, 6] (fun tx fi wr => ∃ k : Nat, wr.heap[w.heap.size]? = some (.stringIter ⟨#[35, 58, 35, 61, 35]⟩ k) ∧ Below w.heap.size w wr ∧ ((k = 0 ∧ tx = str ([]) ∧ fi = .int .i64 0) ∨ (k = 1 ∧ tx = str (t0) ∧ fi = .int .i64 1) ∨ (k = 2 ∧ tx = str (t0 ++ [58]) ∧ fi = .int .i64 1) ∨ (k = 3 ∧ tx = str (t0 ++ [58] ++ t1) ∧ fi = .int .i64 2) ∨ (k = 4 ∧ tx = str (t0 ++ [58] ++ t1 ++ [61]) ∧ fi = .int .i64 2) ∨ (k = 5 ∧ tx = str (t0 ++ [58] ++ t1 ++ [61] ++ t2) ∧ fi = .int .i64 3))) (fun _ _ wr => 5 - wr.iterPos w.heap.size)
  case atStart => exact ⟨0, hit0, hBa, .inl ⟨rfl, rfl, rfl⟩⟩
  case round =>
    obtain ⟨k, hit, hB, hk⟩ := hrel
    clear hit0 hBa
    have hlt : w.heap.size < wr.heap.size := (Array.getElem?_eq_some_iff.1 hit).1
    rcases hk with ⟨rfl, rfl, rfl⟩ | ⟨rfl, rfl, rfl⟩ | ⟨rfl, rfl, rfl⟩ | ⟨rfl, rfl, rfl⟩ | ⟨rfl, rfl, rfl⟩ | ⟨rfl, rfl, rfl⟩
    · have hd : Utf8.decode ⟨#[35, 58, 35, 61, 35]⟩ 0 = (35, 1) := by decide +kernel
      have hnx : ∀ ty, (Instr.next (.pointer (some ⟨w.heap.size, 0, none⟩)) true ty).run Tryd.prog wr = .ok (.tuple #[.bool true, .int .i64 0, .int .i32 35]) (wr.iterAt w.heap.size ⟨#[35, 58, 35, 61, 35]⟩ 1) := fun ty => by
        have := Lib.run_next_any_at (P := Tryd.prog) wr w.heap.size ⟨#[35, 58, 35, 61, 35]⟩ 0 ty hit (by decide)
        rw [hd] at this
        exact this
      have hit2 := Lib.iterAt_heap wr w.heap.size ⟨#[35, 58, 35, 61, 35]⟩ 0 1 hit
      have hB2 := Lib.below_iterAt hB (k := w.heap.size) (Nat.le_refl _) ⟨#[35, 58, 35, 61, 35]⟩ 1
      have hsz : (wr.iterAt w.heap.size ⟨#[35, 58, 35, 61, 35]⟩ 1).heap.size = wr.heap.size := Lib.iterAt_size _ _ _ _
      have hm : wr.iterPos w.heap.size = 0 := by simp only [World.iterPos, hit]
      have hc := HC0.out _ hB2
      have hlen : ¬ (9223372036854775807 < ([] : List UInt8).length + t0.length) := by simp; omega
      have HB2 := Lib.hid hB2
      have HIT := Lib.hid hit2
      clear hB2 hit2 hd
      go_wp2_with fail
      refine (HI0.out _ HB2.out).mono ?_
      rintro e w5 ⟨rfl, hb5⟩
      have hB5 := HB2.out.trans (hb5.mono (by rw [hsz]; omega))
      have hit5 : w5.heap[w.heap.size]? = some (.stringIter ⟨#[35, 58, 35, 61, 35]⟩ 1) := (hb5.block _ (by rw [hsz]; exact hlt)).trans HIT.out
      go_wp2_with fail
      refine ⟨⟨1, hit5, hB5, .inr (.inl ⟨rfl, ?_, ?_⟩)⟩, ?_⟩
      · first | exact congrArg Value.string (bytes_app _ _) | (refine (congrArg Value.string (bytes_app _ _)).trans ?_; simp [str])
      · rfl
      · rw [hm]; simp only [World.iterPos, hit5]; omega
    · have hd : Utf8.decode ⟨#[35, 58, 35, 61, 35]⟩ 1 = (58, 1) := by decide +kernel
      have hnx : ∀ ty, (Instr.next (.pointer (some ⟨w.heap.size, 0, none⟩)) true ty).run Tryd.prog wr = .ok (.tuple #[.bool true, .int .i64 1, .int .i32 58]) (wr.iterAt w.heap.size ⟨#[35, 58, 35, 61, 35]⟩ 2) := fun ty => by
        have := Lib.run_next_any_at (P := Tryd.prog) wr w.heap.size ⟨#[35, 58, 35, 61, 35]⟩ 1 ty hit (by decide)
        rw [hd] at this
        exact this
      have hit2 := Lib.iterAt_heap wr w.heap.size ⟨#[35, 58, 35, 61, 35]⟩ 1 2 hit
      have hB2 := Lib.below_iterAt hB (k := w.heap.size) (Nat.le_refl _) ⟨#[35, 58, 35, 61, 35]⟩ 2
      have hsz : (wr.iterAt w.heap.size ⟨#[35, 58, 35, 61, 35]⟩ 2).heap.size = wr.heap.size := Lib.iterAt_size _ _ _ _
      have hm : wr.iterPos w.heap.size = 1 := by simp only [World.iterPos, hit]
      have hlen : ¬ (9223372036854775807 < (t0 : List UInt8).length + 1) := by simp; try omega
      have HB2 := Lib.hid hB2
      have HIT := Lib.hid hit2
      clear hB2 hit2 hd
      go_wp2_with fail
      refine ⟨⟨2, HIT.out, HB2.out, .inr (.inr (.inl ⟨rfl, ?_, ?_⟩))⟩, ?_⟩
      · first | exact congrArg Value.string (bytes_app _ [58]) | (refine (congrArg Value.string (bytes_app _ [58])).trans ?_; simp [str])
      · rfl
      · rw [hm]; simp only [World.iterPos, HIT.out]; omega
    · have hd : Utf8.decode ⟨#[35, 58, 35, 61, 35]⟩ 2 = (35, 1) := by decide +kernel
      have hnx : ∀ ty, (Instr.next (.pointer (some ⟨w.heap.size, 0, none⟩)) true ty).run Tryd.prog wr = .ok (.tuple #[.bool true, .int .i64 2, .int .i32 35]) (wr.iterAt w.heap.size ⟨#[35, 58, 35, 61, 35]⟩ 3) := fun ty => by
        have := Lib.run_next_any_at (P := Tryd.prog) wr w.heap.size ⟨#[35, 58, 35, 61, 35]⟩ 2 ty hit (by decide)
        rw [hd] at this
        exact this
      have hit2 := Lib.iterAt_heap wr w.heap.size ⟨#[35, 58, 35, 61, 35]⟩ 2 3 hit
      have hB2 := Lib.below_iterAt hB (k := w.heap.size) (Nat.le_refl _) ⟨#[35, 58, 35, 61, 35]⟩ 3
      have hsz : (wr.iterAt w.heap.size ⟨#[35, 58, 35, 61, 35]⟩ 3).heap.size = wr.heap.size := Lib.iterAt_size _ _ _ _
      have hm : wr.iterPos w.heap.size = 2 := by simp only [World.iterPos, hit]
      have hc := HC1.out _ hB2
      have hlen : ¬ (9223372036854775807 < (t0 ++ [58] : List UInt8).length + t1.length) := by simp; omega
      have HB2 := Lib.hid hB2
      have HIT := Lib.hid hit2
      clear hB2 hit2 hd
      go_wp2_with fail
      refine (HI1.out _ HB2.out).mono ?_
      rintro e w5 ⟨rfl, hb5⟩
      have hB5 := HB2.out.trans (hb5.mono (by rw [hsz]; omega))
      have hit5 : w5.heap[w.heap.size]? = some (.stringIter ⟨#[35, 58, 35, 61, 35]⟩ 3) := (hb5.block _ (by rw [hsz]; exact hlt)).trans HIT.out
      go_wp2_with fail
      refine ⟨⟨3, hit5, hB5, .inr (.inr (.inr (.inl ⟨rfl, ?_, ?_⟩)))⟩, ?_⟩
      · first | exact congrArg Value.string (bytes_app _ _) | (refine (congrArg Value.string (bytes_app _ _)).trans ?_; simp [str])
      · rfl
      · rw [hm]; simp only [World.iterPos, hit5]; omega
    · have hd : Utf8.decode ⟨#[35, 58, 35, 61, 35]⟩ 3 = (61, 1) := by decide +kernel
      have hnx : ∀ ty, (Instr.next (.pointer (some ⟨w.heap.size, 0, none⟩)) true ty).run Tryd.prog wr = .ok (.tuple #[.bool true, .int .i64 3, .int .i32 61]) (wr.iterAt w.heap.size ⟨#[35, 58, 35, 61, 35]⟩ 4) := fun ty => by
        have := Lib.run_next_any_at (P := Tryd.prog) wr w.heap.size ⟨#[35, 58, 35, 61, 35]⟩ 3 ty hit (by decide)
        rw [hd] at this
        exact this
      have hit2 := Lib.iterAt_heap wr w.heap.size ⟨#[35, 58, 35, 61, 35]⟩ 3 4 hit
      have hB2 := Lib.below_iterAt hB (k := w.heap.size) (Nat.le_refl _) ⟨#[35, 58, 35, 61, 35]⟩ 4
      have hsz : (wr.iterAt w.heap.size ⟨#[35, 58, 35, 61, 35]⟩ 4).heap.size = wr.heap.size := Lib.iterAt_size _ _ _ _
      have hm : wr.iterPos w.heap.size = 3 := by simp only [World.iterPos, hit]
      have hlen : ¬ (9223372036854775807 < (t0 ++ [58] ++ t1 : List UInt8).length + 1) := by simp; try omega
      have HB2 := Lib.hid hB2
      have HIT := Lib.hid hit2
      clear hB2 hit2 hd
      go_wp2_with fail
      refine ⟨⟨4, HIT.out, HB2.out, .inr (.inr (.inr (.inr (.inl ⟨rfl, ?_, ?_⟩))))⟩, ?_⟩
      · first | exact congrArg Value.string (bytes_app _ [61]) | (refine (congrArg Value.string (bytes_app _ [61])).trans ?_; simp [str])
      · rfl
      · rw [hm]; simp only [World.iterPos, HIT.out]; omega
    · have hd : Utf8.decode ⟨#[35, 58, 35, 61, 35]⟩ 4 = (35, 1) := by decide +kernel
      have hnx : ∀ ty, (Instr.next (.pointer (some ⟨w.heap.size, 0, none⟩)) true ty).run Tryd.prog wr = .ok (.tuple #[.bool true, .int .i64 4, .int .i32 35]) (wr.iterAt w.heap.size ⟨#[35, 58, 35, 61, 35]⟩ 5) := fun ty => by
        have := Lib.run_next_any_at (P := Tryd.prog) wr w.heap.size ⟨#[35, 58, 35, 61, 35]⟩ 4 ty hit (by decide)
        rw [hd] at this
        exact this
      have hit2 := Lib.iterAt_heap wr w.heap.size ⟨#[35, 58, 35, 61, 35]⟩ 4 5 hit
      have hB2 := Lib.below_iterAt hB (k := w.heap.size) (Nat.le_refl _) ⟨#[35, 58, 35, 61, 35]⟩ 5
      have hsz : (wr.iterAt w.heap.size ⟨#[35, 58, 35, 61, 35]⟩ 5).heap.size = wr.heap.size := Lib.iterAt_size _ _ _ _
      have hm : wr.iterPos w.heap.size = 4 := by simp only [World.iterPos, hit]
      have hc := HC2.out _ hB2
      have hlen : ¬ (9223372036854775807 < (t0 ++ [58] ++ t1 ++ [61] : List UInt8).length + t2.length) := by simp; omega
      have HB2 := Lib.hid hB2
      have HIT := Lib.hid hit2
      clear hB2 hit2 hd
      go_wp2_with fail
      refine (HI2.out _ HB2.out).mono ?_
      rintro e w5 ⟨rfl, hb5⟩
      have hB5 := HB2.out.trans (hb5.mono (by rw [hsz]; omega))
      have hit5 : w5.heap[w.heap.size]? = some (.stringIter ⟨#[35, 58, 35, 61, 35]⟩ 5) := (hb5.block _ (by rw [hsz]; exact hlt)).trans HIT.out
      go_wp2_with fail
      refine ⟨⟨5, hit5, hB5, .inr (.inr (.inr (.inr (.inr (⟨rfl, ?_, ?_⟩)))))⟩, ?_⟩
      · first | exact congrArg Value.string (bytes_app _ _) | (refine (congrArg Value.string (bytes_app _ _)).trans ?_; simp [str])
      · rfl
      · rw [hm]; simp only [World.iterPos, hit5]; omega
    · have hnx : ∀ ty, (Instr.next (.pointer (some ⟨w.heap.size, 0, none⟩)) true ty).run Tryd.prog wr = .ok (.tuple #[.bool false]) wr := fun ty => Lib.run_next_end_at wr w.heap.size _ 5 ty hit (by decide)
      go_wp2_with fail
      go_ret
      exact ⟨rfl, hB⟩
set_option maxHeartbeats 3200000 in
theorem fill_cell (b : Nat) (a0 : Int) (a1 : Int) (w : World) (hb : b < w.heap.size) (c0 : w.cell? ⟨b, 0, none⟩ = some (.int .i64 a0)) (c1 : w.cell? ⟨b, 1, none⟩ = some (.int .i64 a1)) (ha0 : -9223372036854775808 ≤ a0 ∧ a0 ≤ 9223372036854775807) (ha1 : -9223372036854775808 ≤ a1 ∧ a1 ≤ 9223372036854775807) (ht : Tab w) :
    Calls Tryd.prog 103 #[.string ⟨#[91, 35, 93, 61, 35]⟩, .slice (some ⟨b, 0, none⟩) 2 2] w fun e w' => e = .returned (str ([91] ++ Lib.itoa a0 ++ [93] ++ [61] ++ Lib.itoa a1)) ∧ Below w.heap.size w w' := by
  obtain ⟨t0, ht0⟩ : ∃ t, Lib.itoa a0 = t := ⟨_, rfl⟩
  have hl0 : t0.length ≤ 20 := by rw [← ht0]; exact digs_len ha0
  have hI0 := fun (W : World) (hW : Below w.heap.size w W) => itoa_call a0 W ha0 (ht.below hW (Nat.le_refl _))
  rw [ht0] at hI0 ⊢
  have HI0 := Lib.hid hI0
  have HC0 : Hid (∀ W, Below w.heap.size w W → W.cell? ⟨b, 0, none⟩ = some (.int .i64 a0)) := Lib.hid fun W hW => (hW.cell (p := ⟨b, 0, none⟩) hb).trans c0
  clear hI0 ht0 c0
  obtain ⟨t1, ht1⟩ : ∃ t, Lib.itoa a1 = t := ⟨_, rfl⟩
  have hl1 : t1.length ≤ 20 := by rw [← ht1]; exact digs_len ha1
  have hI1 := fun (W : World) (hW : Below w.heap.size w W) => itoa_call a1 W ha1 (ht.below hW (Nat.le_refl _))
  rw [ht1] at hI1 ⊢
  have HI1 := Lib.hid hI1
  have HC1 : Hid (∀ W, Below w.heap.size w W → W.cell? ⟨b, 1, none⟩ = some (.int .i64 a1)) := Lib.hid fun W hW => (hW.cell (p := ⟨b, 1, none⟩) hb).trans c1
  clear hI1 ht1 c1
  have q61 : ∀ W : World, (convert 21 9 (.int .i32 61)).run Tryd.prog W = .ok (.string ⟨#[61]⟩) W := fun _ => by kernel_rfl
  have q91 : ∀ W : World, (convert 21 9 (.int .i32 91)).run Tryd.prog W = .ok (.string ⟨#[91]⟩) W := fun _ => by kernel_rfl
  have q93 : ∀ W : World, (convert 21 9 (.int .i32 93)).run Tryd.prog W = .ok (.string ⟨#[93]⟩) W := fun _ => by kernel_rfl
  have hBa := (Below.refl w.heap.size w).alloc (Nat.le_refl _) (.stringIter ⟨#[91, 35, 93, 61, 35]⟩ 0)
  have hit0 : (w.alloc (.stringIter ⟨#[91, 35, 93, 61, 35]⟩ 0)).heap[w.heap.size]? = some (.stringIter ⟨#[91, 35, 93, 61, 35]⟩ 0) := World.iter_heap w ⟨#[91, 35, 93, 61, 35]⟩ 0
  clear ht hb
  go_enter Tryd.func103, Tryd.ntmps103
  go_wp2_with fail
  go_loopw [5, 6] (fun tx fi wr => ∃ k : Nat, wr.heap[w.heap.size]? = some (.stringIter ⟨#[91, 35, 93, 61, 35]⟩ k) ∧ Below w.heap.size w wr ∧ ((k = 0 ∧ tx = str ([]) ∧ fi = .int .i64 0) ∨ (k = 1 ∧ tx = str ([91]) ∧ fi = .int .i64 0) ∨ (k = 2 ∧ tx = str ([91] ++ t0) ∧ fi = .int .i64 1) ∨ (k = 3 ∧ tx = str ([91] ++ t0 ++ [93]) ∧ fi = .int .i64 1) ∨ (k = 4 ∧ tx = str ([91] ++ t0 ++ [93] ++ [61]) ∧ fi = .int .i64 1) ∨ (k = 5 ∧ tx = str ([91] ++ t0 ++ [93] ++ [61] ++ t1) ∧ fi = .int .i64 2))) (fun _ _ wr => 5 - wr.iterPos w.heap.size)
  case atStart => exact ⟨0, hit0, hBa, .inl ⟨rfl, rfl, rfl⟩⟩
  case round =>
    obtain ⟨k, hit, hB, hk⟩ := hrel
    clear hit0 hBa
    have hlt : w.heap.size < wr.heap.size := (Array.getElem?_eq_some_iff.1 hit).1
    rcases hk with ⟨rfl, rfl, rfl⟩ | ⟨rfl, rfl, rfl⟩ | ⟨rfl, rfl, rfl⟩ | ⟨rfl, rfl, rfl⟩ | ⟨rfl, rfl, rfl⟩ | ⟨rfl, rfl, rfl⟩
    · have hd : Utf8.decode ⟨#[91, 35, 93, 61, 35]⟩ 0 = (91, 1) := by decide +kernel
      have hnx : ∀ ty, (Instr.next (.pointer (some ⟨w.heap.size, 0, none⟩)) true ty).run Tryd.prog wr = .ok (.tuple #[.bool true, .int .i64 0, .int .i32 91]) (wr.iterAt w.heap.size ⟨#[91, 35, 93, 61, 35]⟩ 1) := fun ty => by
        have := Lib.run_next_any_at (P := Tryd.prog) wr w.heap.size ⟨#[91, 35, 93, 61, 35]⟩ 0 ty hit (by decide)
        rw [hd] at this
        exact this
      have hit2 := Lib.iterAt_heap wr w.heap.size ⟨#[91, 35, 93, 61, 35]⟩ 0 1 hit
      have hB2 := Lib.below_iterAt hB (k := w.heap.size) (Nat.le_refl _) ⟨#[91, 35, 93, 61, 35]⟩ 1
      have hsz : (wr.iterAt w.heap.size ⟨#[91, 35, 93, 61, 35]⟩ 1).heap.size = wr.heap.size := Lib.iterAt_size _ _ _ _
      have hm : wr.iterPos w.heap.size = 0 := by simp only [World.iterPos, hit]
      have hlen : ¬ (9223372036854775807 < ([] : List UInt8).length + 1) := by simp; try omega
      have HB2 := Lib.hid hB2
      have HIT := Lib.hid hit2
      clear hB2 hit2 hd
      go_wp2_with fail
      refine ⟨⟨1, HIT.out, HB2.out, .inr (.inl ⟨rfl, ?_, ?_⟩)⟩, ?_⟩
      · first | exact congrArg Value.string (bytes_app _ [91]) | (refine (congrArg Value.string (bytes_app _ [91])).trans ?_; simp [str])
      · rfl
      · rw [hm]; simp only [World.iterPos, HIT.out]; omega
    · have hd : Utf8.decode ⟨#[91, 35, 93, 61, 35]⟩ 1 = (35, 1) := by decide +kernel
      have hnx : ∀ ty, (Instr.next (.pointer (some ⟨w.heap.size, 0, none⟩)) true ty).run Tryd.prog wr = .ok (.tuple #[.bool true, .int .i64 1, .int .i32 35]) (wr.iterAt w.heap.size ⟨#[91, 35, 93, 61, 35]⟩ 2) := fun ty => by
        have := Lib.run_next_any_at (P := Tryd.prog) wr w.heap.size ⟨#[91, 35, 93, 61, 35]⟩ 1 ty hit (by decide)
        rw [hd] at this
        exact this
      have hit2 := Lib.iterAt_heap wr w.heap.size ⟨#[91, 35, 93, 61, 35]⟩ 1 2 hit
      have hB2 := Lib.below_iterAt hB (k := w.heap.size) (Nat.le_refl _) ⟨#[91, 35, 93, 61, 35]⟩ 2
      have hsz : (wr.iterAt w.heap.size ⟨#[91, 35, 93, 61, 35]⟩ 2).heap.size = wr.heap.size := Lib.iterAt_size _ _ _ _
      have hm : wr.iterPos w.heap.size = 1 := by simp only [World.iterPos, hit]
      have hc := HC0.out _ hB2
      have hlen : ¬ (9223372036854775807 < ([91] : List UInt8).length + t0.length) := by simp; omega
      have HB2 := Lib.hid hB2
      have HIT := Lib.hid hit2
      clear hB2 hit2 hd
      go_wp2_with fail
      refine (HI0.out _ HB2.out).mono ?_
      rintro e w5 ⟨rfl, hb5⟩
      have hB5 := HB2.out.trans (hb5.mono (by rw [hsz]; omega))
      have hit5 : w5.heap[w.heap.size]? = some (.stringIter ⟨#[91, 35, 93, 61, 35]⟩ 2) := (hb5.block _ (by rw [hsz]; exact hlt)).trans HIT.out
      go_wp2_with fail
      refine ⟨⟨2, hit5, hB5, .inr (.inr (.inl ⟨rfl, ?_, ?_⟩))⟩, ?_⟩
      · first | exact congrArg Value.string (bytes_app _ _) | (refine (congrArg Value.string (bytes_app _ _)).trans ?_; simp [str])
      · rfl
      · rw [hm]; simp only [World.iterPos, hit5]; omega
    · have hd : Utf8.decode ⟨#[91, 35, 93, 61, 35]⟩ 2 = (93, 1) := by decide +kernel
      have hnx : ∀ ty, (Instr.next (.pointer (some ⟨w.heap.size, 0, none⟩)) true ty).run Tryd.prog wr = .ok (.tuple #[.bool true, .int .i64 2, .int .i32 93]) (wr.iterAt w.heap.size ⟨#[91, 35, 93, 61, 35]⟩ 3) := fun ty => by
        have := Lib.run_next_any_at (P := Tryd.prog) wr w.heap.size ⟨#[91, 35, 93, 61, 35]⟩ 2 ty hit (by decide)
        rw [hd] at this
        exact this
      have hit2 := Lib.iterAt_heap wr w.heap.size ⟨#[91, 35, 93, 61, 35]⟩ 2 3 hit
      have hB2 := Lib.below_iterAt hB (k := w.heap.size) (Nat.le_refl _) ⟨#[91, 35, 93, 61, 35]⟩ 3
      have hsz : (wr.iterAt w.heap.size ⟨#[91, 35, 93, 61, 35]⟩ 3).heap.size = wr.heap.size := Lib.iterAt_size _ _ _ _
      have hm : wr.iterPos w.heap.size = 2 := by simp only [World.iterPos, hit]
      have hlen : ¬ (9223372036854775807 < ([91] ++ t0 : List UInt8).length + 1) := by simp; try omega
      have HB2 := Lib.hid hB2
      have HIT := Lib.hid hit2
      clear hB2 hit2 hd
      go_wp2_with fail
      refine ⟨⟨3, HIT.out, HB2.out, .inr (.inr (.inr (.inl ⟨rfl, ?_, ?_⟩)))⟩, ?_⟩
      · first | exact congrArg Value.string (bytes_app _ [93]) | (refine (congrArg Value.string (bytes_app _ [93])).trans ?_; simp [str])
      · rfl
      · rw [hm]; simp only [World.iterPos, HIT.out]; omega
    · have hd : Utf8.decode ⟨#[91, 35, 93, 61, 35]⟩ 3 = (61, 1) := by decide +kernel
      have hnx : ∀ ty, (Instr.next (.pointer (some ⟨w.heap.size, 0, none⟩)) true ty).run Tryd.prog wr = .ok (.tuple #[.bool true, .int .i64 3, .int .i32 61]) (wr.iterAt w.heap.size ⟨#[91, 35, 93, 61, 35]⟩ 4) := fun ty => by
        have := Lib.run_next_any_at (P := Tryd.prog) wr w.heap.size ⟨#[91, 35, 93, 61, 35]⟩ 3 ty hit (by decide)
        rw [hd] at this
        exact this
      have hit2 := Lib.iterAt_heap wr w.heap.size ⟨#[91, 35, 93, 61, 35]⟩ 3 4 hit
      have hB2 := Lib.below_iterAt hB (k := w.heap.size) (Nat.le_refl _) ⟨#[91, 35, 93, 61, 35]⟩ 4
      have hsz : (wr.iterAt w.heap.size ⟨#[91, 35, 93, 61, 35]⟩ 4).heap.size = wr.heap.size := Lib.iterAt_size _ _ _ _
      have hm : wr.iterPos w.heap.size = 3 := by simp only [World.iterPos, hit]
      have hlen : ¬ (9223372036854775807 < ([91] ++ t0 ++ [93] : List UInt8).length + 1) := by simp; try omega
      have HB2 := Lib.hid hB2
      have HIT := Lib.hid hit2
      clear hB2 hit2 hd
      go_wp2_with fail
      refine ⟨⟨4, HIT.out, HB2.out, .inr (.inr (.inr (.inr (.inl ⟨rfl, ?_, ?_⟩))))⟩, ?_⟩
      · first | exact congrArg Value.string (bytes_app _ [61]) | (refine (congrArg Value.string (bytes_app _ [61])).trans ?_; simp [str])
      · rfl
      · rw [hm]; simp only [World.iterPos, HIT.out]; omega
    · have hd : Utf8.decode ⟨#[91, 35, 93, 61, 35]⟩ 4 = (35, 1) := by decide +kernel
      have hnx : ∀ ty, (Instr.next (.pointer (some ⟨w.heap.size, 0, none⟩)) true ty).run Tryd.prog wr = .ok (.tuple #[.bool true, .int .i64 4, .int .i32 35]) (wr.iterAt w.heap.size ⟨#[91, 35, 93, 61, 35]⟩ 5) := fun ty => by
        have := Lib.run_next_any_at (P := Tryd.prog) wr w.heap.size ⟨#[91, 35, 93, 61, 35]⟩ 4 ty hit (by decide)
        rw [hd] at this
        exact this
      have hit2 := Lib.iterAt_heap wr w.heap.size ⟨#[91, 35, 93, 61, 35]⟩ 4 5 hit
      have hB2 := Lib.below_iterAt hB (k := w.heap.size) (Nat.le_refl _) ⟨#[91, 35, 93, 61, 35]⟩ 5
      have hsz : (wr.iterAt w.heap.size ⟨#[91, 35, 93, 61, 35]⟩ 5).heap.size = wr.heap.size := Lib.iterAt_size _ _ _ _
      have hm : wr.iterPos w.heap.size = 4 := by simp only [World.iterPos, hit]
      have hc := HC1.out _ hB2
      have hlen : ¬ (9223372036854775807 < ([91] ++ t0 ++ [93] ++ [61] : List UInt8).length + t1.length) := by simp; omega
      have HB2 := Lib.hid hB2
      have HIT := Lib.hid hit2
      clear hB2 hit2 hd
      go_wp2_with fail
      refine (HI1.out _ HB2.out).mono ?_
      rintro e w5 ⟨rfl, hb5⟩
      have hB5 := HB2.out.trans (hb5.mono (by rw [hsz]; omega))
      have hit5 : w5.heap[w.heap.size]? = some (.stringIter ⟨#[91, 35, 93, 61, 35]⟩ 5) := (hb5.block _ (by rw [hsz]; exact hlt)).trans HIT.out
      go_wp2_with fail
      refine ⟨⟨5, hit5, hB5, .inr (.inr (.inr (.inr (.inr (⟨rfl, ?_, ?_⟩)))))⟩, ?_⟩
      · first | exact congrArg Value.string (bytes_app _ _) | (refine (congrArg Value.string (bytes_app _ _)).trans ?_; simp [str])
      · rfl
      · rw [hm]; simp only [World.iterPos, hit5]; omega
    · have hnx : ∀ ty, (Instr.next (.pointer (some ⟨w.heap.size, 0, none⟩)) true ty).run Tryd.prog wr = .ok (.tuple #[.bool false]) wr := fun ty => Lib.run_next_end_at wr w.heap.size _ 5 ty hit (by decide)
      go_wp2_with fail
      go_ret
      exact ⟨rfl, hB⟩
def atomTB (a : Ins) : Bool := knownB a && !strayB a && valB a.r && valB a.s && valB a.n
def atomTF (a : Ins) : List UInt8 := if atomTB a then (if a.o = 0 then Lib.itoa a.r ++ [58] ++ Lib.itoa a.s ++ [61] ++ Lib.itoa a.n else [91] ++ Lib.itoa a.s ++ [93] ++ [61] ++ Lib.itoa a.n) else []
theorem atomTF_len {a : Ins} (h : InsR a) : (atomTF a).length ≤ 62 := by
  unfold InsR Rng at h
  have h1 := digs_len (x := a.r) (by omega)
  have h2 := digs_len (x := a.s) (by omega)
  have h3 := digs_len (x := a.n) (by omega)
  unfold atomTF
  split
  · split
    · simp only [List.length_append, List.length_cons, List.length_nil]
      omega
    · simp only [List.length_append, List.length_cons, List.length_nil]
      omega
  · simp
theorem atomTF_ne {a : Ins} (h : atomTB a = true) : ∃ c L, atomTF a = c :: L := by
  unfold atomTF
  rw [if_pos h]
  split
  · cases hx : Lib.itoa a.r ++ [58] ++ Lib.itoa a.s ++ [61] ++ Lib.itoa a.n with
    | nil => simp at hx
    | cons c L => exact ⟨c, L, rfl⟩
  · exact ⟨91, _, rfl⟩
set_option maxHeartbeats 3200000 in
theorem impl_atomText (a : Ins) (w : World) (hR : InsR a) (ht : Tab w) :
    Calls Tryd.prog 73 #[(Value.agg #[.int .i64 a.o, .int .i64 a.r, .int .i64 a.s, .int .i64 a.n])] w fun e w' => e = .returned (str (atomTF a)) ∧ Below w.heap.size w w' := by
  have tRR : ∀ (v : Value) (W : World), (Instr.typeAssert (.iface 146 v) 142 146 true).run Tryd.prog W = .ok (.tuple #[v, .bool true]) W := fun _ _ => by kernel_rfl
  have tCR : ∀ (v : Value) (W : World), (Instr.typeAssert (.iface 149 v) 142 146 true).run Tryd.prog W = .ok (.tuple #[.agg #[.int .i64 0, .int .i64 0], .bool false]) W := fun _ _ => by kernel_rfl
  have tCC : ∀ (v : Value) (W : World), (Instr.typeAssert (.iface 149 v) 142 149 true).run Tryd.prog W = .ok (.tuple #[v, .bool true]) W := fun _ _ => by kernel_rfl
  have tNR : ∀ (W : World), (Instr.typeAssert .nilIface 142 146 true).run Tryd.prog W = .ok (.tuple #[.agg #[.int .i64 0, .int .i64 0], .bool false]) W := fun _ => by kernel_rfl
  have tNC : ∀ (W : World), (Instr.typeAssert .nilIface 142 149 true).run Tryd.prog W = .ok (.tuple #[.agg #[.int .i64 0], .bool false]) W := fun _ => by kernel_rfl
  obtain ⟨o, r, s, n⟩ := a
  unfold InsR Rng at hR
  simp only at hR
  have k0 := Bk.new w #[.int .i64 o, .int .i64 r, .int .i64 s, .int .i64 n] 100
  have hB0 := (Below.refl w.heap.size w).alloc (Nat.le_refl _) (.cells #[.int .i64 o, .int .i64 r, .int .i64 s, .int .i64 n] 100)
  have HP := Lib.hid (fun W : World => impl_placeOf ⟨o, r, s, n⟩ W)
  have hS := fun W : World => impl_stray ⟨o, r, s, n⟩ W
  have HB0 := Lib.hid hB0
  have HT := Lib.hid ht
  have hF : atomTB ⟨o, r, s, n⟩ = (knownB ⟨o, r, s, n⟩ && !strayB ⟨o, r, s, n⟩ && valB r && valB s && valB n) := rfl
  obtain ⟨c0, -⟩ := k0.at_ 0 (x := .int .i64 o) rfl
  obtain ⟨c1, -⟩ := k0.at_ 1 (x := .int .i64 r) rfl
  obtain ⟨c2, -⟩ := k0.at_ 2 (x := .int .i64 s) rfl
  obtain ⟨c3, -⟩ := k0.at_ 3 (x := .int .i64 n) rfl
  clear ht hB0
  cases hst : strayB ⟨o, r, s, n⟩
  case true =>
    have HF : Hid (atomTF ⟨o, r, s, n⟩ = []) := Lib.hid (by unfold atomTF; rw [hF, hst]; simp)
    rw [hst] at hS
    have HS := Lib.hid hS
    clear hS hst hF
    go_enter Tryd.func73, Tryd.ntmps73
    go_wp2_with fail
    refine (HS.out _).mono ?_
    rintro e w1 ⟨rfl, hb1⟩
    go_wp2_with fail
    go_ret
    exact ⟨by rw [HF.out]; rfl, HB0.out.trans (hb1.mono HB0.out.size)⟩
  case false =>
    rw [hst] at hS
    have HS := Lib.hid hS
    have HST := Lib.hid hst
    clear hS hst
    go_enter Tryd.func73, Tryd.ntmps73
    go_wp2_with fail
    refine (HS.out _).mono ?_
    rintro e w1 ⟨rfl, hb1⟩
    have k1 := k0.below hb1 k0.lt
    have HB1 := Lib.hid (HB0.out.trans (hb1.mono HB0.out.size))
    clear c0 c1 c2 c3 hb1
    obtain ⟨c0, -⟩ := k1.at_ 0 (x := .int .i64 o) rfl
    obtain ⟨c1, -⟩ := k1.at_ 1 (x := .int .i64 r) rfl
    obtain ⟨c2, -⟩ := k1.at_ 2 (x := .int .i64 s) rfl
    obtain ⟨c3, -⟩ := k1.at_ 3 (x := .int .i64 n) rfl
    cases hv1 : valB r
    · have HV1 : Hid (∀ W : World, Calls Tryd.prog 89 #[.int .i64 r] W fun e w' => e = .returned (.bool false) ∧ W = w') := Lib.hid fun W => by have hq := impl_valueOk r W; rw [hv1] at hq; exact hq
      have HF : Hid (atomTF ⟨o, r, s, n⟩ = []) := Lib.hid (by unfold atomTF; rw [hF, hv1]; simp)
      clear hv1 hF
      go_wp2_with (go_at_call 89; refine (HV1.out _).mono ?_; rintro e w' ⟨rfl, rfl⟩)
      go_ret
      exact ⟨by rw [HF.out]; rfl, HB1.out⟩
    · have HV1 : Hid (∀ W : World, Calls Tryd.prog 89 #[.int .i64 r] W fun e w' => e = .returned (.bool true) ∧ W = w') := Lib.hid fun W => by have hq := impl_valueOk r W; rw [hv1] at hq; exact hq
      cases hv2 : valB s
      · have HV2 : Hid (∀ W : World, Calls Tryd.prog 89 #[.int .i64 s] W fun e w' => e = .returned (.bool false) ∧ W = w') := Lib.hid fun W => by have hq := impl_valueOk s W; rw [hv2] at hq; exact hq
        have HF : Hid (atomTF ⟨o, r, s, n⟩ = []) := Lib.hid (by unfold atomTF; rw [hF, hv2]; simp)
        clear hv1 hv2 hF
        go_wp2_with (first | (go_at_call_of 89 (Value.int .i64 r : Value); refine (HV1.out _).mono ?_; rintro e w' ⟨rfl, rfl⟩) | (go_at_call_of 89 (Value.int .i64 s : Value); refine (HV2.out _).mono ?_; rintro e w' ⟨rfl, rfl⟩))
        go_ret
        exact ⟨by rw [HF.out]; rfl, HB1.out⟩
      · have HV2 : Hid (∀ W : World, Calls Tryd.prog 89 #[.int .i64 s] W fun e w' => e = .returned (.bool true) ∧ W = w') := Lib.hid fun W => by have hq := impl_valueOk s W; rw [hv2] at hq; exact hq
        cases hv3 : valB n
        · have HV3 : Hid (∀ W : World, Calls Tryd.prog 89 #[.int .i64 n] W fun e w' => e = .returned (.bool false) ∧ W = w') := Lib.hid fun W => by have hq := impl_valueOk n W; rw [hv3] at hq; exact hq
          have HF : Hid (atomTF ⟨o, r, s, n⟩ = []) := Lib.hid (by unfold atomTF; rw [hF, hv3]; simp)
          clear hv1 hv2 hv3 hF
          go_wp2_with (first | (go_at_call_of 89 (Value.int .i64 r : Value); refine (HV1.out _).mono ?_; rintro e w' ⟨rfl, rfl⟩) | (go_at_call_of 89 (Value.int .i64 s : Value); refine (HV2.out _).mono ?_; rintro e w' ⟨rfl, rfl⟩) | (go_at_call_of 89 (Value.int .i64 n : Value); refine (HV3.out _).mono ?_; rintro e w' ⟨rfl, rfl⟩))
          go_ret
          exact ⟨by rw [HF.out]; rfl, HB1.out⟩
        · have HV3 : Hid (∀ W : World, Calls Tryd.prog 89 #[.int .i64 n] W fun e w' => e = .returned (.bool true) ∧ W = w') := Lib.hid fun W => by have hq := impl_valueOk n W; rw [hv3] at hq; exact hq
          have hF2 : atomTB ⟨o, r, s, n⟩ = knownB ⟨o, r, s, n⟩ := by rw [hF, HST.out, hv1, hv2, hv3]; simp
          clear hv1 hv2 hv3 hF
          by_cases h0 : o = 0
          · have HF : Hid (atomTF ⟨o, r, s, n⟩ = Lib.itoa r ++ [58] ++ Lib.itoa s ++ [61] ++ Lib.itoa n) := Lib.hid (by unfold atomTF; rw [hF2, if_pos (by simp [knownB, h0]), if_pos h0])
            have HPV : Hid (placeV ⟨o, r, s, n⟩ = .iface 146 (.agg #[.int .i64 r, .int .i64 s])) := Lib.hid (by simp [placeV, h0])
            clear h0 hF2
            go_wp2_with (first | (go_at_call_of 89 (Value.int .i64 r : Value); refine (HV1.out _).mono ?_; rintro e w' ⟨rfl, rfl⟩) | (go_at_call_of 89 (Value.int .i64 s : Value); refine (HV2.out _).mono ?_; rintro e w' ⟨rfl, rfl⟩) | (go_at_call_of 89 (Value.int .i64 n : Value); refine (HV3.out _).mono ?_; rintro e w' ⟨rfl, rfl⟩))
            refine (HP.out _).mono ?_
            rintro e w2 ⟨rfl, hb2⟩
            rw [HPV.out]
            have k2 := (k1.below hb2 k1.lt).alloc (.cells #[.int .i64 r, .int .i64 s] 146)
            have kr := Bk.new w2 #[.int .i64 r, .int .i64 s] 146
            have kq := Bk.new (w2.alloc (.cells #[.int .i64 r, .int .i64 s] 146)) #[.int .i64 r, .int .i64 s, .int .i64 n] 3
            have hB2 := ((HB1.out.trans (hb2.mono HB1.out.size)).alloc (HB1.out.trans (hb2.mono HB1.out.size)).size (.cells #[.int .i64 r, .int .i64 s] 146))
            have hB3 := hB2.alloc hB2.size (.cells #[.int .i64 r, .int .i64 s, .int .i64 n] 3)
            clear c0 c1 c2 c3
            obtain ⟨c3, -⟩ := k2.at_ 3 (x := .int .i64 n) rfl
            obtain ⟨d0, -⟩ := kr.at_ 0 (x := .int .i64 r) rfl
            obtain ⟨d1, -⟩ := kr.at_ 1 (x := .int .i64 s) rfl
            have HFL := Lib.hid (fill_reg _ r s n _ kq.lt (kq.at_ 0 rfl).1 (kq.at_ 1 rfl).1 (kq.at_ 2 rfl).1 (by omega) (by omega) (by omega) (HT.out.below hB3 (Nat.le_refl _)))
            have HB3 := Lib.hid hB3
            clear k2 kr kq hB2 hB3 hb2
            go_wp2_with fail
            simp only [World.size_alloc] at HFL
            refine HFL.out.mono ?_
            rintro e w5 ⟨rfl, hb5⟩
            go_wp2_with fail
            go_ret
            exact ⟨(show Ending.returned (str (Lib.itoa r ++ 58 :: (Lib.itoa s ++ 61 :: Lib.itoa n))) = _ from by rw [HF.out]; simp), HB3.out.trans (hb5.mono (by have := HB3.out.size; simpa using this))⟩
          · by_cases h1 : o = 1
            · have HF : Hid (atomTF ⟨o, r, s, n⟩ = [91] ++ Lib.itoa s ++ [93] ++ [61] ++ Lib.itoa n) := Lib.hid (by unfold atomTF; rw [hF2, if_pos (by simp [knownB, h1]), if_neg h0])
              have HPV : Hid (placeV ⟨o, r, s, n⟩ = .iface 149 (.agg #[.int .i64 s])) := Lib.hid (by simp [placeV, h1])
              clear h0 h1 hF2
              go_wp2_with (first | (go_at_call_of 89 (Value.int .i64 r : Value); refine (HV1.out _).mono ?_; rintro e w' ⟨rfl, rfl⟩) | (go_at_call_of 89 (Value.int .i64 s : Value); refine (HV2.out _).mono ?_; rintro e w' ⟨rfl, rfl⟩) | (go_at_call_of 89 (Value.int .i64 n : Value); refine (HV3.out _).mono ?_; rintro e w' ⟨rfl, rfl⟩))
              refine (HP.out _).mono ?_
              rintro e w2 ⟨rfl, hb2⟩
              rw [HPV.out]
              have k2 := (k1.below hb2 k1.lt).alloc (.cells #[.int .i64 s] 149)
              have kr := Bk.new w2 #[.int .i64 s] 149
              have kq := Bk.new (w2.alloc (.cells #[.int .i64 s] 149)) #[.int .i64 s, .int .i64 n] 3
              have hB2 := ((HB1.out.trans (hb2.mono HB1.out.size)).alloc (HB1.out.trans (hb2.mono HB1.out.size)).size (.cells #[.int .i64 s] 149))
              have hB3 := hB2.alloc hB2.size (.cells #[.int .i64 s, .int .i64 n] 3)
              clear c0 c1 c2 c3
              obtain ⟨c3, -⟩ := k2.at_ 3 (x := .int .i64 n) rfl
              obtain ⟨d0, -⟩ := kr.at_ 0 (x := .int .i64 s) rfl
              have HFL := Lib.hid (fill_cell _ s n _ kq.lt (kq.at_ 0 rfl).1 (kq.at_ 1 rfl).1 (by omega) (by omega) (HT.out.below hB3 (Nat.le_refl _)))
              have HB3 := Lib.hid hB3
              clear k2 kr kq hB2 hB3 hb2
              go_wp2_with fail
              simp only [World.size_alloc] at HFL
              refine HFL.out.mono ?_
              rintro e w5 ⟨rfl, hb5⟩
              go_wp2_with fail
              go_ret
              exact ⟨(show Ending.returned (str (91 :: (Lib.itoa s ++ 93 :: 61 :: Lib.itoa n))) = _ from by rw [HF.out]; simp), HB3.out.trans (hb5.mono (by have := HB3.out.size; simpa using this))⟩
            · have HF : Hid (atomTF ⟨o, r, s, n⟩ = []) := Lib.hid (by unfold atomTF; rw [hF2]; simp [knownB, h0, h1])
              have HPV : Hid (placeV ⟨o, r, s, n⟩ = .nilIface) := Lib.hid (by simp [placeV, h0, h1])
              clear h0 h1 hF2
              go_wp2_with (first | (go_at_call_of 89 (Value.int .i64 r : Value); refine (HV1.out _).mono ?_; rintro e w' ⟨rfl, rfl⟩) | (go_at_call_of 89 (Value.int .i64 s : Value); refine (HV2.out _).mono ?_; rintro e w' ⟨rfl, rfl⟩) | (go_at_call_of 89 (Value.int .i64 n : Value); refine (HV3.out _).mono ?_; rintro e w' ⟨rfl, rfl⟩))
              refine (HP.out _).mono ?_
              rintro e w2 ⟨rfl, hb2⟩
              rw [HPV.out]
              go_wp2_with fail
              go_ret
              exact ⟨by rw [HF.out]; rfl, HB1.out.trans (hb2.mono HB1.out.size)⟩
end Go.Proofs.YtiflooopfpcelacDoor

/- The text of a query: the model's and the program's. Condition: the atoms can be read, their fields are integers of 64 bits; the library's table of powers of ten stands as written. -/
namespace Go.Proofs.YtiflooopfpcelacDoor
set_option maxRecDepth 20000
set_option linter.unusedSimpArgs false
set_option linter.unusedVariables false
open Go.ChangeShapes Go.WideShapes Go.ChangeAt Go.RowKit
set_option linter.unusedVariables false
def atext (xs : List Ins) : List UInt8 := Lib.join (xs.map atomTF) [32, 38, 32]
def askTF (xs : List Ins) : Option (List UInt8) := if xs.length ≤ 8 ∧ xs.all atomTB = true then some (atext xs) else none
theorem atomTF_no {a : Ins} (h : atomTB a = false) : atomTF a = [] := by unfold atomTF; rw [h]; rfl
theorem atext_take {xs : List Ins} {k : Nat} {x : Ins} (h : xs[k]? = some x) : atext (xs.take (k + 1)) = if k = 0 then atomTF x else atext (xs.take k) ++ [32, 38, 32] ++ atomTF x := by
  unfold atext
  rw [List.take_add_one, h]
  split
  · rename_i h0
    subst h0
    simp [Lib.join_one]
  · rename_i h0
    have hk : k < xs.length := (List.getElem?_eq_some_iff.1 h).1
    simp only [Option.toList_some, List.map_append, List.map_cons, List.map_nil]
    rw [join_snoc _ _ _ (fun e => by have := congrArg List.length e; rw [List.length_map, List.length_take, List.length_nil] at this; omega)]
theorem atext_len : ∀ (k : Nat) (xs : List Ins), (∀ x ∈ xs, InsR x) → (atext (xs.take k)).length ≤ 70 * k
  | 0, xs, _ => by simp [atext, Lib.join_nil]
  | k + 1, xs, hr => by
    cases hx : xs[k]? with
    | none =>
      have hk := List.getElem?_eq_none_iff.1 hx
      have := atext_len k xs hr
      rw [List.take_of_length_le (by omega)] at this ⊢
      omega
    | some x =>
      have h1 := atomTF_len (hr x (List.mem_of_getElem? hx))
      have := atext_len k xs hr
      rw [atext_take hx]
      split
      · omega
      · simp only [List.length_append, List.length_cons, List.length_nil]
        omega
theorem joinA_call (g base : Nat) (ts : List (List UInt8)) (w : World) (hO : w.ownsRow base 9 1 (.slice (some ⟨g, 0, none⟩) ts.length ts.length) ts.length (tpS ts ts.length)) (hl : ts.length ≤ 8777216) (hj : (Lib.join ts [32, 38, 32]).length ≤ 140737488355328) :
    Calls Tryd.prog 54 #[.slice (some ⟨g, 0, none⟩) ts.length ts.length, .string ⟨#[32, 38, 32]⟩] w fun e w' => e = .returned (str (Lib.join ts [32, 38, 32])) ∧ Below w.heap.size w w' := by
  have he : Lib.join ((ts.map fun t => (⟨t.toArray⟩ : ByteArray)).map (·.data.toList)) (⟨#[32, 38, 32]⟩ : ByteArray).data.toList = Lib.join ts [32, 38, 32] := by
    simp [List.map_map, Function.comp_def]
  have hj := Tryd.strings_Join g 0 ts.length (ts.map fun t => (⟨t.toArray⟩ : ByteArray)) ⟨#[32, 38, 32]⟩ w (fun j y hy => by
    rw [Nat.zero_add]
    have hjl : j < ts.length := by have := (List.getElem?_eq_some_iff.1 hy).1; simpa using this
    rw [hO.cellAt j (by omega), tpS_all]
    rw [List.getElem?_map] at hy ⊢
    cases hx : ts[j]? with
    | none => rw [hx] at hy; cases hy
    | some x =>
      rw [hx] at hy
      injection hy with hy
      subst hy
      rfl) (hO.lt g rfl).2 (by rw [List.length_map]; omega) (by rw [List.length_map]; omega) (by rw [he]; exact hj)
  rw [he, List.length_map] at hj
  exact hj
set_option maxHeartbeats 1600000 in
theorem joinAtom (v : Value) (xs : List Ins) (w : World) (h : Rd w v 4 xs.length (flc xs)) (hR : ∀ x ∈ xs, InsR x) (hE : Tab w) :
    Calls Tryd.prog 72 #[v, .int .i64 8, .string ⟨#[32, 38, 32]⟩, .func (.func 73) #[] #[]] w (RetStrB ((askTF xs).getD []) (askTF xs).isSome w) := by
  obtain ⟨A, c, rfl, -, hnc, hc, hr⟩ := h
  unfold maxLen at hc
  have HRr := Lib.hid hR
  have HE := Lib.hid hE
  clear hR hE
  by_cases hlen : xs.length ≤ 8
  · obtain ⟨i, hi, hz0, hz1, hz2⟩ := info_parts infoStr
    obtain ⟨ts, hts⟩ : ∃ ts, xs.map atomTF = ts := ⟨_, rfl⟩
    have htl : ts.length = xs.length := by rw [← hts]; simp
    have HTS := Lib.hid hts
    have HTL := Lib.hid htl
    clear hts
    go_enter Tryd.func72, Tryd.ntmps72
    go_wp2_with (at_make; refine wpList_make_full _ rfl _ _ 73 rfl w.heap.size 9 i (.string ⟨#[]⟩) 1 Tryd.underlying73 hi hz0 hz1 _ _ _ _ xs.length rfl rfl rfl rfl (by rw [hz2]; omega) (by unfold maxLen; omega) (Nat.le_refl _) ?_)
    intro w2 hown hg2
    have hO0 : w2.ownsRow w.heap.size 9 1 (.slice (some ⟨w.heap.size, 0, none⟩) xs.length xs.length) xs.length (tpS ts 0) := by
      rw [← tpS_zero, HTL.out]
      simpa [toList_madeCells_one, Value.cells] using hown
    have hB2 : Below w.heap.size w w2 := (Below.refl _ _).grown hg2 (Nat.le_refl _) (by simp)
    clear hown hg2 htl
    go_wp2_with fail
    go_loopw [22] (fun i wr => ∃ k : Nat, k ≤ xs.length ∧ i = .int .i64 k ∧ wr.ownsRow w.heap.size 9 1 (.slice (some ⟨w.heap.size, 0, none⟩) xs.length xs.length) xs.length (tpS ts k) ∧ Hid ((xs.take k).all atomTB = true) ∧ Below w.heap.size w wr) (fun i _ => xs.length - (intOf i).toNat)
    case atStart => exact ⟨0, Nat.zero_le _, rfl, hO0, Lib.hid (by simp), hB2⟩
    case round =>
      obtain ⟨k, hk, rfl, hO, HA, hB⟩ := hrel
      clear hO0 hB2
      by_cases hlt : k < xs.length
      · obtain ⟨b, o, rfl, hb, hcell⟩ := hr (by omega)
        obtain ⟨x, hxk, hx0, hx1, hx2, hx3⟩ := ins_at (fun j u hu => (hB.cell (p := ⟨b, o + j, none⟩) hb).trans (hcell j u hu)) hlt
        have hRx := HRr.out x (List.mem_of_getElem? hxk.out)
        have htk : ts[k]? = some (atomTF x) := by rw [← HTS.out, List.getElem?_map, hxk.out]; rfl
        have hC := fun (W : World) (hE : Tab W) => impl_atomText x W hRx hE
        have k1 := Bk.new wr #[.int .i64 x.o, .int .i64 x.r, .int .i64 x.s, .int .i64 x.n] 100
        have hBa := hB.alloc hB.size (.cells #[.int .i64 x.o, .int .i64 x.r, .int .i64 x.s, .int .i64 x.n] 100)
        have hOa := hO.alloc (.cells #[.int .i64 x.o, .int .i64 x.r, .int .i64 x.s, .int .i64 x.n] 100)
        have HEa := Lib.hid (HE.out.below hBa (Nat.le_refl _))
        have HC := Lib.hid hC
        have HX := Lib.hid hxk.out
        have HTK := Lib.hid htk
        clear hcell hr hC hRx htk
        go_wp2_with fail
        refine (HC.out _ HEa.out).mono ?_
        rintro e w1 ⟨rfl, hb1⟩
        have hO1 := ownsRow_below hOa hb1
        have hB1 := hBa.trans (hb1.mono hBa.size)
        have hck : w1.cell? ⟨w.heap.size, k, none⟩ = some (.string ⟨#[]⟩) := (hO1.cellAt k (by omega)).trans (tpS_at (by rw [HTL.out]; exact hlt))
        have hfz := hO1.frozenAt k
        have hst := hO1.stored k (str (atomTF x))
        have hO2 := hst.1
        rw [tpS_set HTK.out] at hO2
        have hB3 := hB1.setCell (p := ⟨w.heap.size, k, none⟩) (Nat.le_refl _) (str (atomTF x))
        have hOf : (w1.setCell ⟨w.heap.size, k, none⟩ (str (atomTF x))).cell? ⟨w.heap.size, k, none⟩ = some (str (atomTF x)) := (hO2.cellAt k (by omega)).trans (tpS_get HTK.out)
        clear hst hx0 hx1 hx2 hx3 k1 hOa hO1 hb1 hO
        cases hin : atomTB x
        · have HF : Hid (askTF xs = none) := Lib.hid (by
            have := allN_false (p := atomTB) HX.out hin
            simp [askTF, this])
          rw [show atomTF x = [] from atomTF_no hin] at hO2 hB3 hOf ⊢
          clear hin
          go_wp2_with fail
          exact bodyPost_ret (v := .tuple #[.string ⟨#[]⟩, .bool false]) (by simp [results, Tryd.results72, go_sem]) rfl ⟨by rw [HF.out]; rfl, hB3⟩
        · obtain ⟨ch, L2, hne⟩ := atomTF_ne hin
          have HA' := Lib.hid (allN_snoc HA.out HX.out hin)
          rw [hne] at hO2 hB3 hOf ⊢
          clear hin hne
          go_wp2_with fail
          exact ⟨⟨k + 1, by omega, by go_num, hO2, HA', hB3⟩, by simp [intOf]; omega⟩
      · obtain rfl : k = xs.length := by omega
        have hA := HA.out
        rw [List.take_length] at hA
        have HF : Hid (askTF xs = some (Lib.join ts [32, 38, 32])) := Lib.hid (by
          unfold askTF atext
          rw [if_pos ⟨hlen, hA⟩, HTS.out])
        have hJ := joinA_call w.heap.size w.heap.size ts wr (by rw [HTL.out]; exact hO) (by rw [HTL.out]; omega) (by
          have := atext_len xs.length xs HRr.out
          rw [List.take_length] at this
          unfold atext at this
          rw [HTS.out] at this
          omega)
        rw [HTL.out] at hJ
        have HJ := Lib.hid hJ
        clear hA hr hJ
        go_wp2_with fail
        refine HJ.out.mono ?_
        rintro e w1 ⟨rfl, hb1⟩
        go_wp2_with fail
        exact bodyPost_ret (v := .tuple #[str (Lib.join ts [32, 38, 32]), .bool true]) (by simp [results, Tryd.results72, go_sem]) rfl ⟨by rw [HF.out]; rfl, hB.trans (hb1.mono hB.size)⟩
  · have HF : Hid (askTF xs = none) := Lib.hid (by simp [askTF, hlen])
    clear hr
    go_enter Tryd.func72, Tryd.ntmps72
    go_wp2_with fail
    exact bodyPost_ret (v := .tuple #[.string ⟨#[]⟩, .bool false]) (by simp [results, Tryd.results72, go_sem]) rfl ⟨by rw [HF.out]; rfl, Below.refl _ _⟩
set_option maxHeartbeats 800000 in
theorem impl_AskText (v : Value) (xs : List Ins) (w : World) (h : Rd w v 4 xs.length (flc xs)) (hR : ∀ x ∈ xs, InsR x) (hE : Tab w) :
    Calls Tryd.prog 34 #[v] w (RetStrB ((askTF xs).getD []) (askTF xs).isSome w) := by
  have HC := Lib.hid (joinAtom v xs w h hR hE)
  obtain ⟨A, c, rfl, -⟩ := id h
  clear h hR hE
  go_enter Tryd.func34, Tryd.ntmps34
  go_wp2_with fail
  refine HC.out.mono ?_
  rintro e w1 ⟨rfl, hb1⟩
  go_wp2_with fail
  go_ret2
  exact ⟨rfl, hb1⟩
set_option maxHeartbeats 6400000 in
theorem spec_AskText (v : Value) (xs : List Ins) (w : World) (h : Rd w v 4 xs.length (flc xs)) (hR : ∀ x ∈ xs, InsR x) :
    Calls Tryd.prog 32 #[v] w (RetStrB ((askTF xs).getD []) (askTF xs).isSome w) := by
  obtain ⟨A, c, rfl, -, hnc, hc, hr⟩ := h
  unfold maxLen at hc
  have HRr := Lib.hid hR
  have HRD := Lib.hid hr
  clear hR hr
  by_cases hlen : (8 : Int) < xs.length
  · have HF : Hid (askTF xs = none) := Lib.hid (by simp [askTF]; omega)
    go_enter Tryd.func32, Tryd.ntmps32
    go_wp2_with fail
    exact bodyPost_ret (v := .tuple #[.string ⟨#[]⟩, .bool false]) (by simp [results, Tryd.results32, go_sem]) rfl ⟨by rw [HF.out]; rfl, Below.refl _ _⟩
  · go_enter Tryd.func32, Tryd.ntmps32
    go_wp2_with fail
    go_loopw [4, 5] (fun t i wr => ∃ (k : Nat) (L : List UInt8), k ≤ xs.length ∧ i = .int .i64 k ∧ t = str L ∧ Hid (L = atext (xs.take k)) ∧ Hid ((xs.take k).all atomTB = true) ∧ Below w.heap.size w wr) (fun _ i _ => xs.length - (intOf i).toNat)
    case atStart => exact ⟨0, [], Nat.zero_le _, rfl, rfl, Lib.hid (by simp [atext, Lib.join_nil]), Lib.hid (by simp), Below.refl _ _⟩
    case round =>
      obtain ⟨k, L, hk, rfl, rfl, HL, HA, hB⟩ := hrel
      by_cases hlt : k < xs.length
      · obtain ⟨b, p, rfl, hb, hcell⟩ := HRD.out (by omega)
        obtain ⟨x, hxk, hx0, hx1, hx2, hx3⟩ := ins_at (fun j u hu => (hB.cell (p := ⟨b, p + j, none⟩) hb).trans (hcell j u hu)) hlt
        have hRx := HRr.out x (List.mem_of_getElem? hxk.out)
        have hLl : L.length ≤ 600 := by
          have := atext_len k xs HRr.out
          rw [HL.out]
          omega
        obtain ⟨o, r, s, n⟩ := x
        unfold InsR Rng at hRx
        simp only at hx0 hx1 hx2 hx3 hRx
        have HBa := Lib.hid (hB.alloc hB.size (.cells #[.int .i64 o, .int .i64 r, .int .i64 s, .int .i64 n] 100))
        have ka := Bk.new wr #[.int .i64 o, .int .i64 r, .int .i64 s, .int .i64 n] 100
        have HX := Lib.hid hxk.out
        have hF : atomTB ⟨o, r, s, n⟩ = (knownB ⟨o, r, s, n⟩ && !strayB ⟨o, r, s, n⟩ && valB r && valB s && valB n) := rfl
        obtain ⟨c0, -⟩ := ka.at_ 0 (x := .int .i64 o) rfl
        obtain ⟨c1, -⟩ := ka.at_ 1 (x := .int .i64 r) rfl
        obtain ⟨c2, -⟩ := ka.at_ 2 (x := .int .i64 s) rfl
        obtain ⟨c3, -⟩ := ka.at_ 3 (x := .int .i64 n) rfl
        have lka := ka.lt
        clear hcell hxk hB
        have hkk : inB o 0 1 = knownB ⟨o, r, s, n⟩ := by
          rw [Bool.eq_iff_iff]
          simp [inB, knownB]
          omega
        have hK := fun W : World => l01In o 0 1 W
        rw [hkk] at hK
        by_cases hok : atomTB ⟨o, r, s, n⟩ = true
        · have hkn : knownB ⟨o, r, s, n⟩ = true := by rw [hF] at hok; simp only [Bool.and_eq_true] at hok; exact hok.1.1.1.1
          have hst : strayB ⟨o, r, s, n⟩ = false := by rw [hF] at hok; simp only [Bool.and_eq_true, Bool.not_eq_true'] at hok; exact hok.1.1.1.2
          have hv1 : valB r = true := by rw [hF] at hok; simp only [Bool.and_eq_true] at hok; exact hok.1.1.2
          have hv2 : valB s = true := by rw [hF] at hok; simp only [Bool.and_eq_true] at hok; exact hok.1.2
          have hv3 : valB n = true := by rw [hF] at hok; simp only [Bool.and_eq_true] at hok; exact hok.2
          have HV1 : Hid (∀ W : World, Calls Tryd.prog 70 #[.int .i64 r] W fun e w' => e = .returned (.bool true) ∧ W = w') := Lib.hid fun W => by have hq := l01Value r W; rw [hv1] at hq; exact hq
          have HV2 : Hid (∀ W : World, Calls Tryd.prog 70 #[.int .i64 s] W fun e w' => e = .returned (.bool true) ∧ W = w') := Lib.hid fun W => by have hq := l01Value s W; rw [hv2] at hq; exact hq
          have HV3 : Hid (∀ W : World, Calls Tryd.prog 70 #[.int .i64 n] W fun e w' => e = .returned (.bool true) ∧ W = w') := Lib.hid fun W => by have hq := l01Value n W; rw [hv3] at hq; exact hq
          rw [hkn] at hK
          have HK := Lib.hid hK
          have HT := Lib.hid (atext_take HX.out)
          have HA' := Lib.hid (allN_snoc HA.out HX.out hok)
          have g1 := digs_len (x := r) (by omega)
          have g2 := digs_len (x := s) (by omega)
          have g3 := digs_len (x := n) (by omega)
          have hc1' := fun W : World => l01Num r W (by omega)
          have hc2' := fun W : World => l01Num s W (by omega)
          have hc3' := fun W : World => l01Num n W (by omega)
          have hTF : atomTF ⟨o, r, s, n⟩ = (if o = 0 then Lib.itoa r ++ [58] ++ Lib.itoa s ++ [61] ++ Lib.itoa n else [91] ++ Lib.itoa s ++ [93] ++ [61] ++ Lib.itoa n) := by unfold atomTF; rw [if_pos hok]
          obtain ⟨t1, ht1⟩ : ∃ t, Lib.itoa r = t := ⟨_, rfl⟩
          obtain ⟨t2, ht2⟩ : ∃ t, Lib.itoa s = t := ⟨_, rfl⟩
          obtain ⟨t3, ht3⟩ : ∃ t, Lib.itoa n = t := ⟨_, rfl⟩
          rw [ht1] at g1 hc1' hTF
          rw [ht2] at g2 hc2' hTF
          rw [ht3] at g3 hc3' hTF
          have HC1 := Lib.hid hc1'
          have HC2 := Lib.hid hc2'
          have HC3 := Lib.hid hc3'
          obtain ⟨W2, hW2⟩ : ∃ W2, W2 = wr.alloc (.cells #[.int .i64 o, .int .i64 r, .int .i64 s, .int .i64 n] 100) := ⟨_, rfl⟩
          rw [← hW2] at c0 c1 c2 c3 HBa lka
          have HW2 := Lib.hid hW2
          have HS : Hid (∀ W : World, Below W2.heap.size W2 W → Below W2.heap.size W2 W ∧ W.cell? ⟨wr.heap.size, 1, none⟩ = some (.int .i64 r) ∧ W.cell? ⟨wr.heap.size, 2, none⟩ = some (.int .i64 s) ∧ W.cell? ⟨wr.heap.size, 3, none⟩ = some (.int .i64 n)) :=
            Lib.hid fun W hW => ⟨hW, (hW.cell (p := ⟨wr.heap.size, 1, none⟩) lka).trans c1, (hW.cell (p := ⟨wr.heap.size, 2, none⟩) lka).trans c2, (hW.cell (p := ⟨wr.heap.size, 3, none⟩) lka).trans c3⟩
          have hLz : ∃ L2, Hid (atext (xs.take (k + 1)) = L2 ++ atomTF ⟨o, r, s, n⟩) ∧ L2.length ≤ L.length + 3 ∧ ((k = 0 ∧ L2 = L) ∨ (0 < k ∧ L2 = L ++ [32, 38, 32])) := by
            by_cases h0 : k = 0
            · exact ⟨L, Lib.hid (by rw [HT.out, if_pos h0, HL.out, h0]; simp [atext, Lib.join_nil]), by omega, .inl ⟨h0, rfl⟩⟩
            · exact ⟨L ++ [32, 38, 32], Lib.hid (by rw [HT.out, if_neg h0, HL.out]), by simp, .inr ⟨by omega, rfl⟩⟩
          obtain ⟨L2, HL2, hl2, hcase⟩ := hLz
          have hstr : (str L2 = str L2) := rfl
          have ho01 : o = 0 ∨ (o = 1 ∧ r = 0) := by
            simp only [knownB, Bool.or_eq_true, beq_iff_eq] at hkn
            rcases hkn with h | h
            · exact .inl h
            · exact .inr ⟨h, by simpa [strayB, h] using hst⟩
          clear hW2 hc1' hc2' hc3' hK hkk hkn hst hv1 hv2 hv3 hok ht1 ht2 ht3 hF hRx hstr
          rcases ho01 with rfl | ⟨rfl, hr0⟩
          · rw [if_pos rfl] at hTF
            have HTF := Lib.hid hTF
            clear hTF
            rcases hcase with ⟨hk0, hL2⟩ | ⟨hk0, hL2⟩
            · have hz : ¬ 0 < k := by omega
              have HEL := Lib.hid hL2
              clear hk0 hL2
              have q0 : ¬ (9223372036854775807 < L.length + t1.length) := by omega
              have q1 : ¬ (9223372036854775807 < L.length + t1.length + 1) := by omega
              have q2 : ¬ (9223372036854775807 < L.length + t1.length + 1 + t2.length) := by omega
              have q3 : ¬ (9223372036854775807 < L.length + t1.length + 1 + t2.length + 1) := by omega
              have q4 : ¬ (9223372036854775807 < L.length + t1.length + 1 + t2.length + 1 + t3.length) := by omega
              go_wp2_with (first | (go_at_call 69; refine (HK.out _).mono ?_; rintro e w' ⟨rfl, rfl⟩) | (go_at_call_of 70 (Value.int .i64 r : Value); refine (HV1.out _).mono ?_; rintro e w' ⟨rfl, rfl⟩) | (go_at_call_of 70 (Value.int .i64 s : Value); refine (HV2.out _).mono ?_; rintro e w' ⟨rfl, rfl⟩) | (go_at_call_of 70 (Value.int .i64 n : Value); refine (HV3.out _).mono ?_; rintro e w' ⟨rfl, rfl⟩))
              rw [← HW2.out]
              go_region_held3 (fun W => Below W2.heap.size W2 W ∧ W.cell? ⟨wr.heap.size, 1, none⟩ = some (.int .i64 r) ∧ W.cell? ⟨wr.heap.size, 2, none⟩ = some (.int .i64 s) ∧ W.cell? ⟨wr.heap.size, 3, none⟩ = some (.int .i64 n)) (first | (exact HS.out _ (Below.refl _ _).drew) | (exact HS.out _ (by assumption)))
                (first
                  | (go_at_call_of 50 (Value.int .i64 r : Value); have hS := ‹Below W2.heap.size W2 _ ∧ _›.1; refine (HC1.out _).mono ?_; rintro e w3 ⟨rfl, hb3⟩; have hS3 := hS.trans (hb3.mono hS.size); clear hS)
                  | (go_at_call_of 50 (Value.int .i64 s : Value); have hS := ‹Below W2.heap.size W2 _ ∧ _›.1; refine (HC2.out _).mono ?_; rintro e w4 ⟨rfl, hb4⟩; have hS4 := hS.trans (hb4.mono hS.size); clear hS)
                  | (go_at_call_of 50 (Value.int .i64 n : Value); have hS := ‹Below W2.heap.size W2 _ ∧ _›.1; refine (HC3.out _).mono ?_; rintro e w5 ⟨rfl, hb5⟩; have hS5 := hS.trans (hb5.mono hS.size); clear hS))
              all_goals
                have hS := (‹Below W2.heap.size W2 _ ∧ _›).1
                have HN := Lib.hid (HBa.out.trans (hS.mono HBa.out.size))
                go_wp2_with fail
                refine ⟨⟨k + 1, L ++ t1 ++ [58] ++ t2 ++ [61] ++ t3, by omega, by go_num, ?_, Lib.hid (by rw [HL2.out, HTF.out, HEL.out]; simp), HA', HN.out⟩, by simp [intOf]; omega⟩
                simp [str, bytes_app]
            · have q9 : ¬ (9223372036854775807 < L.length + 3) := by omega
              have HEL := Lib.hid hL2
              clear hL2
              have q0 : ¬ (9223372036854775807 < L.length + 3 + t1.length) := by omega
              have q1 : ¬ (9223372036854775807 < L.length + 3 + t1.length + 1) := by omega
              have q2 : ¬ (9223372036854775807 < L.length + 3 + t1.length + 1 + t2.length) := by omega
              have q3 : ¬ (9223372036854775807 < L.length + 3 + t1.length + 1 + t2.length + 1) := by omega
              have q4 : ¬ (9223372036854775807 < L.length + 3 + t1.length + 1 + t2.length + 1 + t3.length) := by omega
              go_wp2_with (first | (go_at_call 69; refine (HK.out _).mono ?_; rintro e w' ⟨rfl, rfl⟩) | (go_at_call_of 70 (Value.int .i64 r : Value); refine (HV1.out _).mono ?_; rintro e w' ⟨rfl, rfl⟩) | (go_at_call_of 70 (Value.int .i64 s : Value); refine (HV2.out _).mono ?_; rintro e w' ⟨rfl, rfl⟩) | (go_at_call_of 70 (Value.int .i64 n : Value); refine (HV3.out _).mono ?_; rintro e w' ⟨rfl, rfl⟩))
              rw [← HW2.out]
              go_region_held3 (fun W => Below W2.heap.size W2 W ∧ W.cell? ⟨wr.heap.size, 1, none⟩ = some (.int .i64 r) ∧ W.cell? ⟨wr.heap.size, 2, none⟩ = some (.int .i64 s) ∧ W.cell? ⟨wr.heap.size, 3, none⟩ = some (.int .i64 n)) (first | (exact HS.out _ (Below.refl _ _).drew) | (exact HS.out _ (by assumption)))
                (first
                  | (go_at_call_of 50 (Value.int .i64 r : Value); have hS := ‹Below W2.heap.size W2 _ ∧ _›.1; refine (HC1.out _).mono ?_; rintro e w3 ⟨rfl, hb3⟩; have hS3 := hS.trans (hb3.mono hS.size); clear hS)
                  | (go_at_call_of 50 (Value.int .i64 s : Value); have hS := ‹Below W2.heap.size W2 _ ∧ _›.1; refine (HC2.out _).mono ?_; rintro e w4 ⟨rfl, hb4⟩; have hS4 := hS.trans (hb4.mono hS.size); clear hS)
                  | (go_at_call_of 50 (Value.int .i64 n : Value); have hS := ‹Below W2.heap.size W2 _ ∧ _›.1; refine (HC3.out _).mono ?_; rintro e w5 ⟨rfl, hb5⟩; have hS5 := hS.trans (hb5.mono hS.size); clear hS))
              all_goals
                have hS := (‹Below W2.heap.size W2 _ ∧ _›).1
                have HN := Lib.hid (HBa.out.trans (hS.mono HBa.out.size))
                go_wp2_with fail
                refine ⟨⟨k + 1, L ++ [32, 38, 32] ++ t1 ++ [58] ++ t2 ++ [61] ++ t3, by omega, by go_num, ?_, Lib.hid (by rw [HL2.out, HTF.out, HEL.out]; simp), HA', HN.out⟩, by simp [intOf]; omega⟩
                simp [str, bytes_app]
          · subst hr0
            have hTF2 : atomTF ⟨1, 0, s, n⟩ = [91] ++ t2 ++ [93] ++ [61] ++ t3 := by rw [hTF]; rfl
            have HTF := Lib.hid hTF2
            clear hTF hTF2
            rcases hcase with ⟨hk0, hL2⟩ | ⟨hk0, hL2⟩
            · have hz : ¬ 0 < k := by omega
              have HEL := Lib.hid hL2
              clear hk0 hL2
              have q0 : ¬ (9223372036854775807 < L.length + 1) := by omega
              have q1 : ¬ (9223372036854775807 < L.length + 1 + t2.length) := by omega
              have q2 : ¬ (9223372036854775807 < L.length + 1 + t2.length + 2) := by omega
              have q3 : ¬ (9223372036854775807 < L.length + 1 + t2.length + 2 + t3.length) := by omega
              go_wp2_with (first | (go_at_call 69; refine (HK.out _).mono ?_; rintro e w' ⟨rfl, rfl⟩) | (go_at_call_of 70 (Value.int .i64 0 : Value); refine (HV1.out _).mono ?_; rintro e w' ⟨rfl, rfl⟩) | (go_at_call_of 70 (Value.int .i64 s : Value); refine (HV2.out _).mono ?_; rintro e w' ⟨rfl, rfl⟩) | (go_at_call_of 70 (Value.int .i64 n : Value); refine (HV3.out _).mono ?_; rintro e w' ⟨rfl, rfl⟩))
              rw [← HW2.out]
              go_region_held3 (fun W => Below W2.heap.size W2 W ∧ W.cell? ⟨wr.heap.size, 1, none⟩ = some (.int .i64 0) ∧ W.cell? ⟨wr.heap.size, 2, none⟩ = some (.int .i64 s) ∧ W.cell? ⟨wr.heap.size, 3, none⟩ = some (.int .i64 n)) (first | (exact HS.out _ (Below.refl _ _).drew) | (exact HS.out _ (by assumption)))
                (first
                  | (go_at_call_of 50 (Value.int .i64 s : Value); have hS := ‹Below W2.heap.size W2 _ ∧ _›.1; refine (HC2.out _).mono ?_; rintro e w4 ⟨rfl, hb4⟩; have hS4 := hS.trans (hb4.mono hS.size); clear hS)
                  | (go_at_call_of 50 (Value.int .i64 n : Value); have hS := ‹Below W2.heap.size W2 _ ∧ _›.1; refine (HC3.out _).mono ?_; rintro e w5 ⟨rfl, hb5⟩; have hS5 := hS.trans (hb5.mono hS.size); clear hS))
              all_goals
                have hS := (‹Below W2.heap.size W2 _ ∧ _›).1
                have HN := Lib.hid (HBa.out.trans (hS.mono HBa.out.size))
                go_wp2_with fail
                refine ⟨⟨k + 1, L ++ [91] ++ t2 ++ [93] ++ [61] ++ t3, by omega, by go_num, ?_, Lib.hid (by rw [HL2.out, HTF.out, HEL.out]; simp), HA', HN.out⟩, by simp [intOf]; omega⟩
                simp [str, bytes_app]
            · have q9 : ¬ (9223372036854775807 < L.length + 3) := by omega
              have HEL := Lib.hid hL2
              clear hL2
              have q0 : ¬ (9223372036854775807 < L.length + 3 + 1) := by omega
              have q1 : ¬ (9223372036854775807 < L.length + 3 + 1 + t2.length) := by omega
              have q2 : ¬ (9223372036854775807 < L.length + 3 + 1 + t2.length + 2) := by omega
              have q3 : ¬ (9223372036854775807 < L.length + 3 + 1 + t2.length + 2 + t3.length) := by omega
              go_wp2_with (first | (go_at_call 69; refine (HK.out _).mono ?_; rintro e w' ⟨rfl, rfl⟩) | (go_at_call_of 70 (Value.int .i64 0 : Value); refine (HV1.out _).mono ?_; rintro e w' ⟨rfl, rfl⟩) | (go_at_call_of 70 (Value.int .i64 s : Value); refine (HV2.out _).mono ?_; rintro e w' ⟨rfl, rfl⟩) | (go_at_call_of 70 (Value.int .i64 n : Value); refine (HV3.out _).mono ?_; rintro e w' ⟨rfl, rfl⟩))
              rw [← HW2.out]
              go_region_held3 (fun W => Below W2.heap.size W2 W ∧ W.cell? ⟨wr.heap.size, 1, none⟩ = some (.int .i64 0) ∧ W.cell? ⟨wr.heap.size, 2, none⟩ = some (.int .i64 s) ∧ W.cell? ⟨wr.heap.size, 3, none⟩ = some (.int .i64 n)) (first | (exact HS.out _ (Below.refl _ _).drew) | (exact HS.out _ (by assumption)))
                (first
                  | (go_at_call_of 50 (Value.int .i64 s : Value); have hS := ‹Below W2.heap.size W2 _ ∧ _›.1; refine (HC2.out _).mono ?_; rintro e w4 ⟨rfl, hb4⟩; have hS4 := hS.trans (hb4.mono hS.size); clear hS)
                  | (go_at_call_of 50 (Value.int .i64 n : Value); have hS := ‹Below W2.heap.size W2 _ ∧ _›.1; refine (HC3.out _).mono ?_; rintro e w5 ⟨rfl, hb5⟩; have hS5 := hS.trans (hb5.mono hS.size); clear hS))
              all_goals
                have hS := (‹Below W2.heap.size W2 _ ∧ _›).1
                have HN := Lib.hid (HBa.out.trans (hS.mono HBa.out.size))
                go_wp2_with fail
                refine ⟨⟨k + 1, L ++ [32, 38, 32] ++ [91] ++ t2 ++ [93] ++ [61] ++ t3, by omega, by go_num, ?_, Lib.hid (by rw [HL2.out, HTF.out, HEL.out]; simp), HA', HN.out⟩, by simp [intOf]; omega⟩
                simp [str, bytes_app]
        · have hok2 : atomTB ⟨o, r, s, n⟩ = false := by simpa using hok
          have HF : Hid (askTF xs = none) := Lib.hid (by
            have := allN_false (p := atomTB) HX.out hok2
            simp [askTF, this])
          clear hok
          cases hkn : knownB ⟨o, r, s, n⟩
          · rw [hkn] at hK
            have HK := Lib.hid hK
            clear hK hkk hkn hF hok2
            go_wp2_with (first | (go_at_call 69; refine (HK.out _).mono ?_; rintro e w' ⟨rfl, rfl⟩))
            exact bodyPost_ret (v := .tuple #[.string ⟨#[]⟩, .bool false]) (by simp [results, Tryd.results32, go_sem]) rfl ⟨by rw [HF.out]; rfl, HBa.out⟩
          · rw [hkn] at hK
            have HK := Lib.hid hK
            cases hst : strayB ⟨o, r, s, n⟩
            · have hst2 : (o == (1 : Int)) = false ∨ ((o == (1 : Int)) = true ∧ (r != (0 : Int)) = false) := by
                cases h1 : (o == (1 : Int))
                · exact .inl rfl
                · refine .inr ⟨rfl, ?_⟩
                  simpa [strayB, h1] using hst
              cases hv1 : valB r
              · have HV1 : Hid (∀ W : World, Calls Tryd.prog 70 #[.int .i64 r] W fun e w' => e = .returned (.bool false) ∧ W = w') := Lib.hid fun W => by have hq := l01Value r W; rw [hv1] at hq; exact hq
                clear hK hkk hkn hF hok2 hst hv1
                rcases hst2 with h1 | ⟨h1, h2⟩
                · go_wp2_with (first | (go_at_call 69; refine (HK.out _).mono ?_; rintro e w' ⟨rfl, rfl⟩) | (go_at_call_of 70 (Value.int .i64 r : Value); refine (HV1.out _).mono ?_; rintro e w' ⟨rfl, rfl⟩))
                  exact bodyPost_ret (v := .tuple #[.string ⟨#[]⟩, .bool false]) (by simp [results, Tryd.results32, go_sem]) rfl ⟨by rw [HF.out]; rfl, HBa.out⟩
                · go_wp2_with (first | (go_at_call 69; refine (HK.out _).mono ?_; rintro e w' ⟨rfl, rfl⟩) | (go_at_call_of 70 (Value.int .i64 r : Value); refine (HV1.out _).mono ?_; rintro e w' ⟨rfl, rfl⟩))
                  exact bodyPost_ret (v := .tuple #[.string ⟨#[]⟩, .bool false]) (by simp [results, Tryd.results32, go_sem]) rfl ⟨by rw [HF.out]; rfl, HBa.out⟩
              · have HV1 : Hid (∀ W : World, Calls Tryd.prog 70 #[.int .i64 r] W fun e w' => e = .returned (.bool true) ∧ W = w') := Lib.hid fun W => by have hq := l01Value r W; rw [hv1] at hq; exact hq
                cases hv2 : valB s
                · have HV2 : Hid (∀ W : World, Calls Tryd.prog 70 #[.int .i64 s] W fun e w' => e = .returned (.bool false) ∧ W = w') := Lib.hid fun W => by have hq := l01Value s W; rw [hv2] at hq; exact hq
                  clear hK hkk hkn hF hok2 hst hv1 hv2
                  rcases hst2 with h1 | ⟨h1, h2⟩
                  · go_wp2_with (first | (go_at_call 69; refine (HK.out _).mono ?_; rintro e w' ⟨rfl, rfl⟩) | (go_at_call_of 70 (Value.int .i64 r : Value); refine (HV1.out _).mono ?_; rintro e w' ⟨rfl, rfl⟩) | (go_at_call_of 70 (Value.int .i64 s : Value); refine (HV2.out _).mono ?_; rintro e w' ⟨rfl, rfl⟩))
                    exact bodyPost_ret (v := .tuple #[.string ⟨#[]⟩, .bool false]) (by simp [results, Tryd.results32, go_sem]) rfl ⟨by rw [HF.out]; rfl, HBa.out⟩
                  · go_wp2_with (first | (go_at_call 69; refine (HK.out _).mono ?_; rintro e w' ⟨rfl, rfl⟩) | (go_at_call_of 70 (Value.int .i64 r : Value); refine (HV1.out _).mono ?_; rintro e w' ⟨rfl, rfl⟩) | (go_at_call_of 70 (Value.int .i64 s : Value); refine (HV2.out _).mono ?_; rintro e w' ⟨rfl, rfl⟩))
                    exact bodyPost_ret (v := .tuple #[.string ⟨#[]⟩, .bool false]) (by simp [results, Tryd.results32, go_sem]) rfl ⟨by rw [HF.out]; rfl, HBa.out⟩
                · have HV2 : Hid (∀ W : World, Calls Tryd.prog 70 #[.int .i64 s] W fun e w' => e = .returned (.bool true) ∧ W = w') := Lib.hid fun W => by have hq := l01Value s W; rw [hv2] at hq; exact hq
                  have hv3 : valB n = false := by
                    rw [hF, hkn, hst, hv1, hv2] at hok2
                    simpa using hok2
                  have HV3 : Hid (∀ W : World, Calls Tryd.prog 70 #[.int .i64 n] W fun e w' => e = .returned (.bool false) ∧ W = w') := Lib.hid fun W => by have hq := l01Value n W; rw [hv3] at hq; exact hq
                  clear hK hkk hkn hF hok2 hst hv1 hv2 hv3
                  rcases hst2 with h1 | ⟨h1, h2⟩
                  · go_wp2_with (first | (go_at_call 69; refine (HK.out _).mono ?_; rintro e w' ⟨rfl, rfl⟩) | (go_at_call_of 70 (Value.int .i64 r : Value); refine (HV1.out _).mono ?_; rintro e w' ⟨rfl, rfl⟩) | (go_at_call_of 70 (Value.int .i64 s : Value); refine (HV2.out _).mono ?_; rintro e w' ⟨rfl, rfl⟩) | (go_at_call_of 70 (Value.int .i64 n : Value); refine (HV3.out _).mono ?_; rintro e w' ⟨rfl, rfl⟩))
                    exact bodyPost_ret (v := .tuple #[.string ⟨#[]⟩, .bool false]) (by simp [results, Tryd.results32, go_sem]) rfl ⟨by rw [HF.out]; rfl, HBa.out⟩
                  · go_wp2_with (first | (go_at_call 69; refine (HK.out _).mono ?_; rintro e w' ⟨rfl, rfl⟩) | (go_at_call_of 70 (Value.int .i64 r : Value); refine (HV1.out _).mono ?_; rintro e w' ⟨rfl, rfl⟩) | (go_at_call_of 70 (Value.int .i64 s : Value); refine (HV2.out _).mono ?_; rintro e w' ⟨rfl, rfl⟩) | (go_at_call_of 70 (Value.int .i64 n : Value); refine (HV3.out _).mono ?_; rintro e w' ⟨rfl, rfl⟩))
                    exact bodyPost_ret (v := .tuple #[.string ⟨#[]⟩, .bool false]) (by simp [results, Tryd.results32, go_sem]) rfl ⟨by rw [HF.out]; rfl, HBa.out⟩
            · have hs2 : (o == (1 : Int)) = true ∧ (r != (0 : Int)) = true := by simpa [strayB] using hst
              obtain ⟨h1, h2⟩ := hs2
              clear hK hkk hkn hF hok2 hst
              go_wp2_with (first | (go_at_call 69; refine (HK.out _).mono ?_; rintro e w' ⟨rfl, rfl⟩))
              exact bodyPost_ret (v := .tuple #[.string ⟨#[]⟩, .bool false]) (by simp [results, Tryd.results32, go_sem]) rfl ⟨by rw [HF.out]; rfl, HBa.out⟩
      · obtain rfl : k = xs.length := by omega
        have hA := HA.out
        rw [List.take_length] at hA
        have HF : Hid (askTF xs = some L) := Lib.hid (by
          have hLc := HL.out
          rw [List.take_length] at hLc
          unfold askTF
          rw [if_pos ⟨by omega, hA⟩, hLc])
        clear hA
        go_wp2_with fail
        exact bodyPost_ret (v := .tuple #[str L, .bool true]) (by simp [results, Tryd.results32, go_sem]) rfl ⟨by rw [HF.out]; rfl, hB⟩
end Go.Proofs.YtiflooopfpcelacDoor
