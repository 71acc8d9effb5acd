/- The text of atoms: the model's and the program's. The program's asks for the library's table of powers of ten. Condition: the atoms can be read, their fields are integers of 64 bits. -/
import Derived.Test.YtiflooopfpcelacDoorA6
import Derived.Test.YtiflooopfpcelacDoorT5
import Derived.Lib.OthersKept
namespace Go.Proofs.YtiflooopfpcelacDoor
set_option maxRecDepth 20000
set_option linter.unusedSimpArgs false
set_option linter.unusedVariables false
open Go.ChangeShapes Go.WideShapes Go.ChangeAt Go.RowKit
set_option linter.unusedVariables false
set_option maxHeartbeats 3200000 in
theorem fill_reg (b : Nat) (a0 : Int) (a1 : Int) (a2 : Int) (w : World) (hb : b < w.heap.size) (c0 : w.cell? ⟨b, 0, none⟩ = some (.int .i64 a0)) (c1 : w.cell? ⟨b, 1, none⟩ = some (.int .i64 a1)) (c2 : w.cell? ⟨b, 2, none⟩ = some (.int .i64 a2)) (ha0 : -9223372036854775808 ≤ a0 ∧ a0 ≤ 9223372036854775807) (ha1 : -9223372036854775808 ≤ a1 ∧ a1 ≤ 9223372036854775807) (ha2 : -9223372036854775808 ≤ a2 ∧ a2 ≤ 9223372036854775807) (ht : Tab w) :
    Calls Tryd.prog 103 #[.string ⟨#[35, 58, 35, 61, 35]⟩, .slice (some ⟨b, 0, none⟩) 3 3] w fun e w' => e = .returned (str (Lib.itoa a0 ++ [58] ++ Lib.itoa a1 ++ [61] ++ Lib.itoa a2)) ∧ Below w.heap.size w w' := by
  obtain ⟨t0, ht0⟩ : ∃ t, Lib.itoa a0 = t := ⟨_, rfl⟩
  have hl0 : t0.length ≤ 20 := by rw [← ht0]; exact digs_len ha0
  have hI0 := fun (W : World) (hW : Below w.heap.size w W) => itoa_call a0 W ha0 (ht.below hW (Nat.le_refl _))
  rw [ht0] at hI0 ⊢
  have HI0 := Lib.hid hI0
  have HC0 : Hid (∀ W, Below w.heap.size w W → W.cell? ⟨b, 0, none⟩ = some (.int .i64 a0)) := Lib.hid fun W hW => (hW.cell (p := ⟨b, 0, none⟩) hb).trans c0
  clear hI0 ht0 c0
  obtain ⟨t1, ht1⟩ : ∃ t, Lib.itoa a1 = t := ⟨_, rfl⟩
  have hl1 : t1.length ≤ 20 := by rw [← ht1]; exact digs_len ha1
  have hI1 := fun (W : World) (hW : Below w.heap.size w W) => itoa_call a1 W ha1 (ht.below hW (Nat.le_refl _))
  rw [ht1] at hI1 ⊢
  have HI1 := Lib.hid hI1
  have HC1 : Hid (∀ W, Below w.heap.size w W → W.cell? ⟨b, 1, none⟩ = some (.int .i64 a1)) := Lib.hid fun W hW => (hW.cell (p := ⟨b, 1, none⟩) hb).trans c1
  clear hI1 ht1 c1
  obtain ⟨t2, ht2⟩ : ∃ t, Lib.itoa a2 = t := ⟨_, rfl⟩
  have hl2 : t2.length ≤ 20 := by rw [← ht2]; exact digs_len ha2
  have hI2 := fun (W : World) (hW : Below w.heap.size w W) => itoa_call a2 W ha2 (ht.below hW (Nat.le_refl _))
  rw [ht2] at hI2 ⊢
  have HI2 := Lib.hid hI2
  have HC2 : Hid (∀ W, Below w.heap.size w W → W.cell? ⟨b, 2, none⟩ = some (.int .i64 a2)) := Lib.hid fun W hW => (hW.cell (p := ⟨b, 2, none⟩) hb).trans c2
  clear hI2 ht2 c2
  have q58 : ∀ W : World, (convert 21 9 (.int .i32 58)).run Tryd.prog W = .ok (.string ⟨#[58]⟩) W := fun _ => by kernel_rfl
  have q61 : ∀ W : World, (convert 21 9 (.int .i32 61)).run Tryd.prog W = .ok (.string ⟨#[61]⟩) W := fun _ => by kernel_rfl
  have hBa := (Below.refl w.heap.size w).alloc (Nat.le_refl _) (.stringIter ⟨#[35, 58, 35, 61, 35]⟩ 0)
  have hit0 : (w.alloc (.stringIter ⟨#[35, 58, 35, 61, 35]⟩ 0)).heap[w.heap.size]? = some (.stringIter ⟨#[35, 58, 35, 61, 35]⟩ 0) := World.iter_heap w ⟨#[35, 58, 35, 61, 35]⟩ 0
  clear ht hb
  go_enter Tryd.func103, Tryd.ntmps103
  go_wp2_with fail
  go_loopw [5, 6] (fun tx fi wr => ∃ k : Nat, wr.heap[w.heap.size]? = some (.stringIter ⟨#[35, 58, 35, 61, 35]⟩ k) ∧ Below w.heap.size w wr ∧ ((k = 0 ∧ tx = str ([]) ∧ fi = .int .i64 0) ∨ (k = 1 ∧ tx = str (t0) ∧ fi = .int .i64 1) ∨ (k = 2 ∧ tx = str (t0 ++ [58]) ∧ fi = .int .i64 1) ∨ (k = 3 ∧ tx = str (t0 ++ [58] ++ t1) ∧ fi = .int .i64 2) ∨ (k = 4 ∧ tx = str (t0 ++ [58] ++ t1 ++ [61]) ∧ fi = .int .i64 2) ∨ (k = 5 ∧ tx = str (t0 ++ [58] ++ t1 ++ [61] ++ t2) ∧ fi = .int .i64 3))) (fun _ _ wr => 5 - wr.iterPos w.heap.size)
  case atStart => exact ⟨0, hit0, hBa, .inl ⟨rfl, rfl, rfl⟩⟩
  case round =>
    obtain ⟨k, hit, hB, hk⟩ := hrel
    clear hit0 hBa
    have hlt : w.heap.size < wr.heap.size := (Array.getElem?_eq_some_iff.1 hit).1
    rcases hk with ⟨rfl, rfl, rfl⟩ | ⟨rfl, rfl, rfl⟩ | ⟨rfl, rfl, rfl⟩ | ⟨rfl, rfl, rfl⟩ | ⟨rfl, rfl, rfl⟩ | ⟨rfl, rfl, rfl⟩
    · have hd : Utf8.decode ⟨#[35, 58, 35, 61, 35]⟩ 0 = (35, 1) := by decide +kernel
      have hnx : ∀ ty, (Instr.next (.pointer (some ⟨w.heap.size, 0, none⟩)) true ty).run Tryd.prog wr = .ok (.tuple #[.bool true, .int .i64 0, .int .i32 35]) (wr.iterAt w.heap.size ⟨#[35, 58, 35, 61, 35]⟩ 1) := fun ty => by
        have := Lib.run_next_any_at (P := Tryd.prog) wr w.heap.size ⟨#[35, 58, 35, 61, 35]⟩ 0 ty hit (by decide)
        rw [hd] at this
        exact this
      have hit2 := Lib.iterAt_heap wr w.heap.size ⟨#[35, 58, 35, 61, 35]⟩ 0 1 hit
      have hB2 := Lib.below_iterAt hB (k := w.heap.size) (Nat.le_refl _) ⟨#[35, 58, 35, 61, 35]⟩ 1
      have hsz : (wr.iterAt w.heap.size ⟨#[35, 58, 35, 61, 35]⟩ 1).heap.size = wr.heap.size := Lib.iterAt_size _ _ _ _
      have hm : wr.iterPos w.heap.size = 0 := by simp only [World.iterPos, hit]
      have hc := HC0.out _ hB2
      have hlen : ¬ (9223372036854775807 < ([] : List UInt8).length + t0.length) := by simp; omega
      have HB2 := Lib.hid hB2
      have HIT := Lib.hid hit2
      clear hB2 hit2 hd
      go_wp2_with fail
      refine (HI0.out _ HB2.out).mono ?_
      rintro e w5 ⟨rfl, hb5⟩
      have hB5 := HB2.out.trans (hb5.mono (by rw [hsz]; omega))
      have hit5 : w5.heap[w.heap.size]? = some (.stringIter ⟨#[35, 58, 35, 61, 35]⟩ 1) := (hb5.block _ (by rw [hsz]; exact hlt)).trans HIT.out
      go_wp2_with fail
      refine ⟨⟨1, hit5, hB5, .inr (.inl ⟨rfl, ?_, ?_⟩)⟩, ?_⟩
      · first | exact congrArg Value.string (bytes_app _ _) | (refine (congrArg Value.string (bytes_app _ _)).trans ?_; simp [str])
      · rfl
      · rw [hm]; simp only [World.iterPos, hit5]; omega
    · have hd : Utf8.decode ⟨#[35, 58, 35, 61, 35]⟩ 1 = (58, 1) := by decide +kernel
      have hnx : ∀ ty, (Instr.next (.pointer (some ⟨w.heap.size, 0, none⟩)) true ty).run Tryd.prog wr = .ok (.tuple #[.bool true, .int .i64 1, .int .i32 58]) (wr.iterAt w.heap.size ⟨#[35, 58, 35, 61, 35]⟩ 2) := fun ty => by
        have := Lib.run_next_any_at (P := Tryd.prog) wr w.heap.size ⟨#[35, 58, 35, 61, 35]⟩ 1 ty hit (by decide)
        rw [hd] at this
        exact this
      have hit2 := Lib.iterAt_heap wr w.heap.size ⟨#[35, 58, 35, 61, 35]⟩ 1 2 hit
      have hB2 := Lib.below_iterAt hB (k := w.heap.size) (Nat.le_refl _) ⟨#[35, 58, 35, 61, 35]⟩ 2
      have hsz : (wr.iterAt w.heap.size ⟨#[35, 58, 35, 61, 35]⟩ 2).heap.size = wr.heap.size := Lib.iterAt_size _ _ _ _
      have hm : wr.iterPos w.heap.size = 1 := by simp only [World.iterPos, hit]
      have hlen : ¬ (9223372036854775807 < (t0 : List UInt8).length + 1) := by simp; try omega
      have HB2 := Lib.hid hB2
      have HIT := Lib.hid hit2
      clear hB2 hit2 hd
      go_wp2_with fail
      refine ⟨⟨2, HIT.out, HB2.out, .inr (.inr (.inl ⟨rfl, ?_, ?_⟩))⟩, ?_⟩
      · first | exact congrArg Value.string (bytes_app _ [58]) | (refine (congrArg Value.string (bytes_app _ [58])).trans ?_; simp [str])
      · rfl
      · rw [hm]; simp only [World.iterPos, HIT.out]; omega
    · have hd : Utf8.decode ⟨#[35, 58, 35, 61, 35]⟩ 2 = (35, 1) := by decide +kernel
      have hnx : ∀ ty, (Instr.next (.pointer (some ⟨w.heap.size, 0, none⟩)) true ty).run Tryd.prog wr = .ok (.tuple #[.bool true, .int .i64 2, .int .i32 35]) (wr.iterAt w.heap.size ⟨#[35, 58, 35, 61, 35]⟩ 3) := fun ty => by
        have := Lib.run_next_any_at (P := Tryd.prog) wr w.heap.size ⟨#[35, 58, 35, 61, 35]⟩ 2 ty hit (by decide)
        rw [hd] at this
        exact this
      have hit2 := Lib.iterAt_heap wr w.heap.size ⟨#[35, 58, 35, 61, 35]⟩ 2 3 hit
      have hB2 := Lib.below_iterAt hB (k := w.heap.size) (Nat.le_refl _) ⟨#[35, 58, 35, 61, 35]⟩ 3
      have hsz : (wr.iterAt w.heap.size ⟨#[35, 58, 35, 61, 35]⟩ 3).heap.size = wr.heap.size := Lib.iterAt_size _ _ _ _
      have hm : wr.iterPos w.heap.size = 2 := by simp only [World.iterPos, hit]
      have hc := HC1.out _ hB2
      have hlen : ¬ (9223372036854775807 < (t0 ++ [58] : List UInt8).length + t1.length) := by simp; omega
      have HB2 := Lib.hid hB2
      have HIT := Lib.hid hit2
      clear hB2 hit2 hd
      go_wp2_with fail
      refine (HI1.out _ HB2.out).mono ?_
      rintro e w5 ⟨rfl, hb5⟩
      have hB5 := HB2.out.trans (hb5.mono (by rw [hsz]; omega))
      have hit5 : w5.heap[w.heap.size]? = some (.stringIter ⟨#[35, 58, 35, 61, 35]⟩ 3) := (hb5.block _ (by rw [hsz]; exact hlt)).trans HIT.out
      go_wp2_with fail
      refine ⟨⟨3, hit5, hB5, .inr (.inr (.inr (.inl ⟨rfl, ?_, ?_⟩)))⟩, ?_⟩
      · first | exact congrArg Value.string (bytes_app _ _) | (refine (congrArg Value.string (bytes_app _ _)).trans ?_; simp [str])
      · rfl
      · rw [hm]; simp only [World.iterPos, hit5]; omega
    · have hd : Utf8.decode ⟨#[35, 58, 35, 61, 35]⟩ 3 = (61, 1) := by decide +kernel
      have hnx : ∀ ty, (Instr.next (.pointer (some ⟨w.heap.size, 0, none⟩)) true ty).run Tryd.prog wr = .ok (.tuple #[.bool true, .int .i64 3, .int .i32 61]) (wr.iterAt w.heap.size ⟨#[35, 58, 35, 61, 35]⟩ 4) := fun ty => by
        have := Lib.run_next_any_at (P := Tryd.prog) wr w.heap.size ⟨#[35, 58, 35, 61, 35]⟩ 3 ty hit (by decide)
        rw [hd] at this
        exact this
      have hit2 := Lib.iterAt_heap wr w.heap.size ⟨#[35, 58, 35, 61, 35]⟩ 3 4 hit
      have hB2 := Lib.below_iterAt hB (k := w.heap.size) (Nat.le_refl _) ⟨#[35, 58, 35, 61, 35]⟩ 4
      have hsz : (wr.iterAt w.heap.size ⟨#[35, 58, 35, 61, 35]⟩ 4).heap.size = wr.heap.size := Lib.iterAt_size _ _ _ _
      have hm : wr.iterPos w.heap.size = 3 := by simp only [World.iterPos, hit]
      have hlen : ¬ (9223372036854775807 < (t0 ++ [58] ++ t1 : List UInt8).length + 1) := by simp; try omega
      have HB2 := Lib.hid hB2
      have HIT := Lib.hid hit2
      clear hB2 hit2 hd
      go_wp2_with fail
      refine ⟨⟨4, HIT.out, HB2.out, .inr (.inr (.inr (.inr (.inl ⟨rfl, ?_, ?_⟩))))⟩, ?_⟩
      · first | exact congrArg Value.string (bytes_app _ [61]) | (refine (congrArg Value.string (bytes_app _ [61])).trans ?_; simp [str])
      · rfl
      · rw [hm]; simp only [World.iterPos, HIT.out]; omega
    · have hd : Utf8.decode ⟨#[35, 58, 35, 61, 35]⟩ 4 = (35, 1) := by decide +kernel
      have hnx : ∀ ty, (Instr.next (.pointer (some ⟨w.heap.size, 0, none⟩)) true ty).run Tryd.prog wr = .ok (.tuple #[.bool true, .int .i64 4, .int .i32 35]) (wr.iterAt w.heap.size ⟨#[35, 58, 35, 61, 35]⟩ 5) := fun ty => by
        have := Lib.run_next_any_at (P := Tryd.prog) wr w.heap.size ⟨#[35, 58, 35, 61, 35]⟩ 4 ty hit (by decide)
        rw [hd] at this
        exact this
      have hit2 := Lib.iterAt_heap wr w.heap.size ⟨#[35, 58, 35, 61, 35]⟩ 4 5 hit
      have hB2 := Lib.below_iterAt hB (k := w.heap.size) (Nat.le_refl _) ⟨#[35, 58, 35, 61, 35]⟩ 5
      have hsz : (wr.iterAt w.heap.size ⟨#[35, 58, 35, 61, 35]⟩ 5).heap.size = wr.heap.size := Lib.iterAt_size _ _ _ _
      have hm : wr.iterPos w.heap.size = 4 := by simp only [World.iterPos, hit]
      have hc := HC2.out _ hB2
      have hlen : ¬ (9223372036854775807 < (t0 ++ [58] ++ t1 ++ [61] : List UInt8).length + t2.length) := by simp; omega
      have HB2 := Lib.hid hB2
      have HIT := Lib.hid hit2
      clear hB2 hit2 hd
      go_wp2_with fail
      refine (HI2.out _ HB2.out).mono ?_
      rintro e w5 ⟨rfl, hb5⟩
      have hB5 := HB2.out.trans (hb5.mono (by rw [hsz]; omega))
      have hit5 : w5.heap[w.heap.size]? = some (.stringIter ⟨#[35, 58, 35, 61, 35]⟩ 5) := (hb5.block _ (by rw [hsz]; exact hlt)).trans HIT.out
      go_wp2_with fail
      refine ⟨⟨5, hit5, hB5, .inr (.inr (.inr (.inr (.inr (⟨rfl, ?_, ?_⟩)))))⟩, ?_⟩
      · first | exact congrArg Value.string (bytes_app _ _) | (refine (congrArg Value.string (bytes_app _ _)).trans ?_; simp [str])
      · rfl
      · rw [hm]; simp only [World.iterPos, hit5]; omega
    · have hnx : ∀ ty, (Instr.next (.pointer (some ⟨w.heap.size, 0, none⟩)) true ty).run Tryd.prog wr = .ok (.tuple #[.bool false]) wr := fun ty => Lib.run_next_end_at wr w.heap.size _ 5 ty hit (by decide)
      go_wp2_with fail
      go_ret
      exact ⟨rfl, hB⟩
set_option maxHeartbeats 3200000 in
theorem fill_cell (b : Nat) (a0 : Int) (a1 : Int) (w : World) (hb : b < w.heap.size) (c0 : w.cell? ⟨b, 0, none⟩ = some (.int .i64 a0)) (c1 : w.cell? ⟨b, 1, none⟩ = some (.int .i64 a1)) (ha0 : -9223372036854775808 ≤ a0 ∧ a0 ≤ 9223372036854775807) (ha1 : -9223372036854775808 ≤ a1 ∧ a1 ≤ 9223372036854775807) (ht : Tab w) :
    Calls Tryd.prog 103 #[.string ⟨#[91, 35, 93, 61, 35]⟩, .slice (some ⟨b, 0, none⟩) 2 2] w fun e w' => e = .returned (str ([91] ++ Lib.itoa a0 ++ [93] ++ [61] ++ Lib.itoa a1)) ∧ Below w.heap.size w w' := by
  obtain ⟨t0, ht0⟩ : ∃ t, Lib.itoa a0 = t := ⟨_, rfl⟩
  have hl0 : t0.length ≤ 20 := by rw [← ht0]; exact digs_len ha0
  have hI0 := fun (W : World) (hW : Below w.heap.size w W) => itoa_call a0 W ha0 (ht.below hW (Nat.le_refl _))
  rw [ht0] at hI0 ⊢
  have HI0 := Lib.hid hI0
  have HC0 : Hid (∀ W, Below w.heap.size w W → W.cell? ⟨b, 0, none⟩ = some (.int .i64 a0)) := Lib.hid fun W hW => (hW.cell (p := ⟨b, 0, none⟩) hb).trans c0
  clear hI0 ht0 c0
  obtain ⟨t1, ht1⟩ : ∃ t, Lib.itoa a1 = t := ⟨_, rfl⟩
  have hl1 : t1.length ≤ 20 := by rw [← ht1]; exact digs_len ha1
  have hI1 := fun (W : World) (hW : Below w.heap.size w W) => itoa_call a1 W ha1 (ht.below hW (Nat.le_refl _))
  rw [ht1] at hI1 ⊢
  have HI1 := Lib.hid hI1
  have HC1 : Hid (∀ W, Below w.heap.size w W → W.cell? ⟨b, 1, none⟩ = some (.int .i64 a1)) := Lib.hid fun W hW => (hW.cell (p := ⟨b, 1, none⟩) hb).trans c1
  clear hI1 ht1 c1
  have q61 : ∀ W : World, (convert 21 9 (.int .i32 61)).run Tryd.prog W = .ok (.string ⟨#[61]⟩) W := fun _ => by kernel_rfl
  have q91 : ∀ W : World, (convert 21 9 (.int .i32 91)).run Tryd.prog W = .ok (.string ⟨#[91]⟩) W := fun _ => by kernel_rfl
  have q93 : ∀ W : World, (convert 21 9 (.int .i32 93)).run Tryd.prog W = .ok (.string ⟨#[93]⟩) W := fun _ => by kernel_rfl
  have hBa := (Below.refl w.heap.size w).alloc (Nat.le_refl _) (.stringIter ⟨#[91, 35, 93, 61, 35]⟩ 0)
  have hit0 : (w.alloc (.stringIter ⟨#[91, 35, 93, 61, 35]⟩ 0)).heap[w.heap.size]? = some (.stringIter ⟨#[91, 35, 93, 61, 35]⟩ 0) := World.iter_heap w ⟨#[91, 35, 93, 61, 35]⟩ 0
  clear ht hb
  go_enter Tryd.func103, Tryd.ntmps103
  go_wp2_with fail
  go_loopw [5, 6] (fun tx fi wr => ∃ k : Nat, wr.heap[w.heap.size]? = some (.stringIter ⟨#[91, 35, 93, 61, 35]⟩ k) ∧ Below w.heap.size w wr ∧ ((k = 0 ∧ tx = str ([]) ∧ fi = .int .i64 0) ∨ (k = 1 ∧ tx = str ([91]) ∧ fi = .int .i64 0) ∨ (k = 2 ∧ tx = str ([91] ++ t0) ∧ fi = .int .i64 1) ∨ (k = 3 ∧ tx = str ([91] ++ t0 ++ [93]) ∧ fi = .int .i64 1) ∨ (k = 4 ∧ tx = str ([91] ++ t0 ++ [93] ++ [61]) ∧ fi = .int .i64 1) ∨ (k = 5 ∧ tx = str ([91] ++ t0 ++ [93] ++ [61] ++ t1) ∧ fi = .int .i64 2))) (fun _ _ wr => 5 - wr.iterPos w.heap.size)
  case atStart => exact ⟨0, hit0, hBa, .inl ⟨rfl, rfl, rfl⟩⟩
  case round =>
    obtain ⟨k, hit, hB, hk⟩ := hrel
    clear hit0 hBa
    have hlt : w.heap.size < wr.heap.size := (Array.getElem?_eq_some_iff.1 hit).1
    rcases hk with ⟨rfl, rfl, rfl⟩ | ⟨rfl, rfl, rfl⟩ | ⟨rfl, rfl, rfl⟩ | ⟨rfl, rfl, rfl⟩ | ⟨rfl, rfl, rfl⟩ | ⟨rfl, rfl, rfl⟩
    · have hd : Utf8.decode ⟨#[91, 35, 93, 61, 35]⟩ 0 = (91, 1) := by decide +kernel
      have hnx : ∀ ty, (Instr.next (.pointer (some ⟨w.heap.size, 0, none⟩)) true ty).run Tryd.prog wr = .ok (.tuple #[.bool true, .int .i64 0, .int .i32 91]) (wr.iterAt w.heap.size ⟨#[91, 35, 93, 61, 35]⟩ 1) := fun ty => by
        have := Lib.run_next_any_at (P := Tryd.prog) wr w.heap.size ⟨#[91, 35, 93, 61, 35]⟩ 0 ty hit (by decide)
        rw [hd] at this
        exact this
      have hit2 := Lib.iterAt_heap wr w.heap.size ⟨#[91, 35, 93, 61, 35]⟩ 0 1 hit
      have hB2 := Lib.below_iterAt hB (k := w.heap.size) (Nat.le_refl _) ⟨#[91, 35, 93, 61, 35]⟩ 1
      have hsz : (wr.iterAt w.heap.size ⟨#[91, 35, 93, 61, 35]⟩ 1).heap.size = wr.heap.size := Lib.iterAt_size _ _ _ _
      have hm : wr.iterPos w.heap.size = 0 := by simp only [World.iterPos, hit]
      have hlen : ¬ (9223372036854775807 < ([] : List UInt8).length + 1) := by simp; try omega
      have HB2 := Lib.hid hB2
      have HIT := Lib.hid hit2
      clear hB2 hit2 hd
      go_wp2_with fail
      refine ⟨⟨1, HIT.out, HB2.out, .inr (.inl ⟨rfl, ?_, ?_⟩)⟩, ?_⟩
      · first | exact congrArg Value.string (bytes_app _ [91]) | (refine (congrArg Value.string (bytes_app _ [91])).trans ?_; simp [str])
      · rfl
      · rw [hm]; simp only [World.iterPos, HIT.out]; omega
    · have hd : Utf8.decode ⟨#[91, 35, 93, 61, 35]⟩ 1 = (35, 1) := by decide +kernel
      have hnx : ∀ ty, (Instr.next (.pointer (some ⟨w.heap.size, 0, none⟩)) true ty).run Tryd.prog wr = .ok (.tuple #[.bool true, .int .i64 1, .int .i32 35]) (wr.iterAt w.heap.size ⟨#[91, 35, 93, 61, 35]⟩ 2) := fun ty => by
        have := Lib.run_next_any_at (P := Tryd.prog) wr w.heap.size ⟨#[91, 35, 93, 61, 35]⟩ 1 ty hit (by decide)
        rw [hd] at this
        exact this
      have hit2 := Lib.iterAt_heap wr w.heap.size ⟨#[91, 35, 93, 61, 35]⟩ 1 2 hit
      have hB2 := Lib.below_iterAt hB (k := w.heap.size) (Nat.le_refl _) ⟨#[91, 35, 93, 61, 35]⟩ 2
      have hsz : (wr.iterAt w.heap.size ⟨#[91, 35, 93, 61, 35]⟩ 2).heap.size = wr.heap.size := Lib.iterAt_size _ _ _ _
      have hm : wr.iterPos w.heap.size = 1 := by simp only [World.iterPos, hit]
      have hc := HC0.out _ hB2
      have hlen : ¬ (9223372036854775807 < ([91] : List UInt8).length + t0.length) := by simp; omega
      have HB2 := Lib.hid hB2
      have HIT := Lib.hid hit2
      clear hB2 hit2 hd
      go_wp2_with fail
      refine (HI0.out _ HB2.out).mono ?_
      rintro e w5 ⟨rfl, hb5⟩
      have hB5 := HB2.out.trans (hb5.mono (by rw [hsz]; omega))
      have hit5 : w5.heap[w.heap.size]? = some (.stringIter ⟨#[91, 35, 93, 61, 35]⟩ 2) := (hb5.block _ (by rw [hsz]; exact hlt)).trans HIT.out
      go_wp2_with fail
      refine ⟨⟨2, hit5, hB5, .inr (.inr (.inl ⟨rfl, ?_, ?_⟩))⟩, ?_⟩
      · first | exact congrArg Value.string (bytes_app _ _) | (refine (congrArg Value.string (bytes_app _ _)).trans ?_; simp [str])
      · rfl
      · rw [hm]; simp only [World.iterPos, hit5]; omega
    · have hd : Utf8.decode ⟨#[91, 35, 93, 61, 35]⟩ 2 = (93, 1) := by decide +kernel
      have hnx : ∀ ty, (Instr.next (.pointer (some ⟨w.heap.size, 0, none⟩)) true ty).run Tryd.prog wr = .ok (.tuple #[.bool true, .int .i64 2, .int .i32 93]) (wr.iterAt w.heap.size ⟨#[91, 35, 93, 61, 35]⟩ 3) := fun ty => by
        have := Lib.run_next_any_at (P := Tryd.prog) wr w.heap.size ⟨#[91, 35, 93, 61, 35]⟩ 2 ty hit (by decide)
        rw [hd] at this
        exact this
      have hit2 := Lib.iterAt_heap wr w.heap.size ⟨#[91, 35, 93, 61, 35]⟩ 2 3 hit
      have hB2 := Lib.below_iterAt hB (k := w.heap.size) (Nat.le_refl _) ⟨#[91, 35, 93, 61, 35]⟩ 3
      have hsz : (wr.iterAt w.heap.size ⟨#[91, 35, 93, 61, 35]⟩ 3).heap.size = wr.heap.size := Lib.iterAt_size _ _ _ _
      have hm : wr.iterPos w.heap.size = 2 := by simp only [World.iterPos, hit]
      have hlen : ¬ (9223372036854775807 < ([91] ++ t0 : List UInt8).length + 1) := by simp; try omega
      have HB2 := Lib.hid hB2
      have HIT := Lib.hid hit2
      clear hB2 hit2 hd
      go_wp2_with fail
      refine ⟨⟨3, HIT.out, HB2.out, .inr (.inr (.inr (.inl ⟨rfl, ?_, ?_⟩)))⟩, ?_⟩
      · first | exact congrArg Value.string (bytes_app _ [93]) | (refine (congrArg Value.string (bytes_app _ [93])).trans ?_; simp [str])
      · rfl
      · rw [hm]; simp only [World.iterPos, HIT.out]; omega
    · have hd : Utf8.decode ⟨#[91, 35, 93, 61, 35]⟩ 3 = (61, 1) := by decide +kernel
      have hnx : ∀ ty, (Instr.next (.pointer (some ⟨w.heap.size, 0, none⟩)) true ty).run Tryd.prog wr = .ok (.tuple #[.bool true, .int .i64 3, .int .i32 61]) (wr.iterAt w.heap.size ⟨#[91, 35, 93, 61, 35]⟩ 4) := fun ty => by
        have := Lib.run_next_any_at (P := Tryd.prog) wr w.heap.size ⟨#[91, 35, 93, 61, 35]⟩ 3 ty hit (by decide)
        rw [hd] at this
        exact this
      have hit2 := Lib.iterAt_heap wr w.heap.size ⟨#[91, 35, 93, 61, 35]⟩ 3 4 hit
      have hB2 := Lib.below_iterAt hB (k := w.heap.size) (Nat.le_refl _) ⟨#[91, 35, 93, 61, 35]⟩ 4
      have hsz : (wr.iterAt w.heap.size ⟨#[91, 35, 93, 61, 35]⟩ 4).heap.size = wr.heap.size := Lib.iterAt_size _ _ _ _
      have hm : wr.iterPos w.heap.size = 3 := by simp only [World.iterPos, hit]
      have hlen : ¬ (9223372036854775807 < ([91] ++ t0 ++ [93] : List UInt8).length + 1) := by simp; try omega
      have HB2 := Lib.hid hB2
      have HIT := Lib.hid hit2
      clear hB2 hit2 hd
      go_wp2_with fail
      refine ⟨⟨4, HIT.out, HB2.out, .inr (.inr (.inr (.inr (.inl ⟨rfl, ?_, ?_⟩))))⟩, ?_⟩
      · first | exact congrArg Value.string (bytes_app _ [61]) | (refine (congrArg Value.string (bytes_app _ [61])).trans ?_; simp [str])
      · rfl
      · rw [hm]; simp only [World.iterPos, HIT.out]; omega
    · have hd : Utf8.decode ⟨#[91, 35, 93, 61, 35]⟩ 4 = (35, 1) := by decide +kernel
      have hnx : ∀ ty, (Instr.next (.pointer (some ⟨w.heap.size, 0, none⟩)) true ty).run Tryd.prog wr = .ok (.tuple #[.bool true, .int .i64 4, .int .i32 35]) (wr.iterAt w.heap.size ⟨#[91, 35, 93, 61, 35]⟩ 5) := fun ty => by
        have := Lib.run_next_any_at (P := Tryd.prog) wr w.heap.size ⟨#[91, 35, 93, 61, 35]⟩ 4 ty hit (by decide)
        rw [hd] at this
        exact this
      have hit2 := Lib.iterAt_heap wr w.heap.size ⟨#[91, 35, 93, 61, 35]⟩ 4 5 hit
      have hB2 := Lib.below_iterAt hB (k := w.heap.size) (Nat.le_refl _) ⟨#[91, 35, 93, 61, 35]⟩ 5
      have hsz : (wr.iterAt w.heap.size ⟨#[91, 35, 93, 61, 35]⟩ 5).heap.size = wr.heap.size := Lib.iterAt_size _ _ _ _
      have hm : wr.iterPos w.heap.size = 4 := by simp only [World.iterPos, hit]
      have hc := HC1.out _ hB2
      have hlen : ¬ (9223372036854775807 < ([91] ++ t0 ++ [93] ++ [61] : List UInt8).length + t1.length) := by simp; omega
      have HB2 := Lib.hid hB2
      have HIT := Lib.hid hit2
      clear hB2 hit2 hd
      go_wp2_with fail
      refine (HI1.out _ HB2.out).mono ?_
      rintro e w5 ⟨rfl, hb5⟩
      have hB5 := HB2.out.trans (hb5.mono (by rw [hsz]; omega))
      have hit5 : w5.heap[w.heap.size]? = some (.stringIter ⟨#[91, 35, 93, 61, 35]⟩ 5) := (hb5.block _ (by rw [hsz]; exact hlt)).trans HIT.out
      go_wp2_with fail
      refine ⟨⟨5, hit5, hB5, .inr (.inr (.inr (.inr (.inr (⟨rfl, ?_, ?_⟩)))))⟩, ?_⟩
      · first | exact congrArg Value.string (bytes_app _ _) | (refine (congrArg Value.string (bytes_app _ _)).trans ?_; simp [str])
      · rfl
      · rw [hm]; simp only [World.iterPos, hit5]; omega
    · have hnx : ∀ ty, (Instr.next (.pointer (some ⟨w.heap.size, 0, none⟩)) true ty).run Tryd.prog wr = .ok (.tuple #[.bool false]) wr := fun ty => Lib.run_next_end_at wr w.heap.size _ 5 ty hit (by decide)
      go_wp2_with fail
      go_ret
      exact ⟨rfl, hB⟩
def atomTB (a : Ins) : Bool := knownB a && !strayB a && valB a.r && valB a.s && valB a.n
def atomTF (a : Ins) : List UInt8 := if atomTB a then (if a.o = 0 then Lib.itoa a.r ++ [58] ++ Lib.itoa a.s ++ [61] ++ Lib.itoa a.n else [91] ++ Lib.itoa a.s ++ [93] ++ [61] ++ Lib.itoa a.n) else []
theorem atomTF_len {a : Ins} (h : InsR a) : (atomTF a).length ≤ 62 := by
  unfold InsR Rng at h
  have h1 := digs_len (x := a.r) (by omega)
  have h2 := digs_len (x := a.s) (by omega)
  have h3 := digs_len (x := a.n) (by omega)
  unfold atomTF
  split
  · split
    · simp only [List.length_append, List.length_cons, List.length_nil]
      omega
    · simp only [List.length_append, List.length_cons, List.length_nil]
      omega
  · simp
theorem atomTF_ne {a : Ins} (h : atomTB a = true) : ∃ c L, atomTF a = c :: L := by
  unfold atomTF
  rw [if_pos h]
  split
  · cases hx : Lib.itoa a.r ++ [58] ++ Lib.itoa a.s ++ [61] ++ Lib.itoa a.n with
    | nil => simp at hx
    | cons c L => exact ⟨c, L, rfl⟩
  · exact ⟨91, _, rfl⟩
set_option maxHeartbeats 3200000 in
theorem impl_atomText (a : Ins) (w : World) (hR : InsR a) (ht : Tab w) :
    Calls Tryd.prog 73 #[(Value.agg #[.int .i64 a.o, .int .i64 a.r, .int .i64 a.s, .int .i64 a.n])] w fun e w' => e = .returned (str (atomTF a)) ∧ Below w.heap.size w w' := by
  have tRR : ∀ (v : Value) (W : World), (Instr.typeAssert (.iface 146 v) 142 146 true).run Tryd.prog W = .ok (.tuple #[v, .bool true]) W := fun _ _ => by kernel_rfl
  have tCR : ∀ (v : Value) (W : World), (Instr.typeAssert (.iface 149 v) 142 146 true).run Tryd.prog W = .ok (.tuple #[.agg #[.int .i64 0, .int .i64 0], .bool false]) W := fun _ _ => by kernel_rfl
  have tCC : ∀ (v : Value) (W : World), (Instr.typeAssert (.iface 149 v) 142 149 true).run Tryd.prog W = .ok (.tuple #[v, .bool true]) W := fun _ _ => by kernel_rfl
  have tNR : ∀ (W : World), (Instr.typeAssert .nilIface 142 146 true).run Tryd.prog W = .ok (.tuple #[.agg #[.int .i64 0, .int .i64 0], .bool false]) W := fun _ => by kernel_rfl
  have tNC : ∀ (W : World), (Instr.typeAssert .nilIface 142 149 true).run Tryd.prog W = .ok (.tuple #[.agg #[.int .i64 0], .bool false]) W := fun _ => by kernel_rfl
  obtain ⟨o, r, s, n⟩ := a
  unfold InsR Rng at hR
  simp only at hR
  have k0 := Bk.new w #[.int .i64 o, .int .i64 r, .int .i64 s, .int .i64 n] 100
  have hB0 := (Below.refl w.heap.size w).alloc (Nat.le_refl _) (.cells #[.int .i64 o, .int .i64 r, .int .i64 s, .int .i64 n] 100)
  have HP := Lib.hid (fun W : World => impl_placeOf ⟨o, r, s, n⟩ W)
  have hS := fun W : World => impl_stray ⟨o, r, s, n⟩ W
  have HB0 := Lib.hid hB0
  have HT := Lib.hid ht
  have hF : atomTB ⟨o, r, s, n⟩ = (knownB ⟨o, r, s, n⟩ && !strayB ⟨o, r, s, n⟩ && valB r && valB s && valB n) := rfl
  obtain ⟨c0, -⟩ := k0.at_ 0 (x := .int .i64 o) rfl
  obtain ⟨c1, -⟩ := k0.at_ 1 (x := .int .i64 r) rfl
  obtain ⟨c2, -⟩ := k0.at_ 2 (x := .int .i64 s) rfl
  obtain ⟨c3, -⟩ := k0.at_ 3 (x := .int .i64 n) rfl
  clear ht hB0
  cases hst : strayB ⟨o, r, s, n⟩
  case true =>
    have HF : Hid (atomTF ⟨o, r, s, n⟩ = []) := Lib.hid (by unfold atomTF; rw [hF, hst]; simp)
    rw [hst] at hS
    have HS := Lib.hid hS
    clear hS hst hF
    go_enter Tryd.func73, Tryd.ntmps73
    go_wp2_with fail
    refine (HS.out _).mono ?_
    rintro e w1 ⟨rfl, hb1⟩
    go_wp2_with fail
    go_ret
    exact ⟨by rw [HF.out]; rfl, HB0.out.trans (hb1.mono HB0.out.size)⟩
  case false =>
    rw [hst] at hS
    have HS := Lib.hid hS
    have HST := Lib.hid hst
    clear hS hst
    go_enter Tryd.func73, Tryd.ntmps73
    go_wp2_with fail
    refine (HS.out _).mono ?_
    rintro e w1 ⟨rfl, hb1⟩
    have k1 := k0.below hb1 k0.lt
    have HB1 := Lib.hid (HB0.out.trans (hb1.mono HB0.out.size))
    clear c0 c1 c2 c3 hb1
    obtain ⟨c0, -⟩ := k1.at_ 0 (x := .int .i64 o) rfl
    obtain ⟨c1, -⟩ := k1.at_ 1 (x := .int .i64 r) rfl
    obtain ⟨c2, -⟩ := k1.at_ 2 (x := .int .i64 s) rfl
    obtain ⟨c3, -⟩ := k1.at_ 3 (x := .int .i64 n) rfl
    cases hv1 : valB r
    · have HV1 : Hid (∀ W : World, Calls Tryd.prog 89 #[.int .i64 r] W fun e w' => e = .returned (.bool false) ∧ W = w') := Lib.hid fun W => by have hq := impl_valueOk r W; rw [hv1] at hq; exact hq
      have HF : Hid (atomTF ⟨o, r, s, n⟩ = []) := Lib.hid (by unfold atomTF; rw [hF, hv1]; simp)
      clear hv1 hF
      go_wp2_with (go_at_call 89; refine (HV1.out _).mono ?_; rintro e w' ⟨rfl, rfl⟩)
      go_ret
      exact ⟨by rw [HF.out]; rfl, HB1.out⟩
    · have HV1 : Hid (∀ W : World, Calls Tryd.prog 89 #[.int .i64 r] W fun e w' => e = .returned (.bool true) ∧ W = w') := Lib.hid fun W => by have hq := impl_valueOk r W; rw [hv1] at hq; exact hq
      cases hv2 : valB s
      · have HV2 : Hid (∀ W : World, Calls Tryd.prog 89 #[.int .i64 s] W fun e w' => e = .returned (.bool false) ∧ W = w') := Lib.hid fun W => by have hq := impl_valueOk s W; rw [hv2] at hq; exact hq
        have HF : Hid (atomTF ⟨o, r, s, n⟩ = []) := Lib.hid (by unfold atomTF; rw [hF, hv2]; simp)
        clear hv1 hv2 hF
        go_wp2_with (first | (go_at_call_of 89 (Value.int .i64 r : Value); refine (HV1.out _).mono ?_; rintro e w' ⟨rfl, rfl⟩) | (go_at_call_of 89 (Value.int .i64 s : Value); refine (HV2.out _).mono ?_; rintro e w' ⟨rfl, rfl⟩))
        go_ret
        exact ⟨by rw [HF.out]; rfl, HB1.out⟩
      · have HV2 : Hid (∀ W : World, Calls Tryd.prog 89 #[.int .i64 s] W fun e w' => e = .returned (.bool true) ∧ W = w') := Lib.hid fun W => by have hq := impl_valueOk s W; rw [hv2] at hq; exact hq
        cases hv3 : valB n
        · have HV3 : Hid (∀ W : World, Calls Tryd.prog 89 #[.int .i64 n] W fun e w' => e = .returned (.bool false) ∧ W = w') := Lib.hid fun W => by have hq := impl_valueOk n W; rw [hv3] at hq; exact hq
          have HF : Hid (atomTF ⟨o, r, s, n⟩ = []) := Lib.hid (by unfold atomTF; rw [hF, hv3]; simp)
          clear hv1 hv2 hv3 hF
          go_wp2_with (first | (go_at_call_of 89 (Value.int .i64 r : Value); refine (HV1.out _).mono ?_; rintro e w' ⟨rfl, rfl⟩) | (go_at_call_of 89 (Value.int .i64 s : Value); refine (HV2.out _).mono ?_; rintro e w' ⟨rfl, rfl⟩) | (go_at_call_of 89 (Value.int .i64 n : Value); refine (HV3.out _).mono ?_; rintro e w' ⟨rfl, rfl⟩))
          go_ret
          exact ⟨by rw [HF.out]; rfl, HB1.out⟩
        · have HV3 : Hid (∀ W : World, Calls Tryd.prog 89 #[.int .i64 n] W fun e w' => e = .returned (.bool true) ∧ W = w') := Lib.hid fun W => by have hq := impl_valueOk n W; rw [hv3] at hq; exact hq
          have hF2 : atomTB ⟨o, r, s, n⟩ = knownB ⟨o, r, s, n⟩ := by rw [hF, HST.out, hv1, hv2, hv3]; simp
          clear hv1 hv2 hv3 hF
          by_cases h0 : o = 0
          · have HF : Hid (atomTF ⟨o, r, s, n⟩ = Lib.itoa r ++ [58] ++ Lib.itoa s ++ [61] ++ Lib.itoa n) := Lib.hid (by unfold atomTF; rw [hF2, if_pos (by simp [knownB, h0]), if_pos h0])
            have HPV : Hid (placeV ⟨o, r, s, n⟩ = .iface 146 (.agg #[.int .i64 r, .int .i64 s])) := Lib.hid (by simp [placeV, h0])
            clear h0 hF2
            go_wp2_with (first | (go_at_call_of 89 (Value.int .i64 r : Value); refine (HV1.out _).mono ?_; rintro e w' ⟨rfl, rfl⟩) | (go_at_call_of 89 (Value.int .i64 s : Value); refine (HV2.out _).mono ?_; rintro e w' ⟨rfl, rfl⟩) | (go_at_call_of 89 (Value.int .i64 n : Value); refine (HV3.out _).mono ?_; rintro e w' ⟨rfl, rfl⟩))
            refine (HP.out _).mono ?_
            rintro e w2 ⟨rfl, hb2⟩
            rw [HPV.out]
            have k2 := (k1.below hb2 k1.lt).alloc (.cells #[.int .i64 r, .int .i64 s] 146)
            have kr := Bk.new w2 #[.int .i64 r, .int .i64 s] 146
            have kq := Bk.new (w2.alloc (.cells #[.int .i64 r, .int .i64 s] 146)) #[.int .i64 r, .int .i64 s, .int .i64 n] 3
            have hB2 := ((HB1.out.trans (hb2.mono HB1.out.size)).alloc (HB1.out.trans (hb2.mono HB1.out.size)).size (.cells #[.int .i64 r, .int .i64 s] 146))
            have hB3 := hB2.alloc hB2.size (.cells #[.int .i64 r, .int .i64 s, .int .i64 n] 3)
            clear c0 c1 c2 c3
            obtain ⟨c3, -⟩ := k2.at_ 3 (x := .int .i64 n) rfl
            obtain ⟨d0, -⟩ := kr.at_ 0 (x := .int .i64 r) rfl
            obtain ⟨d1, -⟩ := kr.at_ 1 (x := .int .i64 s) rfl
            have HFL := Lib.hid (fill_reg _ r s n _ kq.lt (kq.at_ 0 rfl).1 (kq.at_ 1 rfl).1 (kq.at_ 2 rfl).1 (by omega) (by omega) (by omega) (HT.out.below hB3 (Nat.le_refl _)))
            have HB3 := Lib.hid hB3
            clear k2 kr kq hB2 hB3 hb2
            go_wp2_with fail
            simp only [World.size_alloc] at HFL
            refine HFL.out.mono ?_
            rintro e w5 ⟨rfl, hb5⟩
            go_wp2_with fail
            go_ret
            exact ⟨(show Ending.returned (str (Lib.itoa r ++ 58 :: (Lib.itoa s ++ 61 :: Lib.itoa n))) = _ from by rw [HF.out]; simp), HB3.out.trans (hb5.mono (by have := HB3.out.size; simpa using this))⟩
          · by_cases h1 : o = 1
            · have HF : Hid (atomTF ⟨o, r, s, n⟩ = [91] ++ Lib.itoa s ++ [93] ++ [61] ++ Lib.itoa n) := Lib.hid (by unfold atomTF; rw [hF2, if_pos (by simp [knownB, h1]), if_neg h0])
              have HPV : Hid (placeV ⟨o, r, s, n⟩ = .iface 149 (.agg #[.int .i64 s])) := Lib.hid (by simp [placeV, h1])
              clear h0 h1 hF2
              go_wp2_with (first | (go_at_call_of 89 (Value.int .i64 r : Value); refine (HV1.out _).mono ?_; rintro e w' ⟨rfl, rfl⟩) | (go_at_call_of 89 (Value.int .i64 s : Value); refine (HV2.out _).mono ?_; rintro e w' ⟨rfl, rfl⟩) | (go_at_call_of 89 (Value.int .i64 n : Value); refine (HV3.out _).mono ?_; rintro e w' ⟨rfl, rfl⟩))
              refine (HP.out _).mono ?_
              rintro e w2 ⟨rfl, hb2⟩
              rw [HPV.out]
              have k2 := (k1.below hb2 k1.lt).alloc (.cells #[.int .i64 s] 149)
              have kr := Bk.new w2 #[.int .i64 s] 149
              have kq := Bk.new (w2.alloc (.cells #[.int .i64 s] 149)) #[.int .i64 s, .int .i64 n] 3
              have hB2 := ((HB1.out.trans (hb2.mono HB1.out.size)).alloc (HB1.out.trans (hb2.mono HB1.out.size)).size (.cells #[.int .i64 s] 149))
              have hB3 := hB2.alloc hB2.size (.cells #[.int .i64 s, .int .i64 n] 3)
              clear c0 c1 c2 c3
              obtain ⟨c3, -⟩ := k2.at_ 3 (x := .int .i64 n) rfl
              obtain ⟨d0, -⟩ := kr.at_ 0 (x := .int .i64 s) rfl
              have HFL := Lib.hid (fill_cell _ s n _ kq.lt (kq.at_ 0 rfl).1 (kq.at_ 1 rfl).1 (by omega) (by omega) (HT.out.below hB3 (Nat.le_refl _)))
              have HB3 := Lib.hid hB3
              clear k2 kr kq hB2 hB3 hb2
              go_wp2_with fail
              simp only [World.size_alloc] at HFL
              refine HFL.out.mono ?_
              rintro e w5 ⟨rfl, hb5⟩
              go_wp2_with fail
              go_ret
              exact ⟨(show Ending.returned (str (91 :: (Lib.itoa s ++ 93 :: 61 :: Lib.itoa n))) = _ from by rw [HF.out]; simp), HB3.out.trans (hb5.mono (by have := HB3.out.size; simpa using this))⟩
            · have HF : Hid (atomTF ⟨o, r, s, n⟩ = []) := Lib.hid (by unfold atomTF; rw [hF2]; simp [knownB, h0, h1])
              have HPV : Hid (placeV ⟨o, r, s, n⟩ = .nilIface) := Lib.hid (by simp [placeV, h0, h1])
              clear h0 h1 hF2
              go_wp2_with (first | (go_at_call_of 89 (Value.int .i64 r : Value); refine (HV1.out _).mono ?_; rintro e w' ⟨rfl, rfl⟩) | (go_at_call_of 89 (Value.int .i64 s : Value); refine (HV2.out _).mono ?_; rintro e w' ⟨rfl, rfl⟩) | (go_at_call_of 89 (Value.int .i64 n : Value); refine (HV3.out _).mono ?_; rintro e w' ⟨rfl, rfl⟩))
              refine (HP.out _).mono ?_
              rintro e w2 ⟨rfl, hb2⟩
              rw [HPV.out]
              go_wp2_with fail
              go_ret
              exact ⟨by rw [HF.out]; rfl, HB1.out.trans (hb2.mono HB1.out.size)⟩
end Go.Proofs.YtiflooopfpcelacDoor
