/- A text parted at each byte of one kind, the model's way (l01Parts). -/
import Derived.Test.YtgbgjlmkmlhefaaGreatDoorR1
namespace Go.Proofs.YtgbgjlmkmlhefaaGreatDoor
set_option maxRecDepth 20000
set_option linter.unusedSimpArgs false
set_option linter.unusedVariables false
open Go.ChangeShapes Go.WideShapes Go.ChangeAt Go.RowKit
set_option linter.unusedVariables false
def partsF (c : UInt8) : List UInt8 → List (List UInt8)
  | [] => [[]]
  | b :: r => if b = c then [] :: partsF c r else match partsF c r with
    | p :: ps => (b :: p) :: ps
    | [] => [[b]]
theorem partsF_ne (c : UInt8) (s : List UInt8) : partsF c s ≠ [] := by
  cases s with
  | nil => simp [partsF]
  | cons b r =>
    unfold partsF
    split
    · simp
    · split <;> simp
theorem partsF_hit (c : UInt8) : ∀ (p r : List UInt8), (∀ b ∈ p, b ≠ c) → partsF c (p ++ c :: r) = p :: partsF c r
  | [], r, _ => by simp [partsF]
  | b :: p, r, h => by
    have hb : b ≠ c := h b (by simp)
    rw [List.cons_append, partsF, if_neg hb, partsF_hit c p r (fun x hx => h x (by simp [hx]))]
theorem partsF_miss (c : UInt8) : ∀ (p : List UInt8), (∀ b ∈ p, b ≠ c) → partsF c p = [p]
  | [], _ => by simp [partsF]
  | b :: p, h => by
    have hb : b ≠ c := h b (by simp)
    rw [partsF, if_neg hb, partsF_miss c p (fun x hx => h x (by simp [hx]))]
theorem partsF_len (c : UInt8) : ∀ (s : List UInt8), (partsF c s).length ≤ s.length + 1
  | [] => by simp [partsF]
  | b :: r => by
    have ih := partsF_len c r
    unfold partsF
    split
    · simpa using ih
    · split
      · rename_i h
        rw [h] at ih
        simp at ih ⊢
        omega
      · simp
def strs (L : List (List UInt8)) : List Value := L.map str
theorem strs_snoc (L : List (List UInt8)) (p : List UInt8) : strs L ++ [str p] = strs (L ++ [p]) := by simp [strs]
theorem ext_piece (s : List UInt8) (a k : Nat) : (⟨s.toArray⟩ : ByteArray).extract a k = ⟨((s.take k).drop a).toArray⟩ := by
  apply ByteArray.ext
  rw [ByteArray.data_extract]
  apply Array.ext'
  simp [List.drop_take]
/-- the loop's state: 'a' is where the part begins, no byte of it so far parts -/
def PState (c : UInt8) (s : List UInt8) (k a : Nat) (L : List (List UInt8)) : Prop :=
  (k ≤ s.length ∧ a ≤ k ∧ L.length ≤ k ∧ (∀ b ∈ (s.take k).drop a, b ≠ c) ∧ L ++ partsF c (s.drop a) = partsF c s) ∨ (k = s.length + 1 ∧ L = partsF c s)
theorem split_at {s : List UInt8} {a k : Nat} (h : a ≤ k) : s.drop a = (s.take k).drop a ++ s.drop k := by
  have e : s.drop a = (s.take k ++ s.drop k).drop a := by rw [List.take_append_drop]
  rw [e]
  by_cases hk : k ≤ s.length
  · rw [List.drop_append_of_le_length (by rw [List.length_take]; omega)]
  · rw [List.take_of_length_le (by omega), List.drop_eq_nil_of_le (by omega : s.length ≤ k)]
    simp
theorem PState.hit {c : UInt8} {s : List UInt8} {k a : Nat} {L : List (List UInt8)} (hk : k < s.length) (ha : a ≤ k) (hn : ∀ b ∈ (s.take k).drop a, b ≠ c) (hp : L ++ partsF c (s.drop a) = partsF c s) (hL : L.length ≤ k) (hc : s[k]? = some c) :
    PState c s (k + 1) (k + 1) (L ++ [(s.take k).drop a]) := by
  refine .inl ⟨by omega, Nat.le_refl _, by simp; omega, by simp, ?_⟩
  obtain ⟨hk', he⟩ := List.getElem?_eq_some_iff.1 hc
  rw [split_at ha, List.drop_eq_getElem_cons hk', he, partsF_hit c _ _ hn] at hp
  rw [List.append_assoc]
  exact hp
theorem PState.miss {c b : UInt8} {s : List UInt8} {k a : Nat} {L : List (List UInt8)} (hk : k < s.length) (ha : a ≤ k) (hn : ∀ b ∈ (s.take k).drop a, b ≠ c) (hp : L ++ partsF c (s.drop a) = partsF c s) (hL : L.length ≤ k) (hc : s[k]? = some b) (hb : b ≠ c) :
    PState c s (k + 1) a L := by
  refine .inl ⟨by omega, by omega, by omega, ?_, hp⟩
  rw [List.take_add_one, hc, List.drop_append_of_le_length (by rw [List.length_take]; omega)]
  intro x hx
  rcases List.mem_append.1 hx with h | h
  · exact hn x h
  · simp at h
    rw [h]
    exact hb
theorem PState.last {c : UInt8} {s : List UInt8} {a : Nat} {L : List (List UInt8)} (ha : a ≤ s.length) (hn : ∀ b ∈ (s.take s.length).drop a, b ≠ c) (hp : L ++ partsF c (s.drop a) = partsF c s) (x : Nat) :
    PState c s (s.length + 1) x (L ++ [(s.take s.length).drop a]) := by
  refine .inr ⟨rfl, ?_⟩
  rw [split_at ha, List.drop_length, List.append_nil, partsF_miss c _ hn] at hp
  exact hp
set_option maxRecDepth 20000 in
set_option maxHeartbeats 1000000 in
theorem l01PartsO (s : List UInt8) (c : UInt8) (w : World) (hs : s.length ≤ 1048576) :
    Calls Tryz.prog 65 #[str s, .int .u8 c.toNat] w fun e w' => ∃ v', e = .returned v' ∧ w'.ownsRow w.heap.size 9 1 v' (partsF c s).length (strs (partsF c s)) ∧ Below w.heap.size w w' := by
  obtain ⟨i, hi, hiz0, hiz1, hiz2⟩ := info_parts infoStr
  have hsz : (⟨s.toArray⟩ : ByteArray).size = s.length := by show s.toArray.size = _; simp
  go_enter Tryz.func65, Tryz.ntmps65
  go_wp2_with fail
  go_loopw [5, 6, 7] (fun v at' i wr => ∃ (k a : Nat) (L : List (List UInt8)) (n : Nat), i = .int .i64 k ∧ at' = .int .i64 a ∧ k ≤ s.length + 1 ∧ a ≤ s.length + 1 ∧ n ≤ s.length + 1 ∧ Hid (n = L.length ∧ PState c s k a L) ∧ wr.ownsRow w.heap.size 9 1 v n (strs L) ∧ Below w.heap.size w wr) (fun _ _ i _ => s.length + 1 - (intOf i).toNat)
  case atStart => exact ⟨0, 0, [], 0, rfl, rfl, by omega, by omega, by omega, Lib.hid ⟨rfl, .inl ⟨by omega, by omega, by simp, by simp, by simp⟩⟩, World.ownsRow_lit w #[] 0 (Nat.le_refl _) (by simp [maxLen]) rfl, (Below.refl _ _).alloc (Nat.le_refl _) _⟩
  case round =>
    obtain ⟨k, a, L, n, rfl, rfl, hk, ha, hn, HP, hO, hB⟩ := hrel
    by_cases hend : k = s.length + 1
    · go_wp2_with fail
      go_ret
      obtain ⟨hn', hP⟩ := HP.out
      rcases hP with ⟨h, -⟩ | ⟨-, hP⟩
      · omega
      · rw [hn', hP] at hO
        exact ⟨_, rfl, hO, hB⟩
    · obtain ⟨ha', HS⟩ : a ≤ k ∧ Hid (n = L.length ∧ L.length ≤ k ∧ (∀ b ∈ (s.take k).drop a, b ≠ c) ∧ L ++ partsF c (s.drop a) = partsF c s) := by
        obtain ⟨hn', hP⟩ := HP.out
        rcases hP with ⟨h, h1, h2, h3, h4⟩ | ⟨h, -⟩
        · exact ⟨h1, Lib.hid ⟨hn', h2, h3, h4⟩⟩
        · omega
      clear HP
      have hk' : k ≤ s.length := by omega
      by_cases hlt : k < s.length
      · have hks : k < (⟨s.toArray⟩ : ByteArray).size := by rw [hsz]; exact hlt
        obtain ⟨b, hb⟩ : ∃ b, s[k]? = some b := ⟨s[k], List.getElem?_eq_getElem hlt⟩
        have hE : ((⟨s.toArray⟩ : ByteArray)[k]'hks) = b := by
          have h1 : s[k] = b := by rw [List.getElem?_eq_getElem hlt] at hb; injection hb
          rw [← h1]
          rfl
        by_cases hbc : b = c
        · have HH : Hid (PState c s (k + 1) (k + 1) (L ++ [(s.take k).drop a])) := Lib.hid (PState.hit hlt ha' HS.out.2.2.1 HS.out.2.2.2 HS.out.2.1 (hbc ▸ hb))
          have hq : ((((⟨s.toArray⟩ : ByteArray)[k]'hks).toNat : Int) == (c.toNat : Int)) = true := by rw [hE, hbc]; simp
          clear hb hE hbc
          go_wp2_with ((at_builtin; refine wpList_append_own _ rfl _ _ 65 rfl (w.heap.size) 9 i (.string ⟨#[]⟩) 1 16 Tryz.underlying65 hi hiz0 hiz1 hiz2 rfl (by decide) _ _ _ rfl (hO.alloc _) ⟨wr.heap.size, 0, none⟩ 1 1 [.string ((⟨s.toArray⟩ : ByteArray).extract a k)] rfl rfl ?c1 ?c2 ?c3 ?c4 ?c5 ?_))
          case c1 => exact new_cells _ _ _
          case c2 => simp [Value.oneCell']
          case c3 => unfold maxLen; omega
          case c4 => omega
          case c5 => have := hB.size; simp; omega
          intro v' w1 hown' hgrow _
          have hB' := (hB.alloc hB.size _).grown hgrow (by have := hB.size; simp; omega) (fun k hk => by have := (hO.lt k hk).1; omega)
          rw [ext_piece, strs_snoc] at hown'
          clear hgrow
          go_wp2_with fail
          exact ⟨⟨k + 1, k + 1, _, n + 1, by go_num, by go_num, by omega, by omega, by have := HS.out; omega, Lib.hid ⟨by simp [HS.out.1], HH.out⟩, hown', hB'⟩, by simp [intOf]; omega⟩
        · have HH : Hid (PState c s (k + 1) a L) := Lib.hid (PState.miss hlt ha' HS.out.2.2.1 HS.out.2.2.2 HS.out.2.1 hb hbc)
          have hq : ((((⟨s.toArray⟩ : ByteArray)[k]'hks).toNat : Int) == (c.toNat : Int)) = false := by
            rw [hE]
            simp only [beq_eq_false_iff_ne, ne_eq]
            intro h
            exact hbc (UInt8.toNat_inj.1 (Int.ofNat.inj h))
          clear hb hE hbc
          go_wp2_with fail
          exact ⟨⟨k + 1, a, L, n, by go_num, rfl, by omega, by omega, hn, Lib.hid ⟨HS.out.1, HH.out⟩, hO, hB⟩, by simp [intOf]; omega⟩
      · obtain rfl : k = s.length := by omega
        have HH : Hid (PState c s (s.length + 1) (s.length + 1) (L ++ [(s.take s.length).drop a])) := Lib.hid (PState.last ha' HS.out.2.2.1 HS.out.2.2.2 _)
        go_wp2_with ((at_builtin; refine wpList_append_own _ rfl _ _ 65 rfl (w.heap.size) 9 i (.string ⟨#[]⟩) 1 16 Tryz.underlying65 hi hiz0 hiz1 hiz2 rfl (by decide) _ _ _ rfl (hO.alloc _) ⟨wr.heap.size, 0, none⟩ 1 1 [.string ((⟨s.toArray⟩ : ByteArray).extract a s.length)] rfl rfl ?c1 ?c2 ?c3 ?c4 ?c5 ?_))
        case c1 => exact new_cells _ _ _
        case c2 => simp [Value.oneCell']
        case c3 => unfold maxLen; omega
        case c4 => omega
        case c5 => have := hB.size; simp; omega
        intro v' w1 hown' hgrow _
        have hB' := (hB.alloc hB.size _).grown hgrow (by have := hB.size; simp; omega) (fun k hk => by have := (hO.lt k hk).1; omega)
        rw [ext_piece, strs_snoc] at hown'
        clear hgrow
        go_wp2_with fail
        exact ⟨⟨s.length + 1, s.length + 1, _, n + 1, by go_num, by go_num, by omega, by omega, by have := HS.out; omega, Lib.hid ⟨by simp [HS.out.1], HH.out⟩, hown', hB'⟩, by simp [intOf]⟩
theorem l01Parts (s : List UInt8) (c : UInt8) (w : World) (hs : s.length ≤ 1048576) :
    Calls Tryz.prog 65 #[str s, .int .u8 c.toNat] w fun e w' => ∃ v' bs, e = .returned v' ∧ Own w' v' 1 (partsF c s).length (strs (partsF c s)) bs ∧ (∀ b ∈ bs, w.heap.size ≤ b) ∧ Below w.heap.size w w' :=
  (l01PartsO s c w hs).mono fun e w' ⟨v, h1, h2, h3⟩ => by
    obtain ⟨bs, h4, h5⟩ := Own.of_owns h2
    exact ⟨v, bs, h1, h4, h5, h3⟩
end Go.Proofs.YtgbgjlmkmlhefaaGreatDoor
