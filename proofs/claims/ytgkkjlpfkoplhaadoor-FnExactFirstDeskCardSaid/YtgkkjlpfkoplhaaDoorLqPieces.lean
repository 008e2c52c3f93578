/-
  The pieces of a text at a mark: the library's way and the model's are the same.
-/
import Derived.Test.YtgkkjlpfkoplhaaDoorLqSplit
import Derived.Lib.Split
import Derived.Lib.CountLaws
namespace Go.Proofs.YtgkkjlpfkoplhaaDoor
open Go.RowKit
set_option linter.unusedVariables false
set_option linter.unusedSimpArgs false

--BEGIN
/-- The pieces, byte by byte. -/
def cutL (b : UInt8) : List UInt8 → List (List UInt8)
  | [] => [[]]
  | c :: r => if c = b then [] :: cutL b r else match cutL b r with
    | [] => [[c]]
    | p :: ps => (c :: p) :: ps
theorem cutL_ne (b : UInt8) (l : List UInt8) : cutL b l ≠ [] := by
  cases l with
  | nil => simp [cutL]
  | cons c r => unfold cutL; split; · simp
                · split <;> simp
theorem cutL_hit (b : UInt8) (r : List UInt8) : cutL b (b :: r) = [] :: cutL b r := by rw [cutL, if_pos rfl]
theorem cutL_miss {b c : UInt8} (h : c ≠ b) {r p : List UInt8} {ps : List (List UInt8)} (e : cutL b r = p :: ps) : cutL b (c :: r) = (c :: p) :: ps := by rw [cutL, if_neg h, e]
theorem index_one (b c : UInt8) (l : List UInt8) : Lib.index (c :: l) [b] = if c = b then 0 else if Lib.index l [b] = -1 then -1 else Lib.index l [b] + 1 := by
  rw [Lib.index]
  by_cases h : c = b
  · rw [if_pos h, if_pos (by subst h; simp [List.isPrefixOf])]
  · rw [if_neg h, if_neg (by simp [List.isPrefixOf]; exact fun e => h e.symm)]
    by_cases h2 : Lib.index l [b] = -1
    · rw [if_pos h2, h2]; rfl
    · rw [if_neg h2, if_neg (by simpa using h2)]
theorem split_cutL (b : UInt8) : ∀ l : List UInt8, Lib.splitK [b] 0 (Lib.count l [b]) l = cutL b l
  | [] => by
    have h : Lib.index [] [b] = -1 := rfl
    rw [Lib.count_miss h]; rfl
  | c :: l => by
    have ih := split_cutL b l
    have hne : ([b] : List UInt8) ≠ [] := by simp
    by_cases h : c = b
    · subst h
      have h0 : Lib.index (c :: l) [c] = ((0 : Nat) : Int) := by rw [index_one, if_pos rfl]; rfl
      rw [Lib.count_hit hne h0, cutL_hit, Nat.add_comm]
      show Lib.splitK [c] 0 (Lib.count ((c :: l).drop (0 + [c].length)) [c] + 1) (c :: l) = _
      rw [Lib.splitK, if_neg (by rw [h0]; decide), h0]
      simp only [List.length_singleton]
      exact congrArg ([] :: ·) ih
    · rcases Int.lt_or_le (Lib.index l [b]) 0 with hi | hi
      · have hm : Lib.index l [b] = -1 := by have := Lib.index_ge l [b]; omega
        have h0 : Lib.index (c :: l) [b] = -1 := by rw [index_one, if_neg h, if_pos hm]
        rw [Lib.count_miss h0]
        rw [Lib.count_miss hm] at ih
        rw [cutL_miss h (show cutL b l = l :: [] from ih.symm)]; rfl
      · obtain ⟨i, hh⟩ : ∃ i : Nat, Lib.index l [b] = i := ⟨(Lib.index l [b]).toNat, by omega⟩
        have h0 : Lib.index (c :: l) [b] = ((i + 1 : Nat) : Int) := by rw [index_one, if_neg h, if_neg (by omega), hh]; rfl
        rw [Lib.count_hit hne h0]
        rw [Lib.count_hit hne hh] at ih
        simp only [List.length_singleton] at ih ⊢
        rw [show (c :: l).drop (i + 1 + 1) = l.drop (i + 1) from rfl, Nat.add_comm]
        rw [Nat.add_comm] at ih
        rw [Lib.splitK, if_neg (by rw [hh]; simp), hh] at ih
        rw [Lib.splitK, if_neg (by rw [h0]; simp; omega), h0]
        simp only [List.length_singleton, Int.toNat_natCast, Nat.add_zero] at ih ⊢
        rw [cutL_miss h ih.symm]; rfl

theorem ofL_data (l : List UInt8) : (⟨l.toArray⟩ : ByteArray).data.toList = l := by simp
theorem arr_eq (s t : ByteArray) (h : s.data.toList = t.data.toList) : s = t := by
  obtain ⟨⟨a⟩⟩ := s; obtain ⟨⟨b⟩⟩ := t
  simp at h; subst h; rfl
theorem arrs_eq : ∀ xs ys : List ByteArray, xs.map (fun p => p.data.toList) = ys.map (fun p => p.data.toList) → xs = ys
  | [], [], _ => rfl
  | [], y :: ys, h => by simp at h
  | x :: xs, [], h => by simp at h
  | x :: xs, y :: ys, h => by
    simp only [List.map_cons, List.cons.injEq] at h
    rw [arr_eq x y h.1, arrs_eq xs ys h.2]
theorem extr_list (s : ByteArray) (f t : Nat) : (s.extract f t).data.toList = (s.data.toList.drop f).take (t - f) := by
  simp [ByteArray.data_extract, Array.toList_extract, List.take_drop]
  try rfl
theorem cutL_app {b : UInt8} : ∀ (p r : List UInt8), b ∉ p → cutL b (p ++ b :: r) = p :: cutL b r
  | [], r, _ => cutL_hit b r
  | c :: p, r, h => by
    have hc : c ≠ b := fun e => h (by rw [e]; exact List.mem_cons_self ..)
    rw [List.cons_append, cutL_miss hc (cutL_app p r (fun hm => h (List.mem_cons_of_mem _ hm)))]
theorem cutL_one {b : UInt8} : ∀ (p : List UInt8), b ∉ p → cutL b p = [p]
  | [], _ => rfl
  | c :: p, h => by
    have hc : c ≠ b := fun e => h (by rw [e]; exact List.mem_cons_self ..)
    rw [cutL_miss hc (cutL_one p (fun hm => h (List.mem_cons_of_mem _ hm)))]
theorem cutS_cutL (s : ByteArray) (b : UInt8) : ∀ n f, n ≤ s.size → f ≤ s.size - n → b ∉ (s.data.toList.drop f).take (s.size - n - f) → (cutS s b n f).map (fun p => p.data.toList) = cutL b (s.data.toList.drop f)
  | 0, f, _, hf, hb => by
    simp only [cutS, List.map_cons, List.map_nil, extr_list]
    rw [Nat.sub_zero] at hb
    have e : (s.data.toList.drop f).take (s.size - f) = s.data.toList.drop f := List.take_of_length_le (by simp)
    rw [e] at hb ⊢
    rw [cutL_one _ hb]
  | n + 1, f, hn, hf, hb => by
    have hk : s.size - (n + 1) < s.size := by omega
    have hget : s.data.toList[s.size - (n + 1)]? = some (s.data.toList[s.size - (n + 1)]'(by simpa using hk)) := List.getElem?_eq_getElem (by simpa using hk)
    have hsplit : s.data.toList.drop f = (s.data.toList.drop f).take (s.size - (n + 1) - f) ++ (s.data.toList[s.size - (n + 1)]'(by simpa using hk)) :: s.data.toList.drop (s.size - (n + 1) + 1) := by
      have h1 := (List.take_append_drop (s.size - (n + 1) - f) (s.data.toList.drop f)).symm
      rw [List.drop_drop, show f + (s.size - (n + 1) - f) = s.size - (n + 1) by omega, List.drop_eq_getElem_cons (l := s.data.toList) (i := s.size - (n + 1)) (by simpa using hk)] at h1
      exact h1
    have htake : (s.data.toList.drop f).take (s.size - n - f) = (s.data.toList.drop f).take (s.size - (n + 1) - f) ++ [s.data.toList[s.size - (n + 1)]'(by simpa using hk)] := by
      have h2 := congrArg (List.take (s.size - n - f)) hsplit
      rw [List.take_append, List.take_take] at h2
      have hl : ((s.data.toList.drop f).take (s.size - (n + 1) - f)).length = s.size - (n + 1) - f := by simp; omega
      rw [hl, show s.size - n - f - (s.size - (n + 1) - f) = 1 by omega, show min (s.size - n - f) (s.size - (n + 1) - f) = s.size - (n + 1) - f by omega] at h2
      rw [h2]; simp
    unfold cutS
    by_cases hc : s.data.toList[s.size - (n + 1)]'(by simpa using hk) = b
    · rw [if_pos (by rw [hget, hc]), List.map_cons, cutS_cutL s b n _ (by omega) (by omega) (by rw [show s.size - n - (s.size - (n + 1) + 1) = 0 by omega]; simp), extr_list, hsplit, hc]
      rw [List.take_append_of_le_length (by simp; omega), List.take_take, Nat.min_self]
      exact (cutL_app _ _ hb).symm
    · rw [if_neg (by rw [hget]; exact fun e => hc (Option.some.inj e))]
      exact cutS_cutL s b n f (by omega) (by omega) (by rw [htake]; intro hm; rcases List.mem_append.1 hm with h | h; · exact hb h
                                                        · exact hc (List.mem_singleton.1 h).symm)

theorem pieces_same (s : ByteArray) (b : UInt8) : Lib.splitB ⟨#[b]⟩ 0 (Lib.countB s ⟨#[b]⟩) s = cutS s b s.size 0 := by
  apply arrs_eq
  have h1 := Lib.splitB_data ⟨#[b]⟩ 0 (Lib.countB s ⟨#[b]⟩) s
  rw [h1]
  have h2 := cutS_cutL s b s.size 0 (Nat.le_refl _) (by omega) (by simp)
  rw [h2, List.drop_zero]
  exact split_cutL b s.data.toList
--END
end Go.Proofs.YtgkkjlpfkoplhaaDoor
