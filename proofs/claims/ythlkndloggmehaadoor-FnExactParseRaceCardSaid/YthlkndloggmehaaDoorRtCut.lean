/-
  The pieces of a text at a mark: plain facts.
-/
import Derived.Test.YthlkndloggmehaaDoorChSplit
import Derived.Lib.Join
namespace Go.Proofs.YthlkndloggmehaaDoor
open Go.RowKit
set_option linter.unusedVariables false
set_option linter.unusedSimpArgs false

def pieces (s : ByteArray) (b : UInt8) : List ByteArray := cutS s b s.size 0
def rdS (s : ByteArray) (b : UInt8) (k : Nat) : Int := readL ((pieces s b).getD k ⟨#[]⟩).data.toList
theorem cut_size (s : ByteArray) (b : UInt8) : ∀ n f, ∀ p ∈ cutS s b n f, p.size ≤ s.size
  | 0, f, p, hp => by
    simp only [cutS, List.mem_singleton] at hp; subst hp; rw [ByteArray.size_extract]; omega
  | n + 1, f, p, hp => by
    unfold cutS at hp
    split at hp
    · rcases List.mem_cons.1 hp with rfl | h
      · rw [ByteArray.size_extract]; omega
      · exact cut_size s b n _ p h
    · exact cut_size s b n _ p hp
theorem cut_len (s : ByteArray) (b : UInt8) : ∀ n f, (cutS s b n f).length ≤ n + 1
  | 0, f => by simp [cutS]
  | n + 1, f => by
    unfold cutS
    split
    · have := cut_len s b n (s.size - (n + 1) + 1); simp; omega
    · have := cut_len s b n f; omega

/-! The pieces with the mark between them are the text. -/
theorem get_at (s : ByteArray) (k : Nat) (h : k < s.size) : s.data.toList[k]? = some s[k] := by
  rw [List.getElem?_eq_getElem (by simpa using h)]; rfl
theorem extract_list (s : ByteArray) (f t : Nat) : (s.extract f t).data.toList = (s.data.toList.drop f).take (t - f) := by
  simp [ByteArray.data_extract, Array.toList_extract, List.take_drop]
  try rfl
theorem cutS_join (s : ByteArray) (b : UInt8) : ∀ n f, n ≤ s.size → f ≤ s.size - n → Lib.join ((cutS s b n f).map (fun p => p.data.toList)) [b] = s.data.toList.drop f
  | 0, f, _, hf => by
    simp only [cutS, List.map_cons, List.map_nil, Lib.join_one, extract_list]
    rw [List.take_of_length_le (by simp)]
  | n + 1, f, hn, hf => by
    unfold cutS
    have hne : ∀ m g, cutS s b m g ≠ [] := by
      intro m
      induction m with
      | zero => intro g; simp [cutS]
      | succ m ih => intro g; unfold cutS; split <;> simp [ih]
    split
    · rename_i hb
      have hk : s.size - (n + 1) < s.size := by omega
      have ih := cutS_join s b n (s.size - (n + 1) + 1) (by omega) (by omega)
      rw [List.map_cons, Lib.join_cons]
      have hj : Lib.joinTail [b] ((cutS s b n (s.size - (n + 1) + 1)).map (fun p => p.data.toList)) = [b] ++ Lib.join ((cutS s b n (s.size - (n + 1) + 1)).map (fun p => p.data.toList)) [b] := by
        cases hc : cutS s b n (s.size - (n + 1) + 1) with
        | nil => exact absurd hc (hne _ _)
        | cons x r => rw [List.map_cons, Lib.join_cons]; simp [Lib.joinTail]
      rw [hj, ih, extract_list]
      have h1 : s.data.toList.drop f = (s.data.toList.drop f).take (s.size - (n + 1) - f) ++ (s.data.toList.drop f).drop (s.size - (n + 1) - f) := (List.take_append_drop _ _).symm
      rw [h1]
      congr 1
      · rw [List.take_append_of_le_length (by simp; omega), List.take_take]; simp
      · rw [List.drop_drop, show f + (s.size - (n + 1) - f) = s.size - (n + 1) by omega]
        rw [List.drop_eq_getElem_cons (show s.size - (n + 1) < s.data.toList.length by simpa using hk)]
        rw [List.getElem?_eq_getElem (by simpa using hk)] at hb
        rw [Option.some.inj hb]; rfl
    · exact cutS_join s b n f (by omega) (by omega)

theorem ofList_eq (s : ByteArray) (l : List UInt8) (h : s.data.toList = l) : s = ⟨l.toArray⟩ := by
  obtain ⟨⟨d⟩⟩ := s
  simp at h; subst h; rfl

end Go.Proofs.YthlkndloggmehaaDoor
