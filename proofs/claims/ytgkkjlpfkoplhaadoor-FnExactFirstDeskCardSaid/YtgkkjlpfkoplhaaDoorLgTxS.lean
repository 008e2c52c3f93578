/-
  Leagues as texts: plain facts, and the model.
-/
import Derived.Test.YtgkkjlpfkoplhaaDoorLgGood
import Derived.Test.YtgkkjlpfkoplhaaDoorLgIs
import Derived.Test.YtgkkjlpfkoplhaaDoorText
import Derived.Test.YtgkkjlpfkoplhaaDoorShelf
import Derived.Lib.Join
import Derived.Deep.RegionHeld3
import Derived.Deep.QuietTactic
namespace Go.Proofs.YtgkkjlpfkoplhaaDoor
open Go.RowKit
set_option linter.unusedVariables false
set_option linter.unusedSimpArgs false

def txN (a b c d : Nat) : List UInt8 := (((((numF 1 a ++ [45]) ++ numF 1 b) ++ [61]) ++ numF 1 c) ++ [58]) ++ numF 1 d
def txR (r : Rs) : List UInt8 := txN r.1.toNat r.2.1.toNat r.2.2.1.toNat r.2.2.2.toNat
def headT (t wn : Int) : List UInt8 := ((numF 1 t.toNat ++ [119]) ++ numF 1 wn.toNat) ++ [124]
def rowsT (l : List Rs) : List UInt8 := Lib.join (l.map txR) [44]
def lgTV (t wn : Int) (l : List Rs) : ByteArray := if goodL t wn l then ⟨(headT t wn ++ rowsT l).toArray⟩ else ⟨#[]⟩
theorem txN_len (a b c d : Nat) : (txN a b c d).length ≤ 11 := by
  have h1 := (numF_len 1 a).2
  have h2 := (numF_len 1 b).2
  have h3 := (numF_len 1 c).2
  have h4 := (numF_len 1 d).2
  simp only [txN, List.length_append, List.length_cons, List.length_nil]; omega
theorem headT_len (t wn : Int) : (headT t wn).length ≤ 6 := by
  have h1 := (numF_len 1 t.toNat).2
  have h2 := (numF_len 1 wn.toNat).2
  simp only [headT, List.length_append, List.length_cons, List.length_nil]; omega
theorem join_last (xs : List (List UInt8)) (y sep : List UInt8) : Lib.join (xs ++ [y]) sep = if xs = [] then y else Lib.join xs sep ++ sep ++ y := by
  cases xs with
  | nil => simp [Lib.join_one]
  | cons x r => rw [List.cons_append, Lib.join_cons, Lib.join_cons, if_neg (by simp)]; simp [Lib.joinTail]
theorem rowsT_step {l : List Rs} {k : Nat} (hk : k < l.length) : rowsT (l.take (k + 1)) = if k = 0 then txR (l.getD k zR) else rowsT (l.take k) ++ [44] ++ txR (l.getD k zR) := by
  rw [take_snoc zR l k hk]
  unfold rowsT
  rw [List.map_append, List.map_cons, List.map_nil, join_last]
  by_cases h0 : k = 0
  · subst h0; simp
  · rw [if_neg h0, if_neg (by intro e; rw [List.map_eq_nil_iff, List.take_eq_nil_iff] at e; rcases e with e | e; exact h0 e; rw [e] at hk; cases hk)]
theorem rowsT_0 (l : List Rs) : rowsT (l.take 0) = [] := by simp [rowsT, Lib.join_nil]
theorem rowsT_len {l : List Rs} : ∀ k, k ≤ l.length → (rowsT (l.take k)).length ≤ 12 * k
  | 0, _ => by simp [rowsT, Lib.join_nil]
  | k + 1, hk => by
    have ih := rowsT_len (l := l) k (by omega)
    have h3 := txN_len (l.getD k zR).1.toNat (l.getD k zR).2.1.toNat (l.getD k zR).2.2.1.toNat (l.getD k zR).2.2.2.toNat
    rw [rowsT_step (by omega)]
    split
    · unfold txR; omega
    · simp only [List.length_append, List.length_cons, List.length_nil, txR]; omega
theorem num_lg (m : Nat) (h : m < 100) : (∀ w : World, Calls Tryd.prog 60 #[.int .i64 m] w fun e w' => e = .returned (.string ⟨(numF 1 m).toArray⟩) ∧ Below w.heap.size w w') := fun w => l1Num_any 1 m w (by omega) (by omega)
theorem num_decLg : ∀ m : Nat, m < 100 → Lib.decDigits m = numF 1 m := by decide +kernel
theorem itoa_lg (m : Nat) (h : m < 100) (w : World) : Calls Tryd.prog 77 #[.int .i64 m] w fun e w' => e = .returned (.string ⟨(numF 1 m).toArray⟩) ∧ w' = w := by
  rw [← num_decLg m h]; exact Tryd.strconv_Itoa_small m h w
theorem addL (X Y : List UInt8) (hx : X.length ≤ 10000) (hy : Y.length ≤ 10000) (W : World) : (Op.stringOp .add ⟨X.toArray⟩ ⟨Y.toArray⟩).run Tryd.prog W = .ok (.string ⟨(X ++ Y).toArray⟩) W := run_string_add_lists W X Y (by omega) (by omega)

/-- The box of a result, and what lay before. -/
theorem bx_keep {w X Y : World} {B : Nat} {r0 r1 r2 r3 : Value} (bd : Below X.heap.size X Y) (h : X.cell? ⟨B, 0, none⟩ = some r0 ∧ X.cell? ⟨B, 1, none⟩ = some r1 ∧ X.cell? ⟨B, 2, none⟩ = some r2 ∧ X.cell? ⟨B, 3, none⟩ = some r3 ∧ B < X.heap.size ∧ Below w.heap.size w X) :
    Y.cell? ⟨B, 0, none⟩ = some r0 ∧ Y.cell? ⟨B, 1, none⟩ = some r1 ∧ Y.cell? ⟨B, 2, none⟩ = some r2 ∧ Y.cell? ⟨B, 3, none⟩ = some r3 ∧ B < Y.heap.size ∧ Below w.heap.size w Y := by
  obtain ⟨h0, h1, h2, h3, h4, h5⟩ := h
  refine ⟨?_, ?_, ?_, ?_, Nat.lt_of_lt_of_le h4 bd.size, h5.trans (bd.mono h5.size)⟩
  · rw [bd.cell (p := ⟨B, 0, none⟩) h4]; exact h0
  · rw [bd.cell (p := ⟨B, 1, none⟩) h4]; exact h1
  · rw [bd.cell (p := ⟨B, 2, none⟩) h4]; exact h2
  · rw [bd.cell (p := ⟨B, 3, none⟩) h4]; exact h3
theorem hd_keep {w X Y : World} {B : Nat} {r0 r1 r2 : Value} (bd : Below X.heap.size X Y) (h : X.cell? ⟨B, 0, none⟩ = some r0 ∧ X.cell? ⟨B, 1, none⟩ = some r1 ∧ X.cell? ⟨B, 2, none⟩ = some r2 ∧ B < X.heap.size ∧ Below w.heap.size w X) :
    Y.cell? ⟨B, 0, none⟩ = some r0 ∧ Y.cell? ⟨B, 1, none⟩ = some r1 ∧ Y.cell? ⟨B, 2, none⟩ = some r2 ∧ B < Y.heap.size ∧ Below w.heap.size w Y := by
  obtain ⟨h0, h1, h2, h4, h5⟩ := h
  refine ⟨?_, ?_, ?_, Nat.lt_of_lt_of_le h4 bd.size, h5.trans (bd.mono h5.size)⟩
  · rw [bd.cell (p := ⟨B, 0, none⟩) h4]; exact h0
  · rw [bd.cell (p := ⟨B, 1, none⟩) h4]; exact h1
  · rw [bd.cell (p := ⟨B, 2, none⟩) h4]; exact h2

end Go.Proofs.YtgkkjlpfkoplhaaDoor
