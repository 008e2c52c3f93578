/-
  Runes in a text of ASCII bytes: strings.ContainsRune at every rune.
-/
import Derived.Test.YtooaeafnneikkabDoorFrPot
import Derived.Laws.Runes
import Derived.Laws.RangeString
import Derived.Laws.RangeAny
import Derived.Lib.OthersKept
import Derived.Lib.IndexBytes
import Derived.LoopTactic
import Derived.Deep.RegionWith
import Derived.WalkSmall
import Derived.IntWalk
namespace Go.Proofs.YtooaeafnneikkabDoor
open Go.RowKit
set_option linter.unusedVariables false

theorem calmCall {P : Program} {f : FuncId} {args : Array Value} {w : World} {n : Nat} {v : Value} (c : ∀ W : World, Calls P f args W fun e w' => e = .returned v ∧ W = w') :
    Calls P f args (w.drewN n) fun e w' => e = .returned v ∧ ∃ m, w' = w.drewN m := (c _).mono fun _ _ h => ⟨h.1, n, h.2.symm⟩

theorem indexByte_not (l : List UInt8) (c : UInt8) (h : c ∉ l) : Lib.indexByte l c = -1 := by
  induction l with
  | nil => rfl
  | cons b l ih =>
    have hb : (b == c) = false := by simpa using fun e => h (by rw [e]; exact List.mem_cons_self ..)
    unfold Lib.indexByte
    rw [hb, ih (fun hm => h (List.mem_cons_of_mem _ hm))]
    rfl

def asciiL (l : List UInt8) : Prop := ∀ b ∈ l, b.toNat < 128

theorem valid_lib (r : Int) : Utf8.valid r = Lib.validRune r := by
  unfold Utf8.valid Lib.validRune
  rw [Bool.eq_iff_iff]; simp; omega

theorem indexByte_mem (l : List UInt8) (c : UInt8) : decide (0 ≤ Lib.indexByte l c) = l.contains c := by
  induction l with
  | nil => rfl
  | cons b l ih =>
    have hge := Lib.indexByte_ge l c
    rw [List.contains_cons, ← ih, Bool.eq_iff_iff]
    have hu : Lib.indexByte (b :: l) c = if b == c then 0 else if Lib.indexByte l c == -1 then -1 else Lib.indexByte l c + 1 := rfl
    rw [hu]
    by_cases hb : b = c
    · simp [hb]
    · have hb' : (b == c) = false := by simpa using hb
      have hc' : (c == b) = false := by simpa using fun h => hb h.symm
      rw [hb', hc']
      simp only [Bool.false_eq_true, if_false, Bool.false_or, decide_eq_true_eq]
      split
      · rename_i h; have := beq_iff_eq.1 h; omega
      · rename_i h; have : Lib.indexByte l c ≠ -1 := by simpa using h
        omega

/-- What strings.ContainsRune answers over a text of ASCII bytes. -/
def hasR (l : List UInt8) (r : Int) : Bool := decide (r < 128) && l.contains (UInt8.ofNat r.toNat)

end Go.Proofs.YtooaeafnneikkabDoor
