/-
  Tennis: plain facts on the fewest points to a set: point by point.
-/
import Derived.Test.YtbgdngfjeikheabDoorTnFewMath
import Derived.Test.YtbgdngfjeikheabDoorTnSetA
namespace Go.Proofs.YtbgdngfjeikheabDoor
open Go.RowKit
set_option linter.unusedVariables false
set_option linter.unusedSimpArgs false

/-- The set with m points more, all of one side. -/
def wayN (s : ByteArray) (c : UInt8) (m : Nat) : List UInt8 × List UInt8 × Option (Int × Int) := setS 14 [] (s.data.toList ++ List.replicate m c)
theorem wayN_0 (s : ByteArray) (c : UInt8) : wayN s c 0 = wayS s := by unfold wayN wayS; rw [List.replicate_zero, List.append_nil]
theorem wayN_step {s : ByteArray} {c : UInt8} {m : Nat} {G r : List UInt8} {x y : Int} (h : wayN s c m = (G, r, some (x, y))) :
    OpenSet G x y ∧ wayN s c (m + 1) = if wonN (raceTo (cntA G) (cntB G)) (x + upA c) (y + upB c) = 0 then (G, r ++ [c], some (x + upA c, y + upB c))
      else (if overB (cntA (G ++ [sideC (wonN (raceTo (cntA G) (cntB G)) (x + upA c) (y + upB c))])) (cntB (G ++ [sideC (wonN (raceTo (cntA G) (cntB G)) (x + upA c) (y + upB c))])) then (G ++ [sideC (wonN (raceTo (cntA G) (cntB G)) (x + upA c) (y + upB c))], [], none) else (G ++ [sideC (wonN (raceTo (cntA G) (cntB G)) (x + upA c) (y + upB c))], [], some (0, 0))) := by
  have := set_app 14 [] (s.data.toList ++ List.replicate m c) c G r x y near_00 (by decide) h
  rw [List.append_assoc, ← List.replicate_succ'] at this
  exact this

/-- Who wins the games that have been won by one side more. -/
theorem over_who_fin : ∀ a b : Fin 8, nearB (a.val : Int) (b.val : Int) = true → overB (a.val : Int) (b.val : Int) = false →
    (overB ((a.val : Int) + 1) (b.val : Int) = true → (b.val : Int) < (a.val : Int) + 1) ∧ (overB (a.val : Int) ((b.val : Int) + 1) = true → ¬ ((b.val : Int) + 1 < (a.val : Int))) := by decide +kernel
theorem over_who {a b : Int} (h : nearB a b = true) (ho : overB a b = false) {c : UInt8} (hc : c = 97 ∨ c = 98) (h1 : overB (a + upA c) (b + upB c) = true) : winW (a + upA c) (b + upB c) = ⟨#[c]⟩ := by
  have hb := near_bd h
  obtain ⟨a, rfl⟩ : ∃ x : Nat, a = x := ⟨a.toNat, by omega⟩
  obtain ⟨b, rfl⟩ : ∃ x : Nat, b = x := ⟨b.toNat, by omega⟩
  have := over_who_fin ⟨a, by omega⟩ ⟨b, by omega⟩ h ho
  rcases hc with rfl | rfl
  · simp only [show upA 97 = 1 from rfl, show upB 97 = 0 from rfl, Int.add_zero] at h1 ⊢
    unfold winW
    rw [if_pos h1, if_pos (this.1 h1)]
  · simp only [show upA 98 = 0 from rfl, show upB 98 = 1 from rfl, Int.add_zero] at h1 ⊢
    unfold winW
    rw [if_pos h1, if_neg (this.2 h1)]

/-- Behind n points: still open with F - n to come, or won by the side at n = F. -/
inductive FewAt (s : ByteArray) (c : UInt8) (F : Int) (n : Nat) : Prop
  | going (G r : List UInt8) (x y : Int) (f : Nat) (hw : wayN s c n = (G, r, some (x, y))) (ho : OpenSet G x y) (hf : 14 ≤ (f : Int) + cntA G + cntB G) (hF : F = n + fewS f (cntA G) (cntB G) x y c) : FewAt s c F n
  | done (G r : List UInt8) (hw : wayN s c n = (G, r, none)) (ho : nearB (cntA G) (cntB G) = true) (hv : winW (cntA G) (cntB G) = ⟨#[c]⟩) (hF : F = n) : FewAt s c F n

theorem few_open {f : Nat} {a b x y : Int} {c : UInt8} (hn : nearB a b = true) (ho : overB a b = false) : fewS (f + 1) a b x y c = fewR (raceTo a b) x y c + fewS f (a + upA c) (b + upB c) 0 0 c := by
  rw [fewS, if_neg (by simp; exact (near_win hn).2 ho)]
theorem few_over {f : Nat} {a b x y : Int} {c : UInt8} (hn : nearB a b = true) (ho : overB a b = true) : fewS f a b x y c = 0 := by
  cases f with
  | zero => rfl
  | succ f => rw [fewS, if_pos (fun e => by rw [(near_win hn).1 e] at ho; exact absurd ho (by simp))]
theorem few_pos {c : UInt8} (hc : c = 97 ∨ c = 98) : ∀ {f : Nat} {a b x y : Int}, nearB a b = true → (overB a b = false → wonN (raceTo a b) x y = 0) → 0 ≤ fewS f a b x y c := by
  intro f
  induction f with
  | zero => intros; exact Int.le_refl _
  | succ f ih =>
    intro a b x y hn hr
    cases ho : overB a b
    · rw [few_open hn ho]
      have h1 := (few_step hc (hr ho)).1
      obtain ⟨n1, n2⟩ := near_step hn ho
      have h2 : 0 ≤ fewS f (a + upA c) (b + upB c) 0 0 c := by
        refine ih ?_ (fun _ => race_open _ _)
        rcases hc with rfl | rfl
        · simpa [upA, upB] using n1
        · simpa [upA, upB] using n2
      omega
    · rw [few_over hn ho]; exact Int.le_refl _

theorem few_next {s : ByteArray} {c : UInt8} {F : Int} {n : Nat} (hc : c = 97 ∨ c = 98) {G r : List UInt8} {x y : Int} {f : Nat} (hw : wayN s c n = (G, r, some (x, y))) (ho : OpenSet G x y) (hf : 14 ≤ (f : Int) + cntA G + cntB G) (hF : F = n + fewS f (cntA G) (cntB G) x y c) :
    FewAt s c F (n + 1) ∧ (n : Int) < F := by
  obtain ⟨on, oo, og⟩ := ho
  have hb := near_bd on
  obtain ⟨-, hst⟩ := wayN_step hw
  obtain ⟨f, rfl⟩ : ∃ g, f = g + 1 := ⟨f - 1, by omega⟩
  rw [few_open on oo] at hF
  obtain ⟨p1, p2, p3⟩ := few_step hc og
  obtain ⟨n1, n2⟩ := near_step on oo
  have nn : nearB (cntA G + upA c) (cntB G + upB c) = true := by
    rcases hc with rfl | rfl
    · simpa [upA, upB] using n1
    · simpa [upA, upB] using n2
  have hpos := few_pos (f := f) (a := cntA G + upA c) (b := cntB G + upB c) (x := 0) (y := 0) hc nn (fun _ => race_open _ _)
  refine ⟨?_, by omega⟩
  by_cases hwn : wonN (raceTo (cntA G) (cntB G)) (x + upA c) (y + upB c) = 0
  · rw [if_pos hwn] at hst
    refine .going G _ _ _ (f + 1) hst ⟨on, oo, hwn⟩ hf ?_
    rw [few_open on oo, p2 hwn]
    omega
  · rw [if_neg hwn] at hst
    obtain ⟨e1, e2⟩ := p3 hwn
    rw [e2] at hst
    have ea : cntA (G ++ [c]) = cntA G + upA c := by rw [cntA_snoc]
    have eb : cntB (G ++ [c]) = cntB G + upB c := by
      unfold cntB upB
      rw [List.count_append]
      rcases hc with rfl | rfl <;> simp
    rw [ea, eb] at hst
    have hu : upA c + upB c = 1 := by unfold upA upB; split <;> rfl
    cases hov : overB (cntA G + upA c) (cntB G + upB c)
    · rw [hov] at hst
      refine .going (G ++ [c]) _ 0 0 f (by simpa using hst) ⟨by rw [ea, eb]; exact nn, by rw [ea, eb]; exact hov, race_open _ _⟩ (by rw [ea, eb]; omega) ?_
      rw [ea, eb]; omega
    · rw [hov] at hst
      rw [few_over nn hov] at hF
      refine .done (G ++ [c]) _ (by simpa using hst) (by rw [ea, eb]; exact nn) (by rw [ea, eb]; exact over_who on oo hc hov) (by omega)

/-- No more than so many. -/
theorem few_bd0 (c : UInt8) : ∀ (f : Nat) (a b : Int), fewS f a b 0 0 c ≤ 7 * f
  | 0, a, b => by simp [fewS]
  | f + 1, a, b => by
    have := few_bd0 c f (a + upA c) (b + upB c)
    unfold fewS
    split
    · omega
    · have h : fewR (raceTo a b) 0 0 c ≤ 7 := by unfold fewR raceTo; split <;> split <;> omega
      omega
theorem few_bd {f : Nat} {a b x y : Int} {c : UInt8} (hx : 0 ≤ x) (hx' : x ≤ 300) (hy : 0 ≤ y) (hy' : y ≤ 300) (hf : f ≤ 14) : fewS f a b x y c ≤ 500 := by
  cases f with
  | zero => simp [fewS]
  | succ f =>
    have := few_bd0 c f (a + upA c) (b + upB c)
    unfold fewS
    split
    · omega
    · have h : fewR (raceTo a b) x y c ≤ 310 := by unfold fewR raceTo; split <;> split <;> omega
      omega

end Go.Proofs.YtbgdngfjeikheabDoor
