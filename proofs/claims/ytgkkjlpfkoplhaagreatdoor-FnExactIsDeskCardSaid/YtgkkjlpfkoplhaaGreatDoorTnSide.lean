/-
  Tennis: the program's sides, counts of games, and who has won.
-/
import Derived.Test.YtgkkjlpfkoplhaaGreatDoorTnStr
import Derived.Test.YtgkkjlpfkoplhaaGreatDoorTnScoreI
import Derived.Deep.WholeRow
namespace Go.Proofs.YtgkkjlpfkoplhaaGreatDoor
open Go.RowKit

theorem ext_one (s : ByteArray) (k : Nat) (h : k < s.size) : s.extract k (k + 1) = ⟨#[s[k]]⟩ := by
  rw [Lib.extract_eq, drop_cons s k h, show k + 1 - k = 1 from by omega]; simp

theorem slice_one (s : ByteArray) (k : Nat) (h : k < s.size) (w : World) :
    (Instr.slice 9 (.string s) (some (.int .i64 (k : Int))) (some (.int .i64 ((k : Int) + 1))) none).run Tryz.prog w = .ok (.string ⟨#[s[k]]⟩) w := by
  have := run_slice_string (P := Tryz.prog) w 9 s .i64 .i64 (k : Int) ((k : Int) + 1) Tryz.underlying9 (by omega) (by omega) (by omega)
  rw [this, show ((k : Int) + 1).toNat = k + 1 from by omega, show ((k : Int)).toNat = k from by omega, ext_one s k h]

theorem slice_upto (s : ByteArray) (k : Nat) (h : k ≤ s.size) (w : World) :
    (Instr.slice 9 (.string s) none (some (.int .i64 (k : Int))) none).run Tryz.prog w = .ok (.string (s.extract 0 k)) w := by
  have := run_slice_string_h (P := Tryz.prog) w 9 s Tryz.underlying9 .i64 (k : Int) (by omega) (by omega)
  rw [this, show ((k : Int)).toNat = k from by omega]
theorem upto_list (s : ByteArray) (k : Nat) : (s.extract 0 k).data.toList = s.data.toList.take k := by rw [Lib.extract_data]; simp
theorem upto_size (s : ByteArray) (k : Nat) (h : k ≤ s.size) : (s.extract 0 k).size = k := by simp [ByteArray.size_extract]; omega

def isAB (c : UInt8) : Bool := c == 97 || c == 98
set_option maxHeartbeats 400000 in
theorem isSide_any (c : UInt8) (w : World) :
    Calls Tryz.prog 95 #[.string ⟨#[c]⟩] w fun e w' => e = .returned (.bool (isAB c)) ∧ w = w' := by
  by_cases h1 : c = 97
  · subst h1
    go_enter Tryz.func95, Tryz.ntmps95
    go_wp2
    go_ret
    exact ⟨rfl, rfl⟩
  · have e97 : (c == 97) = false := by simpa using h1
    have he : isAB c = (c == 98) := by simp [isAB, h1]
    have HE := Lib.hid he; clear he h1
    go_enter Tryz.func95, Tryz.ntmps95
    go_wp2
    go_ret
    exact ⟨ret_bool (by rw [HE.out]; try simp), rfl⟩

def sideS (n : Nat) : ByteArray := if n = 1 then ⟨#[97]⟩ else if n = 2 then ⟨#[98]⟩ else ⟨#[]⟩
set_option maxHeartbeats 800000 in
theorem winnerOfGames_any (a b : Int) (w : World) :
    Calls Tryz.prog 38 #[.agg #[.int .i64 a, .int .i64 b]] w fun e w' => e = .returned (.string (sideS (winN a b))) ∧ Below w.heap.size w w' := by
  cases h1 : setScoreB a b
  · cases h2 : setScoreB b a
    · rw [show sideS (winN a b) = ⟨#[]⟩ from by simp [winN, h1, h2, sideS]]
      have H1 := Lib.hid h1; clear h1
      have H2 := Lib.hid h2; clear h2
      go_enter Tryz.func38, Tryz.ntmps38
      go_wp2_with fail
      refine (implIsSetScore_any _ _ _).mono ?_; rintro e w1 ⟨rfl, rfl⟩
      rw [H1.out]
      go_wp2_with fail
      refine (implIsSetScore_any _ _ _).mono ?_; rintro e w1 ⟨rfl, rfl⟩
      rw [H2.out]
      go_wp2_with fail
      go_ret
      refine ⟨rfl, ?_⟩
      (repeat (first | exact Below.refl _ _ | exact ‹Below _ _ _› | refine Below.drew ?_ | refine Below.alloc ?_ (by first | omega | (simp; done) | (simp; omega)) _ | refine Below.setCell ?_ (by first | omega | (simp; done) | (simp; omega)) _ | refine Below.trans ?_ (Below.mono ‹Below _ _ _› (by first | omega | (simp; done) | (simp; omega)))))
    · rw [show sideS (winN a b) = ⟨#[98]⟩ from by simp [winN, h1, h2, sideS]]
      have H1 := Lib.hid h1; clear h1
      have H2 := Lib.hid h2; clear h2
      go_enter Tryz.func38, Tryz.ntmps38
      go_wp2_with fail
      refine (implIsSetScore_any _ _ _).mono ?_; rintro e w1 ⟨rfl, rfl⟩
      rw [H1.out]
      go_wp2_with fail
      refine (implIsSetScore_any _ _ _).mono ?_; rintro e w1 ⟨rfl, rfl⟩
      rw [H2.out]
      go_wp2_with fail
      go_ret
      refine ⟨rfl, ?_⟩
      (repeat (first | exact Below.refl _ _ | exact ‹Below _ _ _› | refine Below.drew ?_ | refine Below.alloc ?_ (by first | omega | (simp; done) | (simp; omega)) _ | refine Below.setCell ?_ (by first | omega | (simp; done) | (simp; omega)) _ | refine Below.trans ?_ (Below.mono ‹Below _ _ _› (by first | omega | (simp; done) | (simp; omega)))))
  · rw [show sideS (winN a b) = ⟨#[97]⟩ from by simp [winN, h1, sideS]]
    have H1 := Lib.hid h1; clear h1
    go_enter Tryz.func38, Tryz.ntmps38
    go_wp2_with fail
    refine (implIsSetScore_any _ _ _).mono ?_; rintro e w1 ⟨rfl, rfl⟩
    rw [H1.out]
    go_wp2_with fail
    go_ret
    refine ⟨rfl, ?_⟩
    (repeat (first | exact Below.refl _ _ | exact ‹Below _ _ _› | refine Below.drew ?_ | refine Below.alloc ?_ (by first | omega | (simp; done) | (simp; omega)) _ | refine Below.setCell ?_ (by first | omega | (simp; done) | (simp; omega)) _ | refine Below.trans ?_ (Below.mono ‹Below _ _ _› (by first | omega | (simp; done) | (simp; omega)))))

set_option maxHeartbeats 800000 in
theorem plus_any (a b : Int) (c : UInt8) (w : World) (ha : 0 ≤ a) (ha' : a ≤ 1000000000000) (hb : 0 ≤ b) (hb' : b ≤ 1000000000000) :
    Calls Tryz.prog 96 #[.agg #[.int .i64 a, .int .i64 b], .string ⟨#[c]⟩] w fun e w' => e = .returned (.agg #[.int .i64 (a + upA c), .int .i64 (b + upB c)]) ∧ Below w.heap.size w w' := by
  by_cases h1 : c = 97
  · subst h1
    rw [show upA 97 = 1 from rfl, show upB 97 = 0 from rfl, Int.add_zero]
    go_enter Tryz.func96, Tryz.ntmps96
    go_wp2
    refine bodyPost_ret (v := .agg #[.int .i64 (a + 1), .int .i64 b]) (by simp [results, Tryz.results96, go_sem]) rfl ⟨rfl, ?_⟩
    (repeat (first | exact Below.refl _ _ | exact ‹Below _ _ _› | refine Below.drew ?_ | refine Below.alloc ?_ (by first | omega | (simp; done) | (simp; omega)) _ | refine Below.setCell ?_ (by first | omega | (simp; done) | (simp; omega)) _ | refine Below.trans ?_ (Below.mono ‹Below _ _ _› (by first | omega | (simp; done) | (simp; omega)))))
  · rw [show upA c = 0 from by simp [upA, h1], show upB c = 1 from by simp [upB, h1], Int.add_zero]
    have e97 : (c == 97) = false := by simpa using h1
    clear h1
    go_enter Tryz.func96, Tryz.ntmps96
    go_wp2
    refine bodyPost_ret (v := .agg #[.int .i64 a, .int .i64 (b + 1)]) (by simp [results, Tryz.results96, go_sem]) rfl ⟨rfl, ?_⟩
    (repeat (first | exact Below.refl _ _ | exact ‹Below _ _ _› | refine Below.drew ?_ | refine Below.alloc ?_ (by first | omega | (simp; done) | (simp; omega)) _ | refine Below.setCell ?_ (by first | omega | (simp; done) | (simp; omega)) _ | refine Below.trans ?_ (Below.mono ‹Below _ _ _› (by first | omega | (simp; done) | (simp; omega)))))

/-- A block of the call's own that holds two numbers. -/
def Pair (w : World) (g : Nat) (a b : Int) : Prop :=
  g < w.heap.size ∧ w.cell? ⟨g, 0, none⟩ = some (.int .i64 a) ∧ w.cell? ⟨g, 1, none⟩ = some (.int .i64 b) ∧ w.frozen? ⟨g, 0, none⟩ = false ∧ w.frozen? ⟨g, 1, none⟩ = false
theorem Pair.keep {w w' : World} {g : Nat} {a b : Int} (h : Pair w g a b) (hb : Below w.heap.size w w') : Pair w' g a b := by
  obtain ⟨h1, h2, h3, h4, h5⟩ := h
  exact ⟨Nat.lt_of_lt_of_le h1 hb.size, by rw [hb.cell (p := ⟨g, 0, none⟩) h1]; exact h2, by rw [hb.cell (p := ⟨g, 1, none⟩) h1]; exact h3, by rw [hb.frozen (p := ⟨g, 0, none⟩) h1]; exact h4, by rw [hb.frozen (p := ⟨g, 1, none⟩) h1]; exact h5⟩
theorem Pair.new (w : World) (a b : Int) (T : TypeId) : Pair (w.alloc (.cells #[.int .i64 a, .int .i64 b] T)) w.heap.size a b :=
  ⟨by simp, cell_of_row _ _ 0 _ _ _ (heap_alloc_last w _), cell_of_row _ _ 1 _ _ _ (heap_alloc_last w _), frozen_of_row _ _ 0 _ _ (heap_alloc_last w _), frozen_of_row _ _ 1 _ _ (heap_alloc_last w _)⟩
theorem Pair.put {w : World} {g : Nat} {a b : Int} (h : Pair w g a b) (c d : Int) : Pair ((w.setCell ⟨g, 0, none⟩ (.int .i64 c)).setCell ⟨g, 1, none⟩ (.int .i64 d)) g c d := by
  obtain ⟨h1, h2, h3, h4, h5⟩ := h
  have ne : ∀ v, (w.setCell ⟨g, 0, none⟩ v).cell? ⟨g, 1, none⟩ = w.cell? ⟨g, 1, none⟩ := fun v => World.cell?_setCell_other _ _ _ _ (by intro e; injection e; omega)
  refine ⟨by simpa using h1, ?_, ?_, by simp only [World.frozen?_setCell]; exact h4, by simp only [World.frozen?_setCell]; exact h5⟩
  · rw [World.cell?_setCell_other _ _ _ _ (by intro e; injection e; omega)]
    exact World.cell?_setCell_same _ _ _ h2
  · exact World.cell?_setCell_same _ _ _ (by rw [ne]; exact h3)

end Go.Proofs.YtgkkjlpfkoplhaaGreatDoor
