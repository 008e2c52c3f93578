/-
  Tennis: game orders: one place of the table, with those of another.
-/
import Derived.Test.YtaplkciomagmiabToMath
import Derived.Laws.OwnMore
import Derived.OwnWalk
import Derived.Deep.WholeRow
import Derived.Deep.CutRange
import Derived.LoopTactic
import Derived.StillTailTactics
import Derived.Deep.RegionHeld3
namespace Go.Proofs.Ytaplkciomagmiab
open Go.RowKit
set_option linter.unusedVariables false
set_option linter.unusedSimpArgs false

theorem below_new (w : World) (o : Obj) : Below w.heap.size w (w.alloc o) := (Below.refl _ _).alloc (Nat.le_refl _) _
abbrev gV (m : Nat) (p : List UInt8) : Value := .agg #[.int .i64 (m : Int), .string ⟨p.toArray⟩]
/-- A block that holds one place. -/
def OrAt (w : World) (g : Nat) (m : Int) (p : List UInt8) : Prop := w.heap[g]? = some (.cells #[.int .i64 m, .string ⟨p.toArray⟩] 38 (0, 0))
theorem OrAt.lt {w : World} {g : Nat} {m : Int} {p : List UInt8} (h : OrAt w g m p) : g < w.heap.size := (Array.getElem?_eq_some_iff.1 h).1
theorem OrAt.keep {w w' : World} {g : Nat} {m : Int} {p : List UInt8} (h : OrAt w g m p) (hb : Below w.heap.size w w') : OrAt w' g m p := by
  unfold OrAt at *; rw [hb.block _ (Array.getElem?_eq_some_iff.1 h).1]; exact h
theorem OrAt.cells {w : World} {g : Nat} {m : Int} {p : List UInt8} (h : OrAt w g m p) :
    w.cell? ⟨g, 0, none⟩ = some (.int .i64 m) ∧ w.cell? ⟨g, 1, none⟩ = some (.string ⟨p.toArray⟩) ∧ w.frozen? ⟨g, 0, none⟩ = false ∧ w.frozen? ⟨g, 1, none⟩ = false :=
  ⟨cell_of_row _ _ 0 _ _ _ h, cell_of_row _ _ 1 _ _ _ h, frozen_of_row _ _ 0 _ _ h, frozen_of_row _ _ 1 _ _ h⟩
theorem OrAt.other {w : World} {g h o : Nat} {m : Int} {p : List UInt8} (ht : OrAt w g m p) (hne : g ≠ h) (v : Value) : OrAt (w.setCell ⟨h, o, none⟩ v) g m p := by
  unfold OrAt at *; rw [Below.heap_setCell _ _ _ _ hne]; exact ht
theorem OrAt.many {w : World} {g : Nat} {m : Int} {p : List UInt8} (h : OrAt w g m p) (m' : Int) : OrAt (w.setCell ⟨g, 0, none⟩ (.int .i64 m')) g m' p := by
  unfold OrAt at *
  have hs : g < w.heap.size := (Array.getElem?_eq_some_iff.1 h).1
  have hv := (Array.getElem?_eq_some_iff.1 h).2
  simp only [World.setCell]
  rw [Array.getElem?_eq_getElem (by simpa using hs), Array.getElem_modify_self, hv]
  simp
theorem OrAt.first {w : World} {g : Nat} {m : Int} {p : List UInt8} (h : OrAt w g m p) (p' : List UInt8) : OrAt (w.setCell ⟨g, 1, none⟩ (.string ⟨p'.toArray⟩)) g m p' := by
  unfold OrAt at *
  have hs : g < w.heap.size := (Array.getElem?_eq_some_iff.1 h).1
  have hv := (Array.getElem?_eq_some_iff.1 h).2
  simp only [World.setCell]
  rw [Array.getElem?_eq_getElem (by simpa using hs), Array.getElem_modify_self, hv]
  simp
theorem OrAt.new (w : World) (m : Int) (p : List UInt8) : OrAt (w.alloc (.cells #[.int .i64 m, .string ⟨p.toArray⟩] 38)) w.heap.size m p := heap_alloc_last w _
theorem OrAt.old {w : World} {g : Nat} {m : Int} {p : List UInt8} (h : OrAt w g m p) (o : Obj) : OrAt (w.alloc o) g m p := h.keep (below_new w o)
theorem three_new (w : World) (m n : Int) (p q : List UInt8) :
    OrAt (((w.alloc (.cells #[.int .i64 m, .string ⟨p.toArray⟩] 38)).alloc (.cells #[.int .i64 n, .string ⟨q.toArray⟩] 38)).alloc (.cells #[.int .i64 0, .string ⟨#[]⟩] 38)) w.heap.size m p ∧
    OrAt (((w.alloc (.cells #[.int .i64 m, .string ⟨p.toArray⟩] 38)).alloc (.cells #[.int .i64 n, .string ⟨q.toArray⟩] 38)).alloc (.cells #[.int .i64 0, .string ⟨#[]⟩] 38)) (w.heap.size + 1) n q ∧
    OrAt (((w.alloc (.cells #[.int .i64 m, .string ⟨p.toArray⟩] 38)).alloc (.cells #[.int .i64 n, .string ⟨q.toArray⟩] 38)).alloc (.cells #[.int .i64 0, .string ⟨#[]⟩] 38)) (w.heap.size + 2) 0 [] ∧
    Below w.heap.size w (((w.alloc (.cells #[.int .i64 m, .string ⟨p.toArray⟩] 38)).alloc (.cells #[.int .i64 n, .string ⟨q.toArray⟩] 38)).alloc (.cells #[.int .i64 0, .string ⟨#[]⟩] 38)) := by
  refine ⟨((OrAt.new w m p).old _).old _, ?_, ?_, ((below_new w _).alloc (by simp) _).alloc (by simp; omega) _⟩
  · have := (OrAt.new (w.alloc (.cells #[.int .i64 m, .string ⟨p.toArray⟩] 38)) n q).old (.cells #[.int .i64 0, .string ⟨#[]⟩] 38)
    rw [World.size_alloc] at this; exact this
  · have := OrAt.new ((w.alloc (.cells #[.int .i64 m, .string ⟨p.toArray⟩] 38)).alloc (.cells #[.int .i64 n, .string ⟨q.toArray⟩] 38)) 0 []
    rw [World.size_alloc, World.size_alloc] at this; exact this

set_option maxHeartbeats 3200000 in
theorem with_any (m n : Nat) (p q : List UInt8) (c : UInt8) (hm : m ≤ 1000000) (hn : n ≤ 1000000) (hp : p.length ≤ 20) (hq : q.length ≤ 20) (w : World) :
    Calls Try.prog 31 #[gV m p, gV n q, .string ⟨#[c]⟩] w fun e w' => e = .returned (gV (withG (m, p) (n, q) c).1 (withG (m, p) (n, q) c).2) ∧ Below w.heap.size w w' := by
  have hadd : ∀ W : World, (Op.stringOp .add ⟨q.toArray⟩ ⟨#[c]⟩).run Try.prog W = .ok (.string ⟨(q ++ [c]).toArray⟩) W := fun W => run_string_add_lists W q [c] (by omega) (by simp)
  have hsum : IntKind.i64.wrap ((m : Int) + (n : Int)) = (m : Int) + (n : Int) := IntWalk.i64_in _ (by omega)
  have key : ∀ r : List UInt8, (withG (m, p) (n, q) c).2 = r → (gV (withG (m, p) (n, q) c).1 (withG (m, p) (n, q) c).2) = .agg #[.int .i64 ((m : Int) + (n : Int)), .string ⟨r.toArray⟩] := fun r h => by rw [h]; unfold gV withG; simp
  by_cases hn0 : 0 < n
  · have n0 : (0 : Int) < (n : Int) := by omega
    by_cases hm0 : m = 0
    · have hr := key (q ++ [c]) (by unfold withG; simp only; rw [if_pos ⟨hn0, .inl hm0⟩])
      rw [hr]
      have e0 : ((m : Int) == 0) = true := by simp [hm0]
      clear hr key hm0
      go_enter Try.func31, Try.ntmps31
      go_wp2_with fail
      refine bodyPost_ret (v := .agg #[.int .i64 ((m : Int) + (n : Int)), .string ⟨(q ++ [c]).toArray⟩]) (by simp [results, Try.results31, go_sem]) rfl ⟨rfl, ?_⟩
      (repeat (first | exact Below.refl _ _ | exact ‹Below _ _ _› | refine Below.drew ?_ | refine Below.alloc ?_ (by first | omega | (simp; done) | (simp; omega)) _ | refine Below.setCell ?_ (by first | omega | (simp; done) | (simp; omega)) _ | refine Below.trans ?_ (Below.mono ‹Below _ _ _› (by first | omega | (simp; done) | (simp; omega)))))
    · have e0 : ((m : Int) == 0) = false := by simp [hm0]
      cases hl : Op.bytesLess (q ++ [c]) p
      · have hr := key p (by unfold withG; simp only; rw [if_neg (fun h => h.2.elim hm0 (fun h => by rw [hl] at h; cases h))])
        rw [hr]
        clear hr key hm0
        go_enter Try.func31, Try.ntmps31
        go_wp2_with fail
        refine bodyPost_ret (v := .agg #[.int .i64 ((m : Int) + (n : Int)), .string ⟨(p).toArray⟩]) (by simp [results, Try.results31, go_sem]) rfl ⟨rfl, ?_⟩
        (repeat (first | exact Below.refl _ _ | exact ‹Below _ _ _› | refine Below.drew ?_ | refine Below.alloc ?_ (by first | omega | (simp; done) | (simp; omega)) _ | refine Below.setCell ?_ (by first | omega | (simp; done) | (simp; omega)) _ | refine Below.trans ?_ (Below.mono ‹Below _ _ _› (by first | omega | (simp; done) | (simp; omega)))))
      · have hr := key (q ++ [c]) (by unfold withG; simp only; rw [if_pos ⟨hn0, .inr hl⟩])
        rw [hr]
        clear hr key hm0
        go_enter Try.func31, Try.ntmps31
        go_wp2_with fail
        refine bodyPost_ret (v := .agg #[.int .i64 ((m : Int) + (n : Int)), .string ⟨(q ++ [c]).toArray⟩]) (by simp [results, Try.results31, go_sem]) rfl ⟨rfl, ?_⟩
        (repeat (first | exact Below.refl _ _ | exact ‹Below _ _ _› | refine Below.drew ?_ | refine Below.alloc ?_ (by first | omega | (simp; done) | (simp; omega)) _ | refine Below.setCell ?_ (by first | omega | (simp; done) | (simp; omega)) _ | refine Below.trans ?_ (Below.mono ‹Below _ _ _› (by first | omega | (simp; done) | (simp; omega)))))
  · have n0 : ¬ (0 : Int) < (n : Int) := by omega
    have hr := key p (by unfold withG; simp only; rw [if_neg (fun h => hn0 h.1)])
    rw [hr]
    clear hr key
    go_enter Try.func31, Try.ntmps31
    go_wp2_with fail
    refine bodyPost_ret (v := .agg #[.int .i64 ((m : Int) + (n : Int)), .string ⟨(p).toArray⟩]) (by simp [results, Try.results31, go_sem]) rfl ⟨rfl, ?_⟩
    (repeat (first | exact Below.refl _ _ | exact ‹Below _ _ _› | refine Below.drew ?_ | refine Below.alloc ?_ (by first | omega | (simp; done) | (simp; omega)) _ | refine Below.setCell ?_ (by first | omega | (simp; done) | (simp; omega)) _ | refine Below.trans ?_ (Below.mono ‹Below _ _ _› (by first | omega | (simp; done) | (simp; omega)))))
end Go.Proofs.Ytaplkciomagmiab
