/- BesideOf: the model and the program, and the law over them. -/
import Derived.Test.YtcoagklioofgfabSmall
import Derived.Test.YtcoagklioofgfabDartRing
import Derived.Deep.RegionHeld3
import Derived.IntWalk
import Derived.WalkSmall
namespace Go.Proofs.Ytcoagklioofgfab.ExBesideOf
open Go.RowKit

theorem inR_true {n a b : Int} : inR n a b = true ↔ a ≤ n ∧ n ≤ b := by simp [inR]
def before (p : Nat) : Nat := (p + 19) % 20
def behind (p : Nat) : Nat := (p + 1) % 20

set_option maxHeartbeats 800000 in
theorem impl_yes (n : Int) (hn : inR n 1 20 = true) (w : World) :
    Calls Try.prog 23 #[.int .i64 n] w fun e w' => e = .returned (.tuple #[.int .i64 (ringAt (before (placeN n))), .int .i64 (ringAt (behind (placeN n))), .bool true]) ∧ Below w.heap.size w w' := by
  obtain ⟨n1, n2⟩ := inR_true.1 hn
  have p1 := (place_facts n n1 n2).1
  have hi : (Try.prog.info? 61).map (·.size) = some 20 := by kernel_rfl
  have h1 : ringC.all (·.oneCell') = true := by kernel_rfl
  have H1 := Lib.hid h1; clear h1
  have HI := Lib.hid hi; clear hi
  have HN := Lib.hid hn; clear hn
  generalize hp : placeN n = p at *
  have HP := Lib.hid hp; clear hp
  go_enter Try.func23, Try.ntmps23
  go_wp2_with fail
  refine (isBoard_any _ _).mono ?_; rintro e w1 ⟨rfl, rfl⟩
  rw [HN.out]
  go_wp2_with fail
  refine (boardRing_any _).mono ?_; rintro e w1 ⟨rfl, bl1⟩
  go_wp2_with (refine wpList_store_row rfl _ _ _ rfl _ ringC rfl rfl _ _ (heap_alloc_last _ _) HI.out rfl H1.out ?_; rw [World.setRow_alloc_new])
  refine (placeOnBoard_any n n1 n2 _).mono ?_; rintro e w2 ⟨rfl, bl2⟩
  rw [HP.out]
  go_wp2_with fail
  have hcell : ∀ k, k < 20 → w2.cell? ⟨w1.heap.size, k, none⟩ = some (.int .i64 (ringAt k)) := by
    intro k hk
    rw [bl2.cell (p := ⟨w1.heap.size, k, none⟩) (by simp), cell_of_row _ _ k ringC _ _ (heap_alloc_last w1 _)]
    exact ringC_get k hk
  have q1 : before p < 20 := by unfold before; omega
  have q2 : behind p < 20 := by unfold behind; omega
  have c1 := hcell (before p) q1
  have c2 := hcell (behind p) q2
  have s1 : ((p : Int) + 20 - 1).tmod 20 = (before p : Nat) := by rw [Int.tmod_eq_emod_of_nonneg (by omega)]; unfold before; omega
  have s2 : ((p : Int) + 1).tmod 20 = (behind p : Nat) := by rw [Int.tmod_eq_emod_of_nonneg (by omega)]; unfold behind; omega
  have e1 : ((p : Int) + 20 - 1) % 20 = (before p : Nat) := by unfold before; omega
  have e2 : ((p : Int) + 1) % 20 = (behind p : Nat) := by unfold behind; omega
  have t1 : IntKind.i64.wrap ((p : Int) + 20) = (p : Int) + 20 := IntWalk.i64_in _ (by omega)
  have t2 : IntKind.i64.wrap ((p : Int) + 20 - 1) = (p : Int) + 20 - 1 := IntWalk.i64_in _ (by omega)
  have t3 : IntKind.i64.wrap ((p : Int) + 1) = (p : Int) + 1 := IntWalk.i64_in _ (by omega)
  have b1 : (0 : Int) ≤ (before p : Nat) := by omega
  have b2 : ((before p : Nat) : Int) < 20 := by omega
  have b3 : (0 : Int) ≤ (behind p : Nat) := by omega
  have b4 : ((behind p : Nat) : Int) < 20 := by omega
  clear hcell
  have bl : Below w.heap.size w w2 := by
    have z1 := bl1.size
    (repeat (first | exact Below.refl _ _ | exact ‹Below _ _ _› | refine Below.drew ?_ | refine Below.alloc ?_ (by first | omega | (simp; done) | (simp; omega)) _ | refine Below.setCell ?_ (by first | omega | (simp; done) | (simp; omega)) _ | refine Below.trans ?_ (Below.mono ‹Below _ _ _› (by first | omega | (simp; done) | (simp; omega)))))
  clear bl1 bl2
  go_quiet (fail)
  clear s1 s2 e1 e2 t1 t2 t3
  go_wp2
  refine bodyPost_ret (v := .tuple #[.int .i64 (ringAt (before p)), .int .i64 (ringAt (behind p)), .bool true]) (by simp [results, Try.results23, go_sem]) rfl ⟨rfl, ?_⟩
  exact below_drewN bl _

set_option maxHeartbeats 1600000 in
theorem spec_yes (n : Int) (hn : inR n 1 20 = true) (w : World) :
    Calls Try.prog 22 #[.int .i64 n] w fun e w' => e = .returned (.tuple #[.int .i64 (ringAt (before (placeN n))), .int .i64 (ringAt (behind (placeN n))), .bool true]) ∧ Below w.heap.size w w' := by
  obtain ⟨n1, n2⟩ := inR_true.1 hn
  have p1 := (place_facts n n1 n2).1
  have HN := Lib.hid hn; clear hn
  generalize hp : placeN n = p at *
  have HP := Lib.hid hp; clear hp
  have q1 : before p < 20 := by unfold before; omega
  have q2 : behind p < 20 := by unfold behind; omega
  have r1 := ringC_get (before p) q1
  have r2 := ringC_get (behind p) q2
  have c1 : ∀ w : World, (w.alloc (.cells ringC 3)).cell? ⟨w.heap.size, before p, none⟩ = some (.int .i64 (ringAt (before p))) := fun w => by
    rw [cell_of_row _ _ _ ringC _ _ (heap_alloc_last w _)]; exact r1
  have c2 : ∀ w : World, (w.alloc (.cells ringC 3)).cell? ⟨w.heap.size, behind p, none⟩ = some (.int .i64 (ringAt (behind p))) := fun w => by
    rw [cell_of_row _ _ _ ringC _ _ (heap_alloc_last w _)]; exact r2
  have s1 : ((p : Int) + 19).tmod 20 = (before p : Nat) := by rw [Int.tmod_eq_emod_of_nonneg (by omega)]; unfold before; omega
  have s2 : ((p : Int) + 1).tmod 20 = (behind p : Nat) := by rw [Int.tmod_eq_emod_of_nonneg (by omega)]; unfold behind; omega
  have e1 : ((p : Int) + 19) % 20 = (before p : Nat) := by unfold before; omega
  have e2 : ((p : Int) + 1) % 20 = (behind p : Nat) := by unfold behind; omega
  have t1 : IntKind.i64.wrap ((p : Int) + 19) = (p : Int) + 19 := IntWalk.i64_in _ (by omega)
  have t3 : IntKind.i64.wrap ((p : Int) + 1) = (p : Int) + 1 := IntWalk.i64_in _ (by omega)
  have b1 : (0 : Int) ≤ (before p : Nat) := by omega
  have b2 : ((before p : Nat) : Int) < 20 := by omega
  have b3 : (0 : Int) ≤ (behind p : Nat) := by omega
  have b4 : ((behind p : Nat) : Int) < 20 := by omega
  have c3 : ∀ w : World, ((w.alloc (.cells ringC 3)).alloc (.cells ringC 3)).cell? ⟨w.heap.size, before p, none⟩ = some (.int .i64 (ringAt (before p))) := fun w => by
    rw [World.cell?_alloc_past _ _ _ (by simp)]; exact c1 w
  have c4 : ∀ w : World, ((w.alloc (.cells ringC 3)).alloc (.cells ringC 3)).cell? ⟨w.heap.size + 1, behind p, none⟩ = some (.int .i64 (ringAt (behind p))) := fun w => by
    have := c2 (w.alloc (.cells ringC 3)); simpa using this
  clear r1 r2
  go_enter Try.func22, Try.ntmps22
  go_wp2_with fail
  refine (l1In_any _ _ _ _).mono ?_; rintro e w1 ⟨rfl, rfl⟩
  rw [HN.out]
  go_wp2_with fail
  refine (daPlace_any n n1 n2 _).mono ?_; rintro e w2 ⟨rfl, bl2⟩
  rw [HP.out]
  go_wp2_with fail
  go_region_with (go_at_call 39; refine (daRing_exact _).mono ?_; rintro e w' ⟨rfl, rfl⟩)
  all_goals
    clear s1 s2 e1 e2 t1 t3
    go_wp2
    refine bodyPost_ret (v := .tuple #[.int .i64 (ringAt (before p)), .int .i64 (ringAt (behind p)), .bool true]) (by simp [results, Try.results22, go_sem]) rfl ⟨rfl, ?_⟩
    have z2 := bl2.size
    (repeat (first | exact Below.refl _ _ | exact ‹Below _ _ _› | refine Below.drew ?_ | refine Below.alloc ?_ (by first | omega | (simp; done) | (simp; omega)) _ | refine Below.setCell ?_ (by first | omega | (simp; done) | (simp; omega)) _ | refine Below.trans ?_ (Below.mono ‹Below _ _ _› (by first | omega | (simp; done) | (simp; omega)))))

set_option maxHeartbeats 800000 in
theorem spec_no (n : Int) (hn : inR n 1 20 = false) (w : World) :
    Calls Try.prog 22 #[.int .i64 n] w fun e w' => e = .returned (.tuple #[.int .i64 0, .int .i64 0, .bool false]) ∧ Below w.heap.size w w' := by
  have HN := Lib.hid hn; clear hn
  go_enter Try.func22, Try.ntmps22
  go_wp2_with fail
  refine (l1In_any _ _ _ _).mono ?_; rintro e w1 ⟨rfl, rfl⟩
  rw [HN.out]
  go_wp2_with fail
  refine bodyPost_ret (v := .tuple #[.int .i64 0, .int .i64 0, .bool false]) (by simp [results, Try.results22, go_sem]) rfl ⟨rfl, ?_⟩
  (repeat (first | exact Below.refl _ _ | exact ‹Below _ _ _› | refine Below.drew ?_ | refine Below.alloc ?_ (by first | omega | (simp; done) | (simp; omega)) _ | refine Below.setCell ?_ (by first | omega | (simp; done) | (simp; omega)) _ | refine Below.trans ?_ (Below.mono ‹Below _ _ _› (by first | omega | (simp; done) | (simp; omega)))))

set_option maxHeartbeats 800000 in
theorem impl_no (n : Int) (hn : inR n 1 20 = false) (w : World) :
    Calls Try.prog 23 #[.int .i64 n] w fun e w' => e = .returned (.tuple #[.int .i64 0, .int .i64 0, .bool false]) ∧ Below w.heap.size w w' := by
  have HN := Lib.hid hn; clear hn
  go_enter Try.func23, Try.ntmps23
  go_wp2_with fail
  refine (isBoard_any _ _).mono ?_; rintro e w1 ⟨rfl, rfl⟩
  rw [HN.out]
  go_wp2_with fail
  refine bodyPost_ret (v := .tuple #[.int .i64 0, .int .i64 0, .bool false]) (by simp [results, Try.results23, go_sem]) rfl ⟨rfl, ?_⟩
  (repeat (first | exact Below.refl _ _ | exact ‹Below _ _ _› | refine Below.drew ?_ | refine Below.alloc ?_ (by first | omega | (simp; done) | (simp; omega)) _ | refine Below.setCell ?_ (by first | omega | (simp; done) | (simp; omega)) _ | refine Below.trans ?_ (Below.mono ‹Below _ _ _› (by first | omega | (simp; done) | (simp; omega)))))

set_option maxHeartbeats 800000 in
theorem walk (n : Int) (w : World) :
    Calls Try.prog 5 #[.int .i64 n] w fun e w' => e = .returned (.bool true) ∧ Below w.heap.size w w' := by
  cases h : inR n 1 20
  · go_enter Try.func5, Try.ntmps5
    go_wp2_with fail
    refine (spec_no n h _).mono ?_; rintro e w1 ⟨rfl, bl1⟩
    go_wp2_with fail
    refine (impl_no n h _).mono ?_; rintro e w2 ⟨rfl, bl2⟩
    have z1 := bl1.size
    clear h
    go_wp2_with fail
    go_ret
    refine ⟨rfl, ?_⟩
    (repeat (first | exact Below.refl _ _ | exact ‹Below _ _ _› | refine Below.drew ?_ | refine Below.alloc ?_ (by first | omega | (simp; done) | (simp; omega)) _ | refine Below.setCell ?_ (by first | omega | (simp; done) | (simp; omega)) _ | refine Below.trans ?_ (Below.mono ‹Below _ _ _› (by first | omega | (simp; done) | (simp; omega)))))
  · have h1 : (ringAt (before (placeN n)) != ringAt (before (placeN n))) = false := by simp
    have h2 : (ringAt (behind (placeN n)) != ringAt (behind (placeN n))) = false := by simp
    go_enter Try.func5, Try.ntmps5
    go_wp2_with fail
    refine (spec_yes n h _).mono ?_; rintro e w1 ⟨rfl, bl1⟩
    go_wp2_with fail
    refine (impl_yes n h _).mono ?_; rintro e w2 ⟨rfl, bl2⟩
    have z1 := bl1.size
    clear h
    go_wp2_with fail
    go_ret
    refine ⟨rfl, ?_⟩
    (repeat (first | exact Below.refl _ _ | exact ‹Below _ _ _› | refine Below.drew ?_ | refine Below.alloc ?_ (by first | omega | (simp; done) | (simp; omega)) _ | refine Below.setCell ?_ (by first | omega | (simp; done) | (simp; omega)) _ | refine Below.trans ?_ (Below.mono ‹Below _ _ _› (by first | omega | (simp; done) | (simp; omega)))))

end Go.Proofs.Ytcoagklioofgfab.ExBesideOf
