/-
  A dart out of its text, as the model finds it.
-/
import Derived.Test.YtjiigljoekhljaaDoorDaImpl
import Derived.Test.YtjiigljoekhljaaDoorDaRead
namespace Go.Proofs.YtjiigljoekhljaaDoor
open Go.RowKit
set_option linter.unusedVariables false

/-- Block g holds a dart that may be written. -/
def DtAt (Y : World) (g : Nat) (x y : Int) : Prop :=
  g < Y.heap.size ∧ Y.cell? ⟨g, 0, none⟩ = some (.int .i64 x) ∧ Y.cell? ⟨g, 1, none⟩ = some (.int .i64 y) ∧ Y.frozen? ⟨g, 0, none⟩ = false ∧ Y.frozen? ⟨g, 1, none⟩ = false
theorem DtAt.keep {Y Z : World} {g : Nat} {x y : Int} (h : DtAt Y g x y) (bd : Below Y.heap.size Y Z) : DtAt Z g x y := by
  obtain ⟨h0, h1, h2, h3, h4⟩ := h
  exact ⟨Nat.lt_of_lt_of_le h0 bd.size, (bd.cell (p := ⟨g, 0, none⟩) h0).trans h1, (bd.cell (p := ⟨g, 1, none⟩) h0).trans h2, (bd.frozen (p := ⟨g, 0, none⟩) h0).trans h3, (bd.frozen (p := ⟨g, 1, none⟩) h0).trans h4⟩
theorem DtAt.drew {Y : World} {g : Nat} {x y : Int} (h : DtAt Y g x y) : DtAt Y.drew g x y := h.keep ((Below.refl _ _).drew)
theorem DtAt.new (X : World) (x y : Int) : DtAt (X.alloc (.cells #[.int .i64 x, .int .i64 y] 69)) X.heap.size x y := by
  have hn := heap_alloc_last X (.cells #[.int .i64 x, .int .i64 y] 69)
  exact ⟨by simp, cell_of_row _ _ 0 _ _ _ hn, cell_of_row _ _ 1 _ _ _ hn, frozen_of_row _ _ _ _ _ hn, frozen_of_row _ _ _ _ _ hn⟩
theorem DtAt.stored {Y : World} {g : Nat} {x y : Int} (h : DtAt Y g x y) (a b : Int) : DtAt ((Y.setCell ⟨g, 0, none⟩ (.int .i64 a)).setCell ⟨g, 1, none⟩ (.int .i64 b)) g a b := by
  obtain ⟨h0, h1, h2, h3, h4⟩ := h
  obtain ⟨q0, q1⟩ := put_two (x := .int .i64 a) (y := .int .i64 b) h1 h2
  exact ⟨by simpa using h0, q0, q1, by rw [World.frozen?_setCell, World.frozen?_setCell]; exact h3, by rw [World.frozen?_setCell, World.frozen?_setCell]; exact h4⟩
theorem DtAt.other {Y : World} {g k i : Nat} {x y : Int} (h : DtAt Y g x y) (hne : g ≠ k) (v : Value) : DtAt (Y.setCell ⟨k, i, none⟩ v) g x y := by
  obtain ⟨h0, h1, h2, h3, h4⟩ := h
  refine ⟨by simpa using h0, ?_, ?_, by rw [World.frozen?_setCell]; exact h3, by rw [World.frozen?_setCell]; exact h4⟩
  · rw [World.cell?_setCell_other _ _ _ _ (by intro e; injection e; omega)]; exact h1
  · rw [World.cell?_setCell_other _ _ _ _ (by intro e; injection e; omega)]; exact h2

def PaR0 (w : World) (b : Nat) (r t : Int) (Y : World) : Prop := DtAt Y b r t ∧ (∃ r' t', DtAt Y w.heap.size r' t') ∧ Below w.heap.size w Y
def PaR2 (w : World) (b : Nat) (r t : Int) (Y : World) : Prop := DtAt Y b r t ∧ DtAt Y w.heap.size r t ∧ Below w.heap.size w Y
theorem p0_of {w Y : World} {b : Nat} {r t : Int} (h : PaR0 w b r t Y) : Y.cell? ⟨b, 0, none⟩ = some (.int .i64 r) ∧ Y.cell? ⟨b, 1, none⟩ = some (.int .i64 t) ∧ PaR0 w b r t Y :=
  ⟨h.1.2.1, h.1.2.2.1, h⟩
theorem p2_of {w Y : World} {b : Nat} {r t : Int} (h : PaR2 w b r t Y) : Y.cell? ⟨b, 0, none⟩ = some (.int .i64 r) ∧ Y.cell? ⟨b, 1, none⟩ = some (.int .i64 t) ∧ PaR2 w b r t Y :=
  ⟨h.1.2.1, h.1.2.2.1, h⟩
theorem p0_keep {w Y Z : World} {b : Nat} {r t : Int} (bd : Below Y.heap.size Y Z) (h : PaR0 w b r t Y) : PaR0 w b r t Z := by
  obtain ⟨h1, ⟨r', c', h2⟩, h3⟩ := h
  exact ⟨h1.keep bd, ⟨r', c', h2.keep bd⟩, h3.trans (bd.mono (Nat.le_of_lt h2.1))⟩
theorem p2_weak {w Y : World} {b : Nat} {r t : Int} (h : PaR2 w b r t Y) : PaR0 w b r t Y := ⟨h.1, ⟨_, _, h.2.1⟩, h.2.2⟩
theorem p0_put {w Y : World} {b : Nat} {r t : Int} (hne : b ≠ w.heap.size) (h : PaR0 w b r t Y) :
    PaR2 w b r t ((Y.setCell ⟨w.heap.size, 0, none⟩ (.int .i64 r)).setCell ⟨w.heap.size, 1, none⟩ (.int .i64 t)) := by
  obtain ⟨h1, ⟨r', c', h2⟩, h3⟩ := h
  exact ⟨(h1.other hne _).other hne _, h2.stored r t,
    (h3.setCell (p := ⟨w.heap.size, 0, none⟩) (Nat.le_refl _) _).setCell (p := ⟨w.heap.size, 1, none⟩) (Nat.le_refl _) _⟩

theorem beqN (c k : UInt8) : ((c.toNat : Int) == (k.toNat : Int)) = decide (c = k) := by
  rw [Bool.eq_iff_iff]; simp only [beq_iff_eq, decide_eq_true_eq]
  constructor
  · intro h; exact UInt8.toNat_inj.1 (by omega)
  · intro h; rw [h]

set_option maxHeartbeats 3200000 in
set_option maxRecDepth 100000 in
theorem daP_o_bad (s : ByteArray) (h1 : 1 ≤ s.size) (h3 : s.size ≤ 3) (hc : s[0]'(by omega) ≠ 100 ∧ s[0]'(by omega) ≠ 116) (r : Int)
    (hr : ∀ w : World, Calls Tryd.prog 38 #[.string s] w fun e w' => e = .returned (.int .i64 r) ∧ w = w')
    (hgd : goodB r 1 = false) (w : World) :
    Calls Tryd.prog 44 #[.string s] w fun e w' => e = .returned (.tuple #[.agg #[.int .i64 r, .int .i64 1], .bool false]) ∧ Below w.heap.size w w' := by
  have HG := Lib.hid hgd; clear hgd
  have hin : inR (s.size : Int) 1 3 = true := by unfold inR; simp; omega
  have hix0 := rindex s 0 (by omega)
  rw [show ((0 : Nat) : Int) = 0 from rfl] at hix0
  have e100 := beqN (s[0]'(by omega)) 100
  have e116 := beqN (s[0]'(by omega)) 116
  rw [show (((100 : UInt8).toNat : Nat) : Int) = 100 from rfl] at e100
  rw [show (((116 : UInt8).toNat : Nat) : Int) = 116 from rfl] at e116
  rw [decide_eq_false hc.1] at e100
  rw [decide_eq_false hc.2] at e116
  have HRD := Lib.hid hr; clear hr
  have tA := DtAt.new w 0 0
  have B0 : Below w.heap.size w (w.alloc (.cells #[.int .i64 0, .int .i64 0] 69)) := (Below.refl _ _).alloc (Nat.le_refl _) _
  have HA := Lib.hid (And.intro tA B0); clear tA B0
  generalize s[0]'(by omega) = c at *
  clear hc
  have HI := Lib.hid hin; clear hin
  go_enter Tryd.func44, Tryd.ntmps44
  go_wp2_with fail
  refine (l1In_any _ _ _ _).mono ?_; rintro e w' ⟨rfl, rfl⟩
  rw [HI.out]
  go_wp2_with fail
  refine (HRD.out _).mono ?_; rintro e w' ⟨rfl, rfl⟩
  go_wp2_with fail
  have hb1 : (w.alloc (.cells #[.int .i64 0, .int .i64 0] 69)).heap.size = w.heap.size + 1 := by simp
  have tN := DtAt.new (w.alloc (.cells #[.int .i64 0, .int .i64 0] 69)) r 1
  rw [hb1] at tN
  have tG : DtAt ((w.alloc (.cells #[.int .i64 0, .int .i64 0] 69)).alloc (.cells #[.int .i64 r, .int .i64 1] 69)) w.heap.size 0 0 := HA.out.1.keep ((Below.refl _ _).alloc (Nat.le_refl _) _)
  have B1 : Below w.heap.size w ((w.alloc (.cells #[.int .i64 0, .int .i64 0] 69)).alloc (.cells #[.int .i64 r, .int .i64 1] 69)) := HA.out.2.alloc HA.out.2.size _
  have hne : w.heap.size + 1 ≠ w.heap.size := by omega
  clear HA hb1
  generalize (w.alloc (.cells #[.int .i64 0, .int .i64 0] 69)).alloc (.cells #[.int .i64 r, .int .i64 1] 69) = Y at *
  generalize w.heap.size + 1 = b at *
  have hr0 := p0_of (⟨tN.drew, ⟨_, _, tG.drew⟩, B1.drew⟩ : PaR0 w b r 1 Y.drew)
  clear tN tG B1
  have HR0 := Lib.hid hr0; clear hr0
  refine wp_region_held_drew (S := (fun w' => w'.cell? ⟨b, 0, none⟩ = some (.int .i64 r) ∧ w'.cell? ⟨b, 1, none⟩ = some (.int .i64 1) ∧ PaR0 w b r 1 w')) (by kernel_rfl) HR0.out (fun hHeld => ?_)
  clear HR0
  generalize Y.drew = Z at *
  (refine wpAnyH_take (i := 0) (v := ?_) rfl (by kernel_rfl) (by kernel_rfl) (by kernel_rfl) (fun _ _ _ h => h) (Or.inl ⟨by kernel_rfl, ?_⟩) (by assumption) ?_; rotate_left; focus (intro w hSw; (try dsimp only at hSw); go_simp; try with_reducible rfl); (try simp only [List.getElem_toArray, List.getElem_cons_succ, List.getElem_cons_zero, Act.put, List.setIfInBounds_toArray, List.set_cons_zero, List.set_cons_succ])); (refine wpAnyH_take (i := 1) (v := ?_) rfl (by kernel_rfl) (by kernel_rfl) (by kernel_rfl) (fun _ _ _ h => h) (Or.inl ⟨by kernel_rfl, ?_⟩) (by assumption) ?_; rotate_left; focus (intro w hSw; (try dsimp only at hSw); go_simp; try with_reducible rfl); (try simp only [List.getElem_toArray, List.getElem_cons_succ, List.getElem_cons_zero, Act.put, List.setIfInBounds_toArray, List.set_cons_zero, List.set_cons_succ]))
  refine wpAnyH_ready (rs := [2]) (by kernel_rfl) (by simp) (AllReadyH.cons rfl (fun K hK => ?_) AllReadyH.nil)
  have HS := Lib.hid hHeld.2.2; clear hHeld
  go_simp
  go_at_call 84
  refine (daGood_any _ _ _).mono ?_; rintro e w' ⟨rfl, bd⟩
  rw [HG.out]
  have KS := Lib.hid (p0_of (p0_keep bd HS.out)); clear HS bd
  go_wp2_with fail
  refine hK.out _ _ KS.out (fun hHeld => ?_)
  clear hK K KS
  (try simp only [List.getElem_toArray, List.getElem_cons_succ, List.getElem_cons_zero, Act.put, List.setIfInBounds_toArray, List.set_cons_zero, List.set_cons_succ])
  (refine wpAnyH_take (i := 3) (v := ?_) rfl (by kernel_rfl) (by kernel_rfl) (by kernel_rfl) (fun _ _ _ h => h) (Or.inl ⟨by kernel_rfl, ?_⟩) (by assumption) ?_; rotate_left; focus (intro w hSw; (try dsimp only at hSw); go_simp; try with_reducible rfl); (try simp only [List.getElem_toArray, List.getElem_cons_succ, List.getElem_cons_zero, Act.put, List.setIfInBounds_toArray, List.set_cons_zero, List.set_cons_succ]))
  (refine wpAnyH_take (i := 4) (v := undef) rfl (by kernel_rfl) (by kernel_rfl) (by kernel_rfl) (fun _ _ _ h => h) (Or.inr ⟨by kernel_rfl, rfl⟩) (by assumption) ?_; (try simp only [List.getElem_toArray, List.getElem_cons_succ, List.getElem_cons_zero, Act.put, List.setIfInBounds_toArray, List.set_cons_zero, List.set_cons_succ])); (refine wpAnyH_take (i := 5) (v := undef) rfl (by kernel_rfl) (by kernel_rfl) (by kernel_rfl) (fun _ _ _ h => h) (Or.inr ⟨by kernel_rfl, rfl⟩) (by assumption) ?_; (try simp only [List.getElem_toArray, List.getElem_cons_succ, List.getElem_cons_zero, Act.put, List.setIfInBounds_toArray, List.set_cons_zero, List.set_cons_succ])); (refine wpAnyH_take (i := 6) (v := undef) rfl (by kernel_rfl) (by kernel_rfl) (by kernel_rfl) (fun _ _ _ h => h) (Or.inr ⟨by kernel_rfl, rfl⟩) (by assumption) ?_; (try simp only [List.getElem_toArray, List.getElem_cons_succ, List.getElem_cons_zero, Act.put, List.setIfInBounds_toArray, List.set_cons_zero, List.set_cons_succ])); (refine wpAnyH_take (i := 7) (v := undef) rfl (by kernel_rfl) (by kernel_rfl) (by kernel_rfl) (fun _ _ _ h => h) (Or.inr ⟨by kernel_rfl, rfl⟩) (by assumption) ?_; (try simp only [List.getElem_toArray, List.getElem_cons_succ, List.getElem_cons_zero, Act.put, List.setIfInBounds_toArray, List.set_cons_zero, List.set_cons_succ]))
  (refine wpAnyH_take (i := 8) (v := ?_) rfl (by kernel_rfl) (by kernel_rfl) (by kernel_rfl) (fun _ _ _ h => h) (Or.inl ⟨by kernel_rfl, ?_⟩) (by assumption) ?_; rotate_left; focus (intro w hSw; (try dsimp only at hSw); go_simp; try with_reducible rfl); (try simp only [List.getElem_toArray, List.getElem_cons_succ, List.getElem_cons_zero, Act.put, List.setIfInBounds_toArray, List.set_cons_zero, List.set_cons_succ]))
  refine wpAnyH_ready (rs := [9]) (by kernel_rfl) (by simp) (AllReadyH.cons rfl (fun K hK => ?_) AllReadyH.nil)
  have HS := Lib.hid hHeld.2.2; clear hHeld
  obtain ⟨r1, l1, h2⟩ := HS.out.2.1
  obtain ⟨-, z0, z1, z3, z4⟩ := h2
  have KS := Lib.hid (p2_of (p0_put hne HS.out)); clear HS
  go_simp
  refine hK.out _ _ (p0_of (p2_weak KS.out.2.2)) (fun _ => ?_)
  clear hK K z0 z1 z3 z4
  refine anyH_mono (S2 := (fun w' => w'.cell? ⟨b, 0, none⟩ = some (.int .i64 r) ∧ w'.cell? ⟨b, 1, none⟩ = some (.int .i64 1) ∧ PaR2 w b r 1 w')) (fun _ h => p0_of (p2_weak h.2.2)) _ _ _ _ ?_
  have hHeld := KS.out
  clear KS
  (try simp only [List.getElem_toArray, List.getElem_cons_succ, List.getElem_cons_zero, Act.put, List.setIfInBounds_toArray, List.set_cons_zero, List.set_cons_succ])
  (refine wpAnyH_take (i := 10) (v := ?_) rfl (by kernel_rfl) (by kernel_rfl) (by kernel_rfl) (fun _ _ _ h => h) (Or.inl ⟨by kernel_rfl, ?_⟩) (by assumption) ?_; rotate_left; focus (intro w hSw; (try dsimp only at hSw); go_simp; try with_reducible rfl); (try simp only [List.getElem_toArray, List.getElem_cons_succ, List.getElem_cons_zero, Act.put, List.setIfInBounds_toArray, List.set_cons_zero, List.set_cons_succ]))
  refine wpAnyH_done (by kernel_rfl) ?_ _
  have HS := Lib.hid hHeld.2.2; clear hHeld
  obtain ⟨-, z0, z1, -, -⟩ := HS.out.2.1
  go_wp2_with fail
  refine bodyPost_ret (v := .tuple #[.agg #[.int .i64 r, .int .i64 1], .bool false]) (by simp [results, Tryd.results44, go_sem, z0, z1]) rfl ⟨rfl, HS.out.2.2⟩

set_option maxHeartbeats 3200000 in
set_option maxRecDepth 100000 in
theorem daP_o_good (s : ByteArray) (h1 : 1 ≤ s.size) (h3 : s.size ≤ 3) (hc : s[0]'(by omega) ≠ 100 ∧ s[0]'(by omega) ≠ 116) (r : Int)
    (hr : ∀ w : World, Calls Tryd.prog 38 #[.string s] w fun e w' => e = .returned (.int .i64 r) ∧ w = w')
    (hgd : goodB r 1 = true) (T : ByteArray) (hT : ∀ w : World, Calls Tryd.prog 85 #[.agg #[.int .i64 r, .int .i64 1]] w fun e w' => e = .returned (.string T) ∧ Below w.heap.size w w') (w : World) :
    Calls Tryd.prog 44 #[.string s] w fun e w' => e = .returned (.tuple #[.agg #[.int .i64 r, .int .i64 1], .bool (T.toList == s.toList)]) ∧ Below w.heap.size w w' := by
  have HG := Lib.hid hgd; clear hgd
  have HT := Lib.hid hT; clear hT
  have hin : inR (s.size : Int) 1 3 = true := by unfold inR; simp; omega
  have hix0 := rindex s 0 (by omega)
  rw [show ((0 : Nat) : Int) = 0 from rfl] at hix0
  have e100 := beqN (s[0]'(by omega)) 100
  have e116 := beqN (s[0]'(by omega)) 116
  rw [show (((100 : UInt8).toNat : Nat) : Int) = 100 from rfl] at e100
  rw [show (((116 : UInt8).toNat : Nat) : Int) = 116 from rfl] at e116
  rw [decide_eq_false hc.1] at e100
  rw [decide_eq_false hc.2] at e116
  have HRD := Lib.hid hr; clear hr
  have tA := DtAt.new w 0 0
  have B0 : Below w.heap.size w (w.alloc (.cells #[.int .i64 0, .int .i64 0] 69)) := (Below.refl _ _).alloc (Nat.le_refl _) _
  have HA := Lib.hid (And.intro tA B0); clear tA B0
  generalize s[0]'(by omega) = c at *
  clear hc
  have HI := Lib.hid hin; clear hin
  go_enter Tryd.func44, Tryd.ntmps44
  go_wp2_with fail
  refine (l1In_any _ _ _ _).mono ?_; rintro e w' ⟨rfl, rfl⟩
  rw [HI.out]
  go_wp2_with fail
  refine (HRD.out _).mono ?_; rintro e w' ⟨rfl, rfl⟩
  go_wp2_with fail
  have hb1 : (w.alloc (.cells #[.int .i64 0, .int .i64 0] 69)).heap.size = w.heap.size + 1 := by simp
  have tN := DtAt.new (w.alloc (.cells #[.int .i64 0, .int .i64 0] 69)) r 1
  rw [hb1] at tN
  have tG : DtAt ((w.alloc (.cells #[.int .i64 0, .int .i64 0] 69)).alloc (.cells #[.int .i64 r, .int .i64 1] 69)) w.heap.size 0 0 := HA.out.1.keep ((Below.refl _ _).alloc (Nat.le_refl _) _)
  have B1 : Below w.heap.size w ((w.alloc (.cells #[.int .i64 0, .int .i64 0] 69)).alloc (.cells #[.int .i64 r, .int .i64 1] 69)) := HA.out.2.alloc HA.out.2.size _
  have hne : w.heap.size + 1 ≠ w.heap.size := by omega
  clear HA hb1
  generalize (w.alloc (.cells #[.int .i64 0, .int .i64 0] 69)).alloc (.cells #[.int .i64 r, .int .i64 1] 69) = Y at *
  generalize w.heap.size + 1 = b at *
  have hr0 := p0_of (⟨tN.drew, ⟨_, _, tG.drew⟩, B1.drew⟩ : PaR0 w b r 1 Y.drew)
  clear tN tG B1
  have HR0 := Lib.hid hr0; clear hr0
  refine wp_region_held_drew (S := (fun w' => w'.cell? ⟨b, 0, none⟩ = some (.int .i64 r) ∧ w'.cell? ⟨b, 1, none⟩ = some (.int .i64 1) ∧ PaR0 w b r 1 w')) (by kernel_rfl) HR0.out (fun hHeld => ?_)
  clear HR0
  generalize Y.drew = Z at *
  (refine wpAnyH_take (i := 0) (v := ?_) rfl (by kernel_rfl) (by kernel_rfl) (by kernel_rfl) (fun _ _ _ h => h) (Or.inl ⟨by kernel_rfl, ?_⟩) (by assumption) ?_; rotate_left; focus (intro w hSw; (try dsimp only at hSw); go_simp; try with_reducible rfl); (try simp only [List.getElem_toArray, List.getElem_cons_succ, List.getElem_cons_zero, Act.put, List.setIfInBounds_toArray, List.set_cons_zero, List.set_cons_succ])); (refine wpAnyH_take (i := 1) (v := ?_) rfl (by kernel_rfl) (by kernel_rfl) (by kernel_rfl) (fun _ _ _ h => h) (Or.inl ⟨by kernel_rfl, ?_⟩) (by assumption) ?_; rotate_left; focus (intro w hSw; (try dsimp only at hSw); go_simp; try with_reducible rfl); (try simp only [List.getElem_toArray, List.getElem_cons_succ, List.getElem_cons_zero, Act.put, List.setIfInBounds_toArray, List.set_cons_zero, List.set_cons_succ]))
  refine wpAnyH_ready (rs := [2]) (by kernel_rfl) (by simp) (AllReadyH.cons rfl (fun K hK => ?_) AllReadyH.nil)
  have HS := Lib.hid hHeld.2.2; clear hHeld
  go_simp
  go_at_call 84
  refine (daGood_any _ _ _).mono ?_; rintro e w' ⟨rfl, bd⟩
  rw [HG.out]
  have KS := Lib.hid (p0_of (p0_keep bd HS.out)); clear HS bd
  go_wp2_with fail
  refine hK.out _ _ KS.out (fun hHeld => ?_)
  clear hK K KS
  (try simp only [List.getElem_toArray, List.getElem_cons_succ, List.getElem_cons_zero, Act.put, List.setIfInBounds_toArray, List.set_cons_zero, List.set_cons_succ])
  (refine wpAnyH_take (i := 3) (v := ?_) rfl (by kernel_rfl) (by kernel_rfl) (by kernel_rfl) (fun _ _ _ h => h) (Or.inl ⟨by kernel_rfl, ?_⟩) (by assumption) ?_; rotate_left; focus (intro w hSw; (try dsimp only at hSw); go_simp; try with_reducible rfl); (try simp only [List.getElem_toArray, List.getElem_cons_succ, List.getElem_cons_zero, Act.put, List.setIfInBounds_toArray, List.set_cons_zero, List.set_cons_succ])); (refine wpAnyH_take (i := 4) (v := ?_) rfl (by kernel_rfl) (by kernel_rfl) (by kernel_rfl) (fun _ _ _ h => h) (Or.inl ⟨by kernel_rfl, ?_⟩) (by assumption) ?_; rotate_left; focus (intro w hSw; (try dsimp only at hSw); go_simp; try with_reducible rfl); (try simp only [List.getElem_toArray, List.getElem_cons_succ, List.getElem_cons_zero, Act.put, List.setIfInBounds_toArray, List.set_cons_zero, List.set_cons_succ])); (refine wpAnyH_take (i := 6) (v := ?_) rfl (by kernel_rfl) (by kernel_rfl) (by kernel_rfl) (fun _ _ _ h => h) (Or.inl ⟨by kernel_rfl, ?_⟩) (by assumption) ?_; rotate_left; focus (intro w hSw; (try dsimp only at hSw); go_simp; try with_reducible rfl); (try simp only [List.getElem_toArray, List.getElem_cons_succ, List.getElem_cons_zero, Act.put, List.setIfInBounds_toArray, List.set_cons_zero, List.set_cons_succ]))
  refine wpAnyH_ready (rs := [5]) (by kernel_rfl) (by simp) (AllReadyH.cons rfl (fun K hK => ?_) AllReadyH.nil)
  have HS := Lib.hid hHeld.2.2; clear hHeld
  go_simp
  go_at_call 85
  refine (HT.out _).mono ?_; rintro e w' ⟨rfl, bd⟩
  have KS := Lib.hid (p0_of (p0_keep bd HS.out)); clear HS bd
  go_wp2_with fail
  refine hK.out _ _ KS.out (fun hHeld => ?_)
  clear hK K KS
  (try simp only [List.getElem_toArray, List.getElem_cons_succ, List.getElem_cons_zero, Act.put, List.setIfInBounds_toArray, List.set_cons_zero, List.set_cons_succ])
  (refine wpAnyH_take (i := 7) (v := ?_) rfl (by kernel_rfl) (by kernel_rfl) (by kernel_rfl) (fun _ _ _ h => h) (Or.inl ⟨by kernel_rfl, ?_⟩) (by assumption) ?_; rotate_left; focus (intro w hSw; (try dsimp only at hSw); go_simp; try with_reducible rfl); (try simp only [List.getElem_toArray, List.getElem_cons_succ, List.getElem_cons_zero, Act.put, List.setIfInBounds_toArray, List.set_cons_zero, List.set_cons_succ])); (refine wpAnyH_take (i := 8) (v := ?_) rfl (by kernel_rfl) (by kernel_rfl) (by kernel_rfl) (fun _ _ _ h => h) (Or.inl ⟨by kernel_rfl, ?_⟩) (by assumption) ?_; rotate_left; focus (intro w hSw; (try dsimp only at hSw); go_simp; try with_reducible rfl); (try simp only [List.getElem_toArray, List.getElem_cons_succ, List.getElem_cons_zero, Act.put, List.setIfInBounds_toArray, List.set_cons_zero, List.set_cons_succ]))
  refine wpAnyH_ready (rs := [9]) (by kernel_rfl) (by simp) (AllReadyH.cons rfl (fun K hK => ?_) AllReadyH.nil)
  have HS := Lib.hid hHeld.2.2; clear hHeld
  obtain ⟨r1, l1, h2⟩ := HS.out.2.1
  obtain ⟨-, z0, z1, z3, z4⟩ := h2
  have KS := Lib.hid (p2_of (p0_put hne HS.out)); clear HS
  go_simp
  refine hK.out _ _ (p0_of (p2_weak KS.out.2.2)) (fun _ => ?_)
  clear hK K z0 z1 z3 z4
  refine anyH_mono (S2 := (fun w' => w'.cell? ⟨b, 0, none⟩ = some (.int .i64 r) ∧ w'.cell? ⟨b, 1, none⟩ = some (.int .i64 1) ∧ PaR2 w b r 1 w')) (fun _ h => p0_of (p2_weak h.2.2)) _ _ _ _ ?_
  have hHeld := KS.out
  clear KS
  (try simp only [List.getElem_toArray, List.getElem_cons_succ, List.getElem_cons_zero, Act.put, List.setIfInBounds_toArray, List.set_cons_zero, List.set_cons_succ])
  (refine wpAnyH_take (i := 10) (v := ?_) rfl (by kernel_rfl) (by kernel_rfl) (by kernel_rfl) (fun _ _ _ h => h) (Or.inl ⟨by kernel_rfl, ?_⟩) (by assumption) ?_; rotate_left; focus (intro w hSw; (try dsimp only at hSw); go_simp; try with_reducible rfl); (try simp only [List.getElem_toArray, List.getElem_cons_succ, List.getElem_cons_zero, Act.put, List.setIfInBounds_toArray, List.set_cons_zero, List.set_cons_succ]))
  refine wpAnyH_done (by kernel_rfl) ?_ _
  have HS := Lib.hid hHeld.2.2; clear hHeld
  obtain ⟨-, z0, z1, -, -⟩ := HS.out.2.1
  go_wp2_with fail
  refine bodyPost_ret (v := .tuple #[.agg #[.int .i64 r, .int .i64 1], .bool (T.toList == s.toList)]) (by simp [results, Tryd.results44, go_sem, z0, z1]) rfl ⟨rfl, HS.out.2.2⟩

set_option maxHeartbeats 3200000 in
set_option maxRecDepth 100000 in
theorem daP_d_bad (s : ByteArray) (h1 : 1 ≤ s.size) (h3 : s.size ≤ 3) (hc : s[0]'(by omega) = 100) (r : Int)
    (hr : ∀ w : World, Calls Tryd.prog 38 #[.string (s.extract 1 s.size)] w fun e w' => e = .returned (.int .i64 r) ∧ w = w')
    (hgd : goodB r 2 = false) (w : World) :
    Calls Tryd.prog 44 #[.string s] w fun e w' => e = .returned (.tuple #[.agg #[.int .i64 r, .int .i64 2], .bool false]) ∧ Below w.heap.size w w' := by
  have HG := Lib.hid hgd; clear hgd
  have hin : inR (s.size : Int) 1 3 = true := by unfold inR; simp; omega
  have hix0 := rindex s 0 (by omega)
  rw [show ((0 : Nat) : Int) = 0 from rfl] at hix0
  have e100 := beqN (s[0]'(by omega)) 100
  have e116 := beqN (s[0]'(by omega)) 116
  rw [show (((100 : UInt8).toNat : Nat) : Int) = 100 from rfl] at e100
  rw [show (((116 : UInt8).toNat : Nat) : Int) = 116 from rfl] at e116
  rw [decide_eq_true hc] at e100
  clear e116
  have HRD := Lib.hid hr; clear hr
  obtain ⟨r0, hr0⟩ : ∃ r0, ∀ w : World, Calls Tryd.prog 38 #[.string s] w fun e w' => e = .returned (.int .i64 r0) ∧ w = w' := ⟨_, fun w => l1Read_any s (by omega) w⟩
  have HR1 := Lib.hid hr0; clear hr0
  have tA := DtAt.new w 0 0
  have B0 : Below w.heap.size w (w.alloc (.cells #[.int .i64 0, .int .i64 0] 69)) := (Below.refl _ _).alloc (Nat.le_refl _) _
  have HA := Lib.hid (And.intro tA B0); clear tA B0
  generalize s[0]'(by omega) = c at *
  clear hc
  have HI := Lib.hid hin; clear hin
  go_enter Tryd.func44, Tryd.ntmps44
  go_wp2_with fail
  refine (l1In_any _ _ _ _).mono ?_; rintro e w' ⟨rfl, rfl⟩
  rw [HI.out]
  go_wp2_with fail
  refine (HR1.out _).mono ?_; rintro e w' ⟨rfl, rfl⟩
  go_wp2_with fail
  refine (HRD.out _).mono ?_; rintro e w' ⟨rfl, rfl⟩
  go_wp2_with fail
  have hb1 : (w.alloc (.cells #[.int .i64 0, .int .i64 0] 69)).heap.size = w.heap.size + 1 := by simp
  have tN := DtAt.new (w.alloc (.cells #[.int .i64 0, .int .i64 0] 69)) r 2
  rw [hb1] at tN
  have tG : DtAt ((w.alloc (.cells #[.int .i64 0, .int .i64 0] 69)).alloc (.cells #[.int .i64 r, .int .i64 2] 69)) w.heap.size 0 0 := HA.out.1.keep ((Below.refl _ _).alloc (Nat.le_refl _) _)
  have B1 : Below w.heap.size w ((w.alloc (.cells #[.int .i64 0, .int .i64 0] 69)).alloc (.cells #[.int .i64 r, .int .i64 2] 69)) := HA.out.2.alloc HA.out.2.size _
  have hne : w.heap.size + 1 ≠ w.heap.size := by omega
  clear HA hb1
  generalize (w.alloc (.cells #[.int .i64 0, .int .i64 0] 69)).alloc (.cells #[.int .i64 r, .int .i64 2] 69) = Y at *
  generalize w.heap.size + 1 = b at *
  have hr0 := p0_of (⟨tN.drew, ⟨_, _, tG.drew⟩, B1.drew⟩ : PaR0 w b r 2 Y.drew)
  clear tN tG B1
  have HR0 := Lib.hid hr0; clear hr0
  refine wp_region_held_drew (S := (fun w' => w'.cell? ⟨b, 0, none⟩ = some (.int .i64 r) ∧ w'.cell? ⟨b, 1, none⟩ = some (.int .i64 2) ∧ PaR0 w b r 2 w')) (by kernel_rfl) HR0.out (fun hHeld => ?_)
  clear HR0
  generalize Y.drew = Z at *
  (refine wpAnyH_take (i := 0) (v := ?_) rfl (by kernel_rfl) (by kernel_rfl) (by kernel_rfl) (fun _ _ _ h => h) (Or.inl ⟨by kernel_rfl, ?_⟩) (by assumption) ?_; rotate_left; focus (intro w hSw; (try dsimp only at hSw); go_simp; try with_reducible rfl); (try simp only [List.getElem_toArray, List.getElem_cons_succ, List.getElem_cons_zero, Act.put, List.setIfInBounds_toArray, List.set_cons_zero, List.set_cons_succ])); (refine wpAnyH_take (i := 1) (v := ?_) rfl (by kernel_rfl) (by kernel_rfl) (by kernel_rfl) (fun _ _ _ h => h) (Or.inl ⟨by kernel_rfl, ?_⟩) (by assumption) ?_; rotate_left; focus (intro w hSw; (try dsimp only at hSw); go_simp; try with_reducible rfl); (try simp only [List.getElem_toArray, List.getElem_cons_succ, List.getElem_cons_zero, Act.put, List.setIfInBounds_toArray, List.set_cons_zero, List.set_cons_succ]))
  refine wpAnyH_ready (rs := [2]) (by kernel_rfl) (by simp) (AllReadyH.cons rfl (fun K hK => ?_) AllReadyH.nil)
  have HS := Lib.hid hHeld.2.2; clear hHeld
  go_simp
  go_at_call 84
  refine (daGood_any _ _ _).mono ?_; rintro e w' ⟨rfl, bd⟩
  rw [HG.out]
  have KS := Lib.hid (p0_of (p0_keep bd HS.out)); clear HS bd
  go_wp2_with fail
  refine hK.out _ _ KS.out (fun hHeld => ?_)
  clear hK K KS
  (try simp only [List.getElem_toArray, List.getElem_cons_succ, List.getElem_cons_zero, Act.put, List.setIfInBounds_toArray, List.set_cons_zero, List.set_cons_succ])
  (refine wpAnyH_take (i := 3) (v := ?_) rfl (by kernel_rfl) (by kernel_rfl) (by kernel_rfl) (fun _ _ _ h => h) (Or.inl ⟨by kernel_rfl, ?_⟩) (by assumption) ?_; rotate_left; focus (intro w hSw; (try dsimp only at hSw); go_simp; try with_reducible rfl); (try simp only [List.getElem_toArray, List.getElem_cons_succ, List.getElem_cons_zero, Act.put, List.setIfInBounds_toArray, List.set_cons_zero, List.set_cons_succ]))
  (refine wpAnyH_take (i := 4) (v := undef) rfl (by kernel_rfl) (by kernel_rfl) (by kernel_rfl) (fun _ _ _ h => h) (Or.inr ⟨by kernel_rfl, rfl⟩) (by assumption) ?_; (try simp only [List.getElem_toArray, List.getElem_cons_succ, List.getElem_cons_zero, Act.put, List.setIfInBounds_toArray, List.set_cons_zero, List.set_cons_succ])); (refine wpAnyH_take (i := 5) (v := undef) rfl (by kernel_rfl) (by kernel_rfl) (by kernel_rfl) (fun _ _ _ h => h) (Or.inr ⟨by kernel_rfl, rfl⟩) (by assumption) ?_; (try simp only [List.getElem_toArray, List.getElem_cons_succ, List.getElem_cons_zero, Act.put, List.setIfInBounds_toArray, List.set_cons_zero, List.set_cons_succ])); (refine wpAnyH_take (i := 6) (v := undef) rfl (by kernel_rfl) (by kernel_rfl) (by kernel_rfl) (fun _ _ _ h => h) (Or.inr ⟨by kernel_rfl, rfl⟩) (by assumption) ?_; (try simp only [List.getElem_toArray, List.getElem_cons_succ, List.getElem_cons_zero, Act.put, List.setIfInBounds_toArray, List.set_cons_zero, List.set_cons_succ])); (refine wpAnyH_take (i := 7) (v := undef) rfl (by kernel_rfl) (by kernel_rfl) (by kernel_rfl) (fun _ _ _ h => h) (Or.inr ⟨by kernel_rfl, rfl⟩) (by assumption) ?_; (try simp only [List.getElem_toArray, List.getElem_cons_succ, List.getElem_cons_zero, Act.put, List.setIfInBounds_toArray, List.set_cons_zero, List.set_cons_succ]))
  (refine wpAnyH_take (i := 8) (v := ?_) rfl (by kernel_rfl) (by kernel_rfl) (by kernel_rfl) (fun _ _ _ h => h) (Or.inl ⟨by kernel_rfl, ?_⟩) (by assumption) ?_; rotate_left; focus (intro w hSw; (try dsimp only at hSw); go_simp; try with_reducible rfl); (try simp only [List.getElem_toArray, List.getElem_cons_succ, List.getElem_cons_zero, Act.put, List.setIfInBounds_toArray, List.set_cons_zero, List.set_cons_succ]))
  refine wpAnyH_ready (rs := [9]) (by kernel_rfl) (by simp) (AllReadyH.cons rfl (fun K hK => ?_) AllReadyH.nil)
  have HS := Lib.hid hHeld.2.2; clear hHeld
  obtain ⟨r1, l1, h2⟩ := HS.out.2.1
  obtain ⟨-, z0, z1, z3, z4⟩ := h2
  have KS := Lib.hid (p2_of (p0_put hne HS.out)); clear HS
  go_simp
  refine hK.out _ _ (p0_of (p2_weak KS.out.2.2)) (fun _ => ?_)
  clear hK K z0 z1 z3 z4
  refine anyH_mono (S2 := (fun w' => w'.cell? ⟨b, 0, none⟩ = some (.int .i64 r) ∧ w'.cell? ⟨b, 1, none⟩ = some (.int .i64 2) ∧ PaR2 w b r 2 w')) (fun _ h => p0_of (p2_weak h.2.2)) _ _ _ _ ?_
  have hHeld := KS.out
  clear KS
  (try simp only [List.getElem_toArray, List.getElem_cons_succ, List.getElem_cons_zero, Act.put, List.setIfInBounds_toArray, List.set_cons_zero, List.set_cons_succ])
  (refine wpAnyH_take (i := 10) (v := ?_) rfl (by kernel_rfl) (by kernel_rfl) (by kernel_rfl) (fun _ _ _ h => h) (Or.inl ⟨by kernel_rfl, ?_⟩) (by assumption) ?_; rotate_left; focus (intro w hSw; (try dsimp only at hSw); go_simp; try with_reducible rfl); (try simp only [List.getElem_toArray, List.getElem_cons_succ, List.getElem_cons_zero, Act.put, List.setIfInBounds_toArray, List.set_cons_zero, List.set_cons_succ]))
  refine wpAnyH_done (by kernel_rfl) ?_ _
  have HS := Lib.hid hHeld.2.2; clear hHeld
  obtain ⟨-, z0, z1, -, -⟩ := HS.out.2.1
  go_wp2_with fail
  refine bodyPost_ret (v := .tuple #[.agg #[.int .i64 r, .int .i64 2], .bool false]) (by simp [results, Tryd.results44, go_sem, z0, z1]) rfl ⟨rfl, HS.out.2.2⟩

set_option maxHeartbeats 3200000 in
set_option maxRecDepth 100000 in
theorem daP_d_good (s : ByteArray) (h1 : 1 ≤ s.size) (h3 : s.size ≤ 3) (hc : s[0]'(by omega) = 100) (r : Int)
    (hr : ∀ w : World, Calls Tryd.prog 38 #[.string (s.extract 1 s.size)] w fun e w' => e = .returned (.int .i64 r) ∧ w = w')
    (hgd : goodB r 2 = true) (T : ByteArray) (hT : ∀ w : World, Calls Tryd.prog 85 #[.agg #[.int .i64 r, .int .i64 2]] w fun e w' => e = .returned (.string T) ∧ Below w.heap.size w w') (w : World) :
    Calls Tryd.prog 44 #[.string s] w fun e w' => e = .returned (.tuple #[.agg #[.int .i64 r, .int .i64 2], .bool (T.toList == s.toList)]) ∧ Below w.heap.size w w' := by
  have HG := Lib.hid hgd; clear hgd
  have HT := Lib.hid hT; clear hT
  have hin : inR (s.size : Int) 1 3 = true := by unfold inR; simp; omega
  have hix0 := rindex s 0 (by omega)
  rw [show ((0 : Nat) : Int) = 0 from rfl] at hix0
  have e100 := beqN (s[0]'(by omega)) 100
  have e116 := beqN (s[0]'(by omega)) 116
  rw [show (((100 : UInt8).toNat : Nat) : Int) = 100 from rfl] at e100
  rw [show (((116 : UInt8).toNat : Nat) : Int) = 116 from rfl] at e116
  rw [decide_eq_true hc] at e100
  clear e116
  have HRD := Lib.hid hr; clear hr
  obtain ⟨r0, hr0⟩ : ∃ r0, ∀ w : World, Calls Tryd.prog 38 #[.string s] w fun e w' => e = .returned (.int .i64 r0) ∧ w = w' := ⟨_, fun w => l1Read_any s (by omega) w⟩
  have HR1 := Lib.hid hr0; clear hr0
  have tA := DtAt.new w 0 0
  have B0 : Below w.heap.size w (w.alloc (.cells #[.int .i64 0, .int .i64 0] 69)) := (Below.refl _ _).alloc (Nat.le_refl _) _
  have HA := Lib.hid (And.intro tA B0); clear tA B0
  generalize s[0]'(by omega) = c at *
  clear hc
  have HI := Lib.hid hin; clear hin
  go_enter Tryd.func44, Tryd.ntmps44
  go_wp2_with fail
  refine (l1In_any _ _ _ _).mono ?_; rintro e w' ⟨rfl, rfl⟩
  rw [HI.out]
  go_wp2_with fail
  refine (HR1.out _).mono ?_; rintro e w' ⟨rfl, rfl⟩
  go_wp2_with fail
  refine (HRD.out _).mono ?_; rintro e w' ⟨rfl, rfl⟩
  go_wp2_with fail
  have hb1 : (w.alloc (.cells #[.int .i64 0, .int .i64 0] 69)).heap.size = w.heap.size + 1 := by simp
  have tN := DtAt.new (w.alloc (.cells #[.int .i64 0, .int .i64 0] 69)) r 2
  rw [hb1] at tN
  have tG : DtAt ((w.alloc (.cells #[.int .i64 0, .int .i64 0] 69)).alloc (.cells #[.int .i64 r, .int .i64 2] 69)) w.heap.size 0 0 := HA.out.1.keep ((Below.refl _ _).alloc (Nat.le_refl _) _)
  have B1 : Below w.heap.size w ((w.alloc (.cells #[.int .i64 0, .int .i64 0] 69)).alloc (.cells #[.int .i64 r, .int .i64 2] 69)) := HA.out.2.alloc HA.out.2.size _
  have hne : w.heap.size + 1 ≠ w.heap.size := by omega
  clear HA hb1
  generalize (w.alloc (.cells #[.int .i64 0, .int .i64 0] 69)).alloc (.cells #[.int .i64 r, .int .i64 2] 69) = Y at *
  generalize w.heap.size + 1 = b at *
  have hr0 := p0_of (⟨tN.drew, ⟨_, _, tG.drew⟩, B1.drew⟩ : PaR0 w b r 2 Y.drew)
  clear tN tG B1
  have HR0 := Lib.hid hr0; clear hr0
  refine wp_region_held_drew (S := (fun w' => w'.cell? ⟨b, 0, none⟩ = some (.int .i64 r) ∧ w'.cell? ⟨b, 1, none⟩ = some (.int .i64 2) ∧ PaR0 w b r 2 w')) (by kernel_rfl) HR0.out (fun hHeld => ?_)
  clear HR0
  generalize Y.drew = Z at *
  (refine wpAnyH_take (i := 0) (v := ?_) rfl (by kernel_rfl) (by kernel_rfl) (by kernel_rfl) (fun _ _ _ h => h) (Or.inl ⟨by kernel_rfl, ?_⟩) (by assumption) ?_; rotate_left; focus (intro w hSw; (try dsimp only at hSw); go_simp; try with_reducible rfl); (try simp only [List.getElem_toArray, List.getElem_cons_succ, List.getElem_cons_zero, Act.put, List.setIfInBounds_toArray, List.set_cons_zero, List.set_cons_succ])); (refine wpAnyH_take (i := 1) (v := ?_) rfl (by kernel_rfl) (by kernel_rfl) (by kernel_rfl) (fun _ _ _ h => h) (Or.inl ⟨by kernel_rfl, ?_⟩) (by assumption) ?_; rotate_left; focus (intro w hSw; (try dsimp only at hSw); go_simp; try with_reducible rfl); (try simp only [List.getElem_toArray, List.getElem_cons_succ, List.getElem_cons_zero, Act.put, List.setIfInBounds_toArray, List.set_cons_zero, List.set_cons_succ]))
  refine wpAnyH_ready (rs := [2]) (by kernel_rfl) (by simp) (AllReadyH.cons rfl (fun K hK => ?_) AllReadyH.nil)
  have HS := Lib.hid hHeld.2.2; clear hHeld
  go_simp
  go_at_call 84
  refine (daGood_any _ _ _).mono ?_; rintro e w' ⟨rfl, bd⟩
  rw [HG.out]
  have KS := Lib.hid (p0_of (p0_keep bd HS.out)); clear HS bd
  go_wp2_with fail
  refine hK.out _ _ KS.out (fun hHeld => ?_)
  clear hK K KS
  (try simp only [List.getElem_toArray, List.getElem_cons_succ, List.getElem_cons_zero, Act.put, List.setIfInBounds_toArray, List.set_cons_zero, List.set_cons_succ])
  (refine wpAnyH_take (i := 3) (v := ?_) rfl (by kernel_rfl) (by kernel_rfl) (by kernel_rfl) (fun _ _ _ h => h) (Or.inl ⟨by kernel_rfl, ?_⟩) (by assumption) ?_; rotate_left; focus (intro w hSw; (try dsimp only at hSw); go_simp; try with_reducible rfl); (try simp only [List.getElem_toArray, List.getElem_cons_succ, List.getElem_cons_zero, Act.put, List.setIfInBounds_toArray, List.set_cons_zero, List.set_cons_succ])); (refine wpAnyH_take (i := 4) (v := ?_) rfl (by kernel_rfl) (by kernel_rfl) (by kernel_rfl) (fun _ _ _ h => h) (Or.inl ⟨by kernel_rfl, ?_⟩) (by assumption) ?_; rotate_left; focus (intro w hSw; (try dsimp only at hSw); go_simp; try with_reducible rfl); (try simp only [List.getElem_toArray, List.getElem_cons_succ, List.getElem_cons_zero, Act.put, List.setIfInBounds_toArray, List.set_cons_zero, List.set_cons_succ])); (refine wpAnyH_take (i := 6) (v := ?_) rfl (by kernel_rfl) (by kernel_rfl) (by kernel_rfl) (fun _ _ _ h => h) (Or.inl ⟨by kernel_rfl, ?_⟩) (by assumption) ?_; rotate_left; focus (intro w hSw; (try dsimp only at hSw); go_simp; try with_reducible rfl); (try simp only [List.getElem_toArray, List.getElem_cons_succ, List.getElem_cons_zero, Act.put, List.setIfInBounds_toArray, List.set_cons_zero, List.set_cons_succ]))
  refine wpAnyH_ready (rs := [5]) (by kernel_rfl) (by simp) (AllReadyH.cons rfl (fun K hK => ?_) AllReadyH.nil)
  have HS := Lib.hid hHeld.2.2; clear hHeld
  go_simp
  go_at_call 85
  refine (HT.out _).mono ?_; rintro e w' ⟨rfl, bd⟩
  have KS := Lib.hid (p0_of (p0_keep bd HS.out)); clear HS bd
  go_wp2_with fail
  refine hK.out _ _ KS.out (fun hHeld => ?_)
  clear hK K KS
  (try simp only [List.getElem_toArray, List.getElem_cons_succ, List.getElem_cons_zero, Act.put, List.setIfInBounds_toArray, List.set_cons_zero, List.set_cons_succ])
  (refine wpAnyH_take (i := 7) (v := ?_) rfl (by kernel_rfl) (by kernel_rfl) (by kernel_rfl) (fun _ _ _ h => h) (Or.inl ⟨by kernel_rfl, ?_⟩) (by assumption) ?_; rotate_left; focus (intro w hSw; (try dsimp only at hSw); go_simp; try with_reducible rfl); (try simp only [List.getElem_toArray, List.getElem_cons_succ, List.getElem_cons_zero, Act.put, List.setIfInBounds_toArray, List.set_cons_zero, List.set_cons_succ])); (refine wpAnyH_take (i := 8) (v := ?_) rfl (by kernel_rfl) (by kernel_rfl) (by kernel_rfl) (fun _ _ _ h => h) (Or.inl ⟨by kernel_rfl, ?_⟩) (by assumption) ?_; rotate_left; focus (intro w hSw; (try dsimp only at hSw); go_simp; try with_reducible rfl); (try simp only [List.getElem_toArray, List.getElem_cons_succ, List.getElem_cons_zero, Act.put, List.setIfInBounds_toArray, List.set_cons_zero, List.set_cons_succ]))
  refine wpAnyH_ready (rs := [9]) (by kernel_rfl) (by simp) (AllReadyH.cons rfl (fun K hK => ?_) AllReadyH.nil)
  have HS := Lib.hid hHeld.2.2; clear hHeld
  obtain ⟨r1, l1, h2⟩ := HS.out.2.1
  obtain ⟨-, z0, z1, z3, z4⟩ := h2
  have KS := Lib.hid (p2_of (p0_put hne HS.out)); clear HS
  go_simp
  refine hK.out _ _ (p0_of (p2_weak KS.out.2.2)) (fun _ => ?_)
  clear hK K z0 z1 z3 z4
  refine anyH_mono (S2 := (fun w' => w'.cell? ⟨b, 0, none⟩ = some (.int .i64 r) ∧ w'.cell? ⟨b, 1, none⟩ = some (.int .i64 2) ∧ PaR2 w b r 2 w')) (fun _ h => p0_of (p2_weak h.2.2)) _ _ _ _ ?_
  have hHeld := KS.out
  clear KS
  (try simp only [List.getElem_toArray, List.getElem_cons_succ, List.getElem_cons_zero, Act.put, List.setIfInBounds_toArray, List.set_cons_zero, List.set_cons_succ])
  (refine wpAnyH_take (i := 10) (v := ?_) rfl (by kernel_rfl) (by kernel_rfl) (by kernel_rfl) (fun _ _ _ h => h) (Or.inl ⟨by kernel_rfl, ?_⟩) (by assumption) ?_; rotate_left; focus (intro w hSw; (try dsimp only at hSw); go_simp; try with_reducible rfl); (try simp only [List.getElem_toArray, List.getElem_cons_succ, List.getElem_cons_zero, Act.put, List.setIfInBounds_toArray, List.set_cons_zero, List.set_cons_succ]))
  refine wpAnyH_done (by kernel_rfl) ?_ _
  have HS := Lib.hid hHeld.2.2; clear hHeld
  obtain ⟨-, z0, z1, -, -⟩ := HS.out.2.1
  go_wp2_with fail
  refine bodyPost_ret (v := .tuple #[.agg #[.int .i64 r, .int .i64 2], .bool (T.toList == s.toList)]) (by simp [results, Tryd.results44, go_sem, z0, z1]) rfl ⟨rfl, HS.out.2.2⟩

set_option maxHeartbeats 3200000 in
set_option maxRecDepth 100000 in
theorem daP_t_bad (s : ByteArray) (h1 : 1 ≤ s.size) (h3 : s.size ≤ 3) (hc : s[0]'(by omega) = 116) (r : Int)
    (hr : ∀ w : World, Calls Tryd.prog 38 #[.string (s.extract 1 s.size)] w fun e w' => e = .returned (.int .i64 r) ∧ w = w')
    (hgd : goodB r 3 = false) (w : World) :
    Calls Tryd.prog 44 #[.string s] w fun e w' => e = .returned (.tuple #[.agg #[.int .i64 r, .int .i64 3], .bool false]) ∧ Below w.heap.size w w' := by
  have HG := Lib.hid hgd; clear hgd
  have hin : inR (s.size : Int) 1 3 = true := by unfold inR; simp; omega
  have hix0 := rindex s 0 (by omega)
  rw [show ((0 : Nat) : Int) = 0 from rfl] at hix0
  have e100 := beqN (s[0]'(by omega)) 100
  have e116 := beqN (s[0]'(by omega)) 116
  rw [show (((100 : UInt8).toNat : Nat) : Int) = 100 from rfl] at e100
  rw [show (((116 : UInt8).toNat : Nat) : Int) = 116 from rfl] at e116
  rw [decide_eq_false (by rw [hc]; decide)] at e100
  rw [decide_eq_true hc] at e116
  have HRD := Lib.hid hr; clear hr
  obtain ⟨r0, hr0⟩ : ∃ r0, ∀ w : World, Calls Tryd.prog 38 #[.string s] w fun e w' => e = .returned (.int .i64 r0) ∧ w = w' := ⟨_, fun w => l1Read_any s (by omega) w⟩
  have HR1 := Lib.hid hr0; clear hr0
  have tA := DtAt.new w 0 0
  have B0 : Below w.heap.size w (w.alloc (.cells #[.int .i64 0, .int .i64 0] 69)) := (Below.refl _ _).alloc (Nat.le_refl _) _
  have HA := Lib.hid (And.intro tA B0); clear tA B0
  generalize s[0]'(by omega) = c at *
  clear hc
  have HI := Lib.hid hin; clear hin
  go_enter Tryd.func44, Tryd.ntmps44
  go_wp2_with fail
  refine (l1In_any _ _ _ _).mono ?_; rintro e w' ⟨rfl, rfl⟩
  rw [HI.out]
  go_wp2_with fail
  refine (HR1.out _).mono ?_; rintro e w' ⟨rfl, rfl⟩
  go_wp2_with fail
  refine (HRD.out _).mono ?_; rintro e w' ⟨rfl, rfl⟩
  go_wp2_with fail
  have hb1 : (w.alloc (.cells #[.int .i64 0, .int .i64 0] 69)).heap.size = w.heap.size + 1 := by simp
  have tN := DtAt.new (w.alloc (.cells #[.int .i64 0, .int .i64 0] 69)) r 3
  rw [hb1] at tN
  have tG : DtAt ((w.alloc (.cells #[.int .i64 0, .int .i64 0] 69)).alloc (.cells #[.int .i64 r, .int .i64 3] 69)) w.heap.size 0 0 := HA.out.1.keep ((Below.refl _ _).alloc (Nat.le_refl _) _)
  have B1 : Below w.heap.size w ((w.alloc (.cells #[.int .i64 0, .int .i64 0] 69)).alloc (.cells #[.int .i64 r, .int .i64 3] 69)) := HA.out.2.alloc HA.out.2.size _
  have hne : w.heap.size + 1 ≠ w.heap.size := by omega
  clear HA hb1
  generalize (w.alloc (.cells #[.int .i64 0, .int .i64 0] 69)).alloc (.cells #[.int .i64 r, .int .i64 3] 69) = Y at *
  generalize w.heap.size + 1 = b at *
  have hr0 := p0_of (⟨tN.drew, ⟨_, _, tG.drew⟩, B1.drew⟩ : PaR0 w b r 3 Y.drew)
  clear tN tG B1
  have HR0 := Lib.hid hr0; clear hr0
  refine wp_region_held_drew (S := (fun w' => w'.cell? ⟨b, 0, none⟩ = some (.int .i64 r) ∧ w'.cell? ⟨b, 1, none⟩ = some (.int .i64 3) ∧ PaR0 w b r 3 w')) (by kernel_rfl) HR0.out (fun hHeld => ?_)
  clear HR0
  generalize Y.drew = Z at *
  (refine wpAnyH_take (i := 0) (v := ?_) rfl (by kernel_rfl) (by kernel_rfl) (by kernel_rfl) (fun _ _ _ h => h) (Or.inl ⟨by kernel_rfl, ?_⟩) (by assumption) ?_; rotate_left; focus (intro w hSw; (try dsimp only at hSw); go_simp; try with_reducible rfl); (try simp only [List.getElem_toArray, List.getElem_cons_succ, List.getElem_cons_zero, Act.put, List.setIfInBounds_toArray, List.set_cons_zero, List.set_cons_succ])); (refine wpAnyH_take (i := 1) (v := ?_) rfl (by kernel_rfl) (by kernel_rfl) (by kernel_rfl) (fun _ _ _ h => h) (Or.inl ⟨by kernel_rfl, ?_⟩) (by assumption) ?_; rotate_left; focus (intro w hSw; (try dsimp only at hSw); go_simp; try with_reducible rfl); (try simp only [List.getElem_toArray, List.getElem_cons_succ, List.getElem_cons_zero, Act.put, List.setIfInBounds_toArray, List.set_cons_zero, List.set_cons_succ]))
  refine wpAnyH_ready (rs := [2]) (by kernel_rfl) (by simp) (AllReadyH.cons rfl (fun K hK => ?_) AllReadyH.nil)
  have HS := Lib.hid hHeld.2.2; clear hHeld
  go_simp
  go_at_call 84
  refine (daGood_any _ _ _).mono ?_; rintro e w' ⟨rfl, bd⟩
  rw [HG.out]
  have KS := Lib.hid (p0_of (p0_keep bd HS.out)); clear HS bd
  go_wp2_with fail
  refine hK.out _ _ KS.out (fun hHeld => ?_)
  clear hK K KS
  (try simp only [List.getElem_toArray, List.getElem_cons_succ, List.getElem_cons_zero, Act.put, List.setIfInBounds_toArray, List.set_cons_zero, List.set_cons_succ])
  (refine wpAnyH_take (i := 3) (v := ?_) rfl (by kernel_rfl) (by kernel_rfl) (by kernel_rfl) (fun _ _ _ h => h) (Or.inl ⟨by kernel_rfl, ?_⟩) (by assumption) ?_; rotate_left; focus (intro w hSw; (try dsimp only at hSw); go_simp; try with_reducible rfl); (try simp only [List.getElem_toArray, List.getElem_cons_succ, List.getElem_cons_zero, Act.put, List.setIfInBounds_toArray, List.set_cons_zero, List.set_cons_succ]))
  (refine wpAnyH_take (i := 4) (v := undef) rfl (by kernel_rfl) (by kernel_rfl) (by kernel_rfl) (fun _ _ _ h => h) (Or.inr ⟨by kernel_rfl, rfl⟩) (by assumption) ?_; (try simp only [List.getElem_toArray, List.getElem_cons_succ, List.getElem_cons_zero, Act.put, List.setIfInBounds_toArray, List.set_cons_zero, List.set_cons_succ])); (refine wpAnyH_take (i := 5) (v := undef) rfl (by kernel_rfl) (by kernel_rfl) (by kernel_rfl) (fun _ _ _ h => h) (Or.inr ⟨by kernel_rfl, rfl⟩) (by assumption) ?_; (try simp only [List.getElem_toArray, List.getElem_cons_succ, List.getElem_cons_zero, Act.put, List.setIfInBounds_toArray, List.set_cons_zero, List.set_cons_succ])); (refine wpAnyH_take (i := 6) (v := undef) rfl (by kernel_rfl) (by kernel_rfl) (by kernel_rfl) (fun _ _ _ h => h) (Or.inr ⟨by kernel_rfl, rfl⟩) (by assumption) ?_; (try simp only [List.getElem_toArray, List.getElem_cons_succ, List.getElem_cons_zero, Act.put, List.setIfInBounds_toArray, List.set_cons_zero, List.set_cons_succ])); (refine wpAnyH_take (i := 7) (v := undef) rfl (by kernel_rfl) (by kernel_rfl) (by kernel_rfl) (fun _ _ _ h => h) (Or.inr ⟨by kernel_rfl, rfl⟩) (by assumption) ?_; (try simp only [List.getElem_toArray, List.getElem_cons_succ, List.getElem_cons_zero, Act.put, List.setIfInBounds_toArray, List.set_cons_zero, List.set_cons_succ]))
  (refine wpAnyH_take (i := 8) (v := ?_) rfl (by kernel_rfl) (by kernel_rfl) (by kernel_rfl) (fun _ _ _ h => h) (Or.inl ⟨by kernel_rfl, ?_⟩) (by assumption) ?_; rotate_left; focus (intro w hSw; (try dsimp only at hSw); go_simp; try with_reducible rfl); (try simp only [List.getElem_toArray, List.getElem_cons_succ, List.getElem_cons_zero, Act.put, List.setIfInBounds_toArray, List.set_cons_zero, List.set_cons_succ]))
  refine wpAnyH_ready (rs := [9]) (by kernel_rfl) (by simp) (AllReadyH.cons rfl (fun K hK => ?_) AllReadyH.nil)
  have HS := Lib.hid hHeld.2.2; clear hHeld
  obtain ⟨r1, l1, h2⟩ := HS.out.2.1
  obtain ⟨-, z0, z1, z3, z4⟩ := h2
  have KS := Lib.hid (p2_of (p0_put hne HS.out)); clear HS
  go_simp
  refine hK.out _ _ (p0_of (p2_weak KS.out.2.2)) (fun _ => ?_)
  clear hK K z0 z1 z3 z4
  refine anyH_mono (S2 := (fun w' => w'.cell? ⟨b, 0, none⟩ = some (.int .i64 r) ∧ w'.cell? ⟨b, 1, none⟩ = some (.int .i64 3) ∧ PaR2 w b r 3 w')) (fun _ h => p0_of (p2_weak h.2.2)) _ _ _ _ ?_
  have hHeld := KS.out
  clear KS
  (try simp only [List.getElem_toArray, List.getElem_cons_succ, List.getElem_cons_zero, Act.put, List.setIfInBounds_toArray, List.set_cons_zero, List.set_cons_succ])
  (refine wpAnyH_take (i := 10) (v := ?_) rfl (by kernel_rfl) (by kernel_rfl) (by kernel_rfl) (fun _ _ _ h => h) (Or.inl ⟨by kernel_rfl, ?_⟩) (by assumption) ?_; rotate_left; focus (intro w hSw; (try dsimp only at hSw); go_simp; try with_reducible rfl); (try simp only [List.getElem_toArray, List.getElem_cons_succ, List.getElem_cons_zero, Act.put, List.setIfInBounds_toArray, List.set_cons_zero, List.set_cons_succ]))
  refine wpAnyH_done (by kernel_rfl) ?_ _
  have HS := Lib.hid hHeld.2.2; clear hHeld
  obtain ⟨-, z0, z1, -, -⟩ := HS.out.2.1
  go_wp2_with fail
  refine bodyPost_ret (v := .tuple #[.agg #[.int .i64 r, .int .i64 3], .bool false]) (by simp [results, Tryd.results44, go_sem, z0, z1]) rfl ⟨rfl, HS.out.2.2⟩

set_option maxHeartbeats 3200000 in
set_option maxRecDepth 100000 in
theorem daP_t_good (s : ByteArray) (h1 : 1 ≤ s.size) (h3 : s.size ≤ 3) (hc : s[0]'(by omega) = 116) (r : Int)
    (hr : ∀ w : World, Calls Tryd.prog 38 #[.string (s.extract 1 s.size)] w fun e w' => e = .returned (.int .i64 r) ∧ w = w')
    (hgd : goodB r 3 = true) (T : ByteArray) (hT : ∀ w : World, Calls Tryd.prog 85 #[.agg #[.int .i64 r, .int .i64 3]] w fun e w' => e = .returned (.string T) ∧ Below w.heap.size w w') (w : World) :
    Calls Tryd.prog 44 #[.string s] w fun e w' => e = .returned (.tuple #[.agg #[.int .i64 r, .int .i64 3], .bool (T.toList == s.toList)]) ∧ Below w.heap.size w w' := by
  have HG := Lib.hid hgd; clear hgd
  have HT := Lib.hid hT; clear hT
  have hin : inR (s.size : Int) 1 3 = true := by unfold inR; simp; omega
  have hix0 := rindex s 0 (by omega)
  rw [show ((0 : Nat) : Int) = 0 from rfl] at hix0
  have e100 := beqN (s[0]'(by omega)) 100
  have e116 := beqN (s[0]'(by omega)) 116
  rw [show (((100 : UInt8).toNat : Nat) : Int) = 100 from rfl] at e100
  rw [show (((116 : UInt8).toNat : Nat) : Int) = 116 from rfl] at e116
  rw [decide_eq_false (by rw [hc]; decide)] at e100
  rw [decide_eq_true hc] at e116
  have HRD := Lib.hid hr; clear hr
  obtain ⟨r0, hr0⟩ : ∃ r0, ∀ w : World, Calls Tryd.prog 38 #[.string s] w fun e w' => e = .returned (.int .i64 r0) ∧ w = w' := ⟨_, fun w => l1Read_any s (by omega) w⟩
  have HR1 := Lib.hid hr0; clear hr0
  have tA := DtAt.new w 0 0
  have B0 : Below w.heap.size w (w.alloc (.cells #[.int .i64 0, .int .i64 0] 69)) := (Below.refl _ _).alloc (Nat.le_refl _) _
  have HA := Lib.hid (And.intro tA B0); clear tA B0
  generalize s[0]'(by omega) = c at *
  clear hc
  have HI := Lib.hid hin; clear hin
  go_enter Tryd.func44, Tryd.ntmps44
  go_wp2_with fail
  refine (l1In_any _ _ _ _).mono ?_; rintro e w' ⟨rfl, rfl⟩
  rw [HI.out]
  go_wp2_with fail
  refine (HR1.out _).mono ?_; rintro e w' ⟨rfl, rfl⟩
  go_wp2_with fail
  refine (HRD.out _).mono ?_; rintro e w' ⟨rfl, rfl⟩
  go_wp2_with fail
  have hb1 : (w.alloc (.cells #[.int .i64 0, .int .i64 0] 69)).heap.size = w.heap.size + 1 := by simp
  have tN := DtAt.new (w.alloc (.cells #[.int .i64 0, .int .i64 0] 69)) r 3
  rw [hb1] at tN
  have tG : DtAt ((w.alloc (.cells #[.int .i64 0, .int .i64 0] 69)).alloc (.cells #[.int .i64 r, .int .i64 3] 69)) w.heap.size 0 0 := HA.out.1.keep ((Below.refl _ _).alloc (Nat.le_refl _) _)
  have B1 : Below w.heap.size w ((w.alloc (.cells #[.int .i64 0, .int .i64 0] 69)).alloc (.cells #[.int .i64 r, .int .i64 3] 69)) := HA.out.2.alloc HA.out.2.size _
  have hne : w.heap.size + 1 ≠ w.heap.size := by omega
  clear HA hb1
  generalize (w.alloc (.cells #[.int .i64 0, .int .i64 0] 69)).alloc (.cells #[.int .i64 r, .int .i64 3] 69) = Y at *
  generalize w.heap.size + 1 = b at *
  have hr0 := p0_of (⟨tN.drew, ⟨_, _, tG.drew⟩, B1.drew⟩ : PaR0 w b r 3 Y.drew)
  clear tN tG B1
  have HR0 := Lib.hid hr0; clear hr0
  refine wp_region_held_drew (S := (fun w' => w'.cell? ⟨b, 0, none⟩ = some (.int .i64 r) ∧ w'.cell? ⟨b, 1, none⟩ = some (.int .i64 3) ∧ PaR0 w b r 3 w')) (by kernel_rfl) HR0.out (fun hHeld => ?_)
  clear HR0
  generalize Y.drew = Z at *
  (refine wpAnyH_take (i := 0) (v := ?_) rfl (by kernel_rfl) (by kernel_rfl) (by kernel_rfl) (fun _ _ _ h => h) (Or.inl ⟨by kernel_rfl, ?_⟩) (by assumption) ?_; rotate_left; focus (intro w hSw; (try dsimp only at hSw); go_simp; try with_reducible rfl); (try simp only [List.getElem_toArray, List.getElem_cons_succ, List.getElem_cons_zero, Act.put, List.setIfInBounds_toArray, List.set_cons_zero, List.set_cons_succ])); (refine wpAnyH_take (i := 1) (v := ?_) rfl (by kernel_rfl) (by kernel_rfl) (by kernel_rfl) (fun _ _ _ h => h) (Or.inl ⟨by kernel_rfl, ?_⟩) (by assumption) ?_; rotate_left; focus (intro w hSw; (try dsimp only at hSw); go_simp; try with_reducible rfl); (try simp only [List.getElem_toArray, List.getElem_cons_succ, List.getElem_cons_zero, Act.put, List.setIfInBounds_toArray, List.set_cons_zero, List.set_cons_succ]))
  refine wpAnyH_ready (rs := [2]) (by kernel_rfl) (by simp) (AllReadyH.cons rfl (fun K hK => ?_) AllReadyH.nil)
  have HS := Lib.hid hHeld.2.2; clear hHeld
  go_simp
  go_at_call 84
  refine (daGood_any _ _ _).mono ?_; rintro e w' ⟨rfl, bd⟩
  rw [HG.out]
  have KS := Lib.hid (p0_of (p0_keep bd HS.out)); clear HS bd
  go_wp2_with fail
  refine hK.out _ _ KS.out (fun hHeld => ?_)
  clear hK K KS
  (try simp only [List.getElem_toArray, List.getElem_cons_succ, List.getElem_cons_zero, Act.put, List.setIfInBounds_toArray, List.set_cons_zero, List.set_cons_succ])
  (refine wpAnyH_take (i := 3) (v := ?_) rfl (by kernel_rfl) (by kernel_rfl) (by kernel_rfl) (fun _ _ _ h => h) (Or.inl ⟨by kernel_rfl, ?_⟩) (by assumption) ?_; rotate_left; focus (intro w hSw; (try dsimp only at hSw); go_simp; try with_reducible rfl); (try simp only [List.getElem_toArray, List.getElem_cons_succ, List.getElem_cons_zero, Act.put, List.setIfInBounds_toArray, List.set_cons_zero, List.set_cons_succ])); (refine wpAnyH_take (i := 4) (v := ?_) rfl (by kernel_rfl) (by kernel_rfl) (by kernel_rfl) (fun _ _ _ h => h) (Or.inl ⟨by kernel_rfl, ?_⟩) (by assumption) ?_; rotate_left; focus (intro w hSw; (try dsimp only at hSw); go_simp; try with_reducible rfl); (try simp only [List.getElem_toArray, List.getElem_cons_succ, List.getElem_cons_zero, Act.put, List.setIfInBounds_toArray, List.set_cons_zero, List.set_cons_succ])); (refine wpAnyH_take (i := 6) (v := ?_) rfl (by kernel_rfl) (by kernel_rfl) (by kernel_rfl) (fun _ _ _ h => h) (Or.inl ⟨by kernel_rfl, ?_⟩) (by assumption) ?_; rotate_left; focus (intro w hSw; (try dsimp only at hSw); go_simp; try with_reducible rfl); (try simp only [List.getElem_toArray, List.getElem_cons_succ, List.getElem_cons_zero, Act.put, List.setIfInBounds_toArray, List.set_cons_zero, List.set_cons_succ]))
  refine wpAnyH_ready (rs := [5]) (by kernel_rfl) (by simp) (AllReadyH.cons rfl (fun K hK => ?_) AllReadyH.nil)
  have HS := Lib.hid hHeld.2.2; clear hHeld
  go_simp
  go_at_call 85
  refine (HT.out _).mono ?_; rintro e w' ⟨rfl, bd⟩
  have KS := Lib.hid (p0_of (p0_keep bd HS.out)); clear HS bd
  go_wp2_with fail
  refine hK.out _ _ KS.out (fun hHeld => ?_)
  clear hK K KS
  (try simp only [List.getElem_toArray, List.getElem_cons_succ, List.getElem_cons_zero, Act.put, List.setIfInBounds_toArray, List.set_cons_zero, List.set_cons_succ])
  (refine wpAnyH_take (i := 7) (v := ?_) rfl (by kernel_rfl) (by kernel_rfl) (by kernel_rfl) (fun _ _ _ h => h) (Or.inl ⟨by kernel_rfl, ?_⟩) (by assumption) ?_; rotate_left; focus (intro w hSw; (try dsimp only at hSw); go_simp; try with_reducible rfl); (try simp only [List.getElem_toArray, List.getElem_cons_succ, List.getElem_cons_zero, Act.put, List.setIfInBounds_toArray, List.set_cons_zero, List.set_cons_succ])); (refine wpAnyH_take (i := 8) (v := ?_) rfl (by kernel_rfl) (by kernel_rfl) (by kernel_rfl) (fun _ _ _ h => h) (Or.inl ⟨by kernel_rfl, ?_⟩) (by assumption) ?_; rotate_left; focus (intro w hSw; (try dsimp only at hSw); go_simp; try with_reducible rfl); (try simp only [List.getElem_toArray, List.getElem_cons_succ, List.getElem_cons_zero, Act.put, List.setIfInBounds_toArray, List.set_cons_zero, List.set_cons_succ]))
  refine wpAnyH_ready (rs := [9]) (by kernel_rfl) (by simp) (AllReadyH.cons rfl (fun K hK => ?_) AllReadyH.nil)
  have HS := Lib.hid hHeld.2.2; clear hHeld
  obtain ⟨r1, l1, h2⟩ := HS.out.2.1
  obtain ⟨-, z0, z1, z3, z4⟩ := h2
  have KS := Lib.hid (p2_of (p0_put hne HS.out)); clear HS
  go_simp
  refine hK.out _ _ (p0_of (p2_weak KS.out.2.2)) (fun _ => ?_)
  clear hK K z0 z1 z3 z4
  refine anyH_mono (S2 := (fun w' => w'.cell? ⟨b, 0, none⟩ = some (.int .i64 r) ∧ w'.cell? ⟨b, 1, none⟩ = some (.int .i64 3) ∧ PaR2 w b r 3 w')) (fun _ h => p0_of (p2_weak h.2.2)) _ _ _ _ ?_
  have hHeld := KS.out
  clear KS
  (try simp only [List.getElem_toArray, List.getElem_cons_succ, List.getElem_cons_zero, Act.put, List.setIfInBounds_toArray, List.set_cons_zero, List.set_cons_succ])
  (refine wpAnyH_take (i := 10) (v := ?_) rfl (by kernel_rfl) (by kernel_rfl) (by kernel_rfl) (fun _ _ _ h => h) (Or.inl ⟨by kernel_rfl, ?_⟩) (by assumption) ?_; rotate_left; focus (intro w hSw; (try dsimp only at hSw); go_simp; try with_reducible rfl); (try simp only [List.getElem_toArray, List.getElem_cons_succ, List.getElem_cons_zero, Act.put, List.setIfInBounds_toArray, List.set_cons_zero, List.set_cons_succ]))
  refine wpAnyH_done (by kernel_rfl) ?_ _
  have HS := Lib.hid hHeld.2.2; clear hHeld
  obtain ⟨-, z0, z1, -, -⟩ := HS.out.2.1
  go_wp2_with fail
  refine bodyPost_ret (v := .tuple #[.agg #[.int .i64 r, .int .i64 3], .bool (T.toList == s.toList)]) (by simp [results, Tryd.results44, go_sem, z0, z1]) rfl ⟨rfl, HS.out.2.2⟩

end Go.Proofs.YtjiigljoekhljaaDoor
