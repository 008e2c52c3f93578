/-
  Two numbers with a mark between them, as a text: the model and the program (RaceText).
-/
import Derived.Test.YthlkndloggmehaaDoorRtSpec
import Derived.Test.YthlkndloggmehaaDoorText
import Derived.Test.YthlkndloggmehaaDoorShelf
import Derived.Deep.RegionHeld3
import Derived.Deep.QuietTactic
import Derived.WalkSmall
namespace Go.Proofs.YthlkndloggmehaaDoor
open Go.RowKit
set_option linter.unusedVariables false
set_option linter.unusedSimpArgs false

def textRa (a b : Nat) : List UInt8 := (numF 1 a ++ [43]) ++ numF 1 b
theorem num_decRa : ∀ m : Nat, m < 100 → Lib.decDigits m = numF 1 m := by decide +kernel
theorem tx_keepRa {w X Y : World} {g : Nat} {a b : Value} (bd : Below X.heap.size X Y) (h : X.cell? ⟨g, 0, none⟩ = some a ∧ X.cell? ⟨g, 1, none⟩ = some b ∧ g < X.heap.size ∧ Below g w X) :
    Y.cell? ⟨g, 0, none⟩ = some a ∧ Y.cell? ⟨g, 1, none⟩ = some b ∧ g < Y.heap.size ∧ Below g w Y := by
  obtain ⟨h0, h1, h2, h3⟩ := h
  refine ⟨?_, ?_, Nat.lt_of_lt_of_le h2 bd.size, h3.trans (bd.mono (Nat.le_of_lt h2))⟩
  · rw [bd.cell (p := ⟨g, 0, none⟩) h2]; exact h0
  · rw [bd.cell (p := ⟨g, 1, none⟩) h2]; exact h1

set_option maxHeartbeats 3200000 in
set_option maxRecDepth 100000 in
theorem specTextRa (a b : Nat) (ha : a < 100) (hb : b < 100) (w : World) :
    Calls Tryd.prog 52 #[.agg #[.int .i64 a, .int .i64 b]] w fun e w' => e = .returned (.string ⟨(textRa a b).toArray⟩) ∧ Below w.heap.size w w' := by
  have ih : ∀ (m : Nat) (w : World), m < 100 → Calls Tryd.prog 59 #[.int .i64 m] w fun e w' => e = .returned (.string ⟨(numF 1 m).toArray⟩) ∧ Below w.heap.size w w' := fun m w h => l1Num_any 1 m w (by omega) (by omega)
  have IH := Lib.hid (And.intro (fun w => ih a w ha) (fun w => ih b w hb)); clear ih
  have la := (numF_len 1 a).2
  have lb := (numF_len 1 b).2
  have h1 : ∀ W : World, (Op.stringOp .add ⟨(numF 1 a).toArray⟩ ⟨#[43]⟩).run Tryd.prog W = .ok (.string ⟨(numF 1 a ++ [43]).toArray⟩) W := fun W => run_string_add_lists W (numF 1 a) [43] (by omega) (by simp)
  have h2 : ∀ W : World, (Op.stringOp .add ⟨(numF 1 a ++ [43]).toArray⟩ ⟨(numF 1 b).toArray⟩).run Tryd.prog W = .ok (.string ⟨(textRa a b).toArray⟩) W := fun W => run_string_add_lists W (numF 1 a ++ [43]) (numF 1 b) (by simp; omega) (by omega)
  clear la lb
  have tA := Pair.new w a b 37
  have B0 := (Below.refl w.heap.size w).alloc (Nat.le_refl _) (.cells #[.int .i64 a, .int .i64 b] 37)
  generalize textRa a b = T at *
  generalize numF 1 a = A at *
  generalize numF 1 b = B at *
  go_enter Tryd.func52, Tryd.ntmps52
  go_wp2_with fail
  obtain ⟨s2, s0, s1, -, -⟩ := tA
  have s3 := B0
  generalize w.alloc (.cells #[.int .i64 a, .int .i64 b] 37) = X at *
  generalize hg : w.heap.size = g at *
  clear B0 ha hb
  refine wp_region_held_drew (S := fun w' => w'.cell? ⟨g, 0, none⟩ = some (.int .i64 a) ∧ w'.cell? ⟨g, 1, none⟩ = some (.int .i64 b) ∧ g < w'.heap.size ∧ Below g w w') (by kernel_rfl) ⟨by simpa using s0, by simpa using s1, by simpa using s2, Below.drew s3⟩ (fun hHeld => ?_)
  (refine wpAnyH_take (i := 0) (v := ?_) rfl (by kernel_rfl) (by kernel_rfl) (by kernel_rfl) (fun _ _ _ h => h) (Or.inl ⟨by kernel_rfl, ?_⟩) (by assumption) ?_; rotate_left; focus (intro w hSw; (try dsimp only at hSw); go_simp; try with_reducible rfl); (try simp only [List.getElem_toArray, List.getElem_cons_succ, List.getElem_cons_zero, Act.put, List.setIfInBounds_toArray, List.set_cons_zero, List.set_cons_succ])); (refine wpAnyH_take (i := 1) (v := ?_) rfl (by kernel_rfl) (by kernel_rfl) (by kernel_rfl) (fun _ _ _ h => h) (Or.inl ⟨by kernel_rfl, ?_⟩) (by assumption) ?_; rotate_left; focus (intro w hSw; (try dsimp only at hSw); go_simp; try with_reducible rfl); (try simp only [List.getElem_toArray, List.getElem_cons_succ, List.getElem_cons_zero, Act.put, List.setIfInBounds_toArray, List.set_cons_zero, List.set_cons_succ])); (refine wpAnyH_take (i := 4) (v := ?_) rfl (by kernel_rfl) (by kernel_rfl) (by kernel_rfl) (fun _ _ _ h => h) (Or.inl ⟨by kernel_rfl, ?_⟩) (by assumption) ?_; rotate_left; focus (intro w hSw; (try dsimp only at hSw); go_simp; try with_reducible rfl); (try simp only [List.getElem_toArray, List.getElem_cons_succ, List.getElem_cons_zero, Act.put, List.setIfInBounds_toArray, List.set_cons_zero, List.set_cons_succ])); (refine wpAnyH_take (i := 5) (v := ?_) rfl (by kernel_rfl) (by kernel_rfl) (by kernel_rfl) (fun _ _ _ h => h) (Or.inl ⟨by kernel_rfl, ?_⟩) (by assumption) ?_; rotate_left; focus (intro w hSw; (try dsimp only at hSw); go_simp; try with_reducible rfl); (try simp only [List.getElem_toArray, List.getElem_cons_succ, List.getElem_cons_zero, Act.put, List.setIfInBounds_toArray, List.set_cons_zero, List.set_cons_succ]))
  refine wpAnyH_ready (rs := [2]) (by kernel_rfl) (by simp) ?_; refine AllReadyH.cons rfl (fun K hK => ?_) AllReadyH.nil
  go_simp
  go_at_call 59
  refine (IH.out.1 _).mono ?_; rintro e w' ⟨rfl, bd⟩
  have KS := Lib.hid (tx_keepRa bd hHeld); clear hHeld bd
  go_wp2_with fail
  refine hK.out _ _ KS.out (fun hHeld => ?_)
  clear hK K KS
  (try simp only [List.getElem_toArray, List.getElem_cons_succ, List.getElem_cons_zero, Act.put, List.setIfInBounds_toArray, List.set_cons_zero, List.set_cons_succ])
  (refine wpAnyH_take (i := 3) (v := ?_) rfl (by kernel_rfl) (by kernel_rfl) (by kernel_rfl) (fun _ _ _ h => h) (Or.inl ⟨by kernel_rfl, ?_⟩) (by assumption) ?_; rotate_left; focus (intro w hSw; (try dsimp only at hSw); go_simp; try with_reducible rfl); (try simp only [List.getElem_toArray, List.getElem_cons_succ, List.getElem_cons_zero, Act.put, List.setIfInBounds_toArray, List.set_cons_zero, List.set_cons_succ]))
  refine wpAnyH_ready (rs := [6]) (by kernel_rfl) (by simp) ?_; refine AllReadyH.cons rfl (fun K hK => ?_) AllReadyH.nil
  go_simp
  go_at_call 59
  refine (IH.out.2 _).mono ?_; rintro e w' ⟨rfl, bd⟩
  have KS := Lib.hid (tx_keepRa bd hHeld); clear hHeld bd
  go_wp2_with fail
  refine hK.out _ _ KS.out (fun hHeld => ?_)
  clear hK K KS
  (try simp only [List.getElem_toArray, List.getElem_cons_succ, List.getElem_cons_zero, Act.put, List.setIfInBounds_toArray, List.set_cons_zero, List.set_cons_succ])
  (refine wpAnyH_take (i := 7) (v := ?_) rfl (by kernel_rfl) (by kernel_rfl) (by kernel_rfl) (fun _ _ _ h => h) (Or.inl ⟨by kernel_rfl, ?_⟩) (by assumption) ?_; rotate_left; focus (intro w hSw; (try dsimp only at hSw); go_simp; try with_reducible rfl); (try simp only [List.getElem_toArray, List.getElem_cons_succ, List.getElem_cons_zero, Act.put, List.setIfInBounds_toArray, List.set_cons_zero, List.set_cons_succ])); (refine wpAnyH_take (i := 8) (v := ?_) rfl (by kernel_rfl) (by kernel_rfl) (by kernel_rfl) (fun _ _ _ h => h) (Or.inl ⟨by kernel_rfl, ?_⟩) (by assumption) ?_; rotate_left; focus (intro w hSw; (try dsimp only at hSw); go_simp; try with_reducible rfl); (try simp only [List.getElem_toArray, List.getElem_cons_succ, List.getElem_cons_zero, Act.put, List.setIfInBounds_toArray, List.set_cons_zero, List.set_cons_succ]))
  refine wpAnyH_done (by kernel_rfl) ?_ _
  have KS := Lib.hid hHeld; clear hHeld
  go_wp2_with fail
  go_ret
  exact ⟨rfl, by rw [hg]; exact KS.out.2.2.2⟩

set_option maxHeartbeats 800000 in
theorem specBadRa (n d : Int) (hg : goodR n d = false) (w : World) :
    Calls Tryd.prog 24 #[.agg #[.int .i64 n, .int .i64 d]] w fun e w' => e = .returned (.tuple #[.string ⟨#[]⟩, .bool false]) ∧ Below w.heap.size w w' := by
  have H := Lib.hid hg; clear hg
  have tA := fun w => Pair.new w n d 37
  go_enter Tryd.func24, Tryd.ntmps24
  go_wp2_with fail
  refine (raGood_any _ _ _).mono ?_; rintro e w1 ⟨rfl, b1⟩
  rw [H.out]
  go_wp2_with fail
  refine bodyPost_ret (v := .tuple #[.string ⟨#[]⟩, .bool false]) (by simp [results, Tryd.results24, go_sem]) rfl ⟨rfl, ?_⟩
  (repeat (first | exact Below.refl _ _ | exact ‹Below _ _ _› | refine Below.drew ?_ | refine Below.alloc ?_ (by first | omega | (simp; done) | (simp; omega)) _ | refine Below.setCell ?_ (by first | omega | (simp; done) | (simp; omega)) _ | refine Below.trans ?_ (Below.mono ‹Below _ _ _› (by first | omega | (simp; done) | (simp; omega)))))

set_option maxHeartbeats 1600000 in
theorem specOkRa (a b : Nat) (ha : a < 100) (hb : b < 100) (hg : goodR a b = true) (w : World) :
    Calls Tryd.prog 24 #[.agg #[.int .i64 a, .int .i64 b]] w fun e w' => e = .returned (.tuple #[.string ⟨(textRa a b).toArray⟩, .bool true]) ∧ Below w.heap.size w w' := by
  have HT := Lib.hid (fun w => specTextRa a b ha hb w)
  generalize textRa a b = T at *
  have H := Lib.hid hg; clear hg ha hb
  go_enter Tryd.func24, Tryd.ntmps24
  go_wp2_with fail
  refine (raGood_any _ _ _).mono ?_; rintro e w1 ⟨rfl, b1⟩
  rw [H.out]
  obtain ⟨zA, y0, y1, -, -⟩ := (Pair.new w a b 37).keep b1
  obtain ⟨c1, f1⟩ := bcell b1; have z1 : w.heap.size < w1.heap.size := (by have := b1.size; (try simp at this); omega)
  go_wp2_with fail
  refine (HT.out _).mono ?_; rintro e w2 ⟨rfl, b2⟩
  go_wp2_with fail
  refine bodyPost_ret (v := .tuple #[.string ⟨T.toArray⟩, .bool true]) (by simp [results, Tryd.results24, go_sem]) rfl ⟨rfl, ?_⟩
  have sz_b1 := b1.size; (try simp at sz_b1); have sz_b2 := b2.size; (try simp at sz_b2)
  (repeat (first | exact Below.refl _ _ | exact ‹Below _ _ _› | refine Below.drew ?_ | refine Below.alloc ?_ (by first | omega | (simp; done) | (simp; omega)) _ | refine Below.setCell ?_ (by first | omega | (simp; done) | (simp; omega)) _ | refine Below.trans ?_ (Below.mono ‹Below _ _ _› (by first | omega | (simp; done) | (simp; omega)))))

set_option maxHeartbeats 800000 in
theorem implBadRa (n d : Int) (hg : goodR n d = false) (w : World) :
    Calls Tryd.prog 25 #[.agg #[.int .i64 n, .int .i64 d]] w fun e w' => e = .returned (.tuple #[.string ⟨#[]⟩, .bool false]) ∧ Below w.heap.size w w' := by
  have H := Lib.hid hg; clear hg
  go_enter Tryd.func25, Tryd.ntmps25
  go_wp2_with fail
  refine (implIsRace_any _ _ _).mono ?_; rintro e w1 ⟨rfl, b1⟩
  rw [H.out]
  go_wp2_with fail
  refine bodyPost_ret (v := .tuple #[.string ⟨#[]⟩, .bool false]) (by simp [results, Tryd.results25, go_sem]) rfl ⟨rfl, ?_⟩
  (repeat (first | exact Below.refl _ _ | exact ‹Below _ _ _› | refine Below.drew ?_ | refine Below.alloc ?_ (by first | omega | (simp; done) | (simp; omega)) _ | refine Below.setCell ?_ (by first | omega | (simp; done) | (simp; omega)) _ | refine Below.trans ?_ (Below.mono ‹Below _ _ _› (by first | omega | (simp; done) | (simp; omega)))))

set_option maxHeartbeats 3200000 in
set_option maxRecDepth 100000 in
theorem implOkRa (a b : Nat) (ha : a < 100) (hb : b < 100) (hg : goodR a b = true) (w : World) :
    Calls Tryd.prog 25 #[.agg #[.int .i64 a, .int .i64 b]] w fun e w' => e = .returned (.tuple #[.string ⟨(textRa a b).toArray⟩, .bool true]) ∧ Below w.heap.size w w' := by
  have H := Lib.hid hg; clear hg
  have ih : ∀ (m : Nat) (w : World), m < 100 → Calls Tryd.prog 34 #[.int .i64 m] w fun e w' => e = .returned (.string ⟨(numF 1 m).toArray⟩) ∧ w' = w := fun m w h => by
    rw [← num_decRa m h]; exact Tryd.strconv_Itoa_small m h w
  have IH := Lib.hid (And.intro (fun w => ih a w ha) (fun w => ih b w hb)); clear ih
  have la := (numF_len 1 a).2
  have lb := (numF_len 1 b).2
  have h1 : ∀ W : World, (Op.stringOp .add ⟨(numF 1 a).toArray⟩ ⟨#[43]⟩).run Tryd.prog W = .ok (.string ⟨(numF 1 a ++ [43]).toArray⟩) W := fun W => run_string_add_lists W (numF 1 a) [43] (by omega) (by simp)
  have h2 : ∀ W : World, (Op.stringOp .add ⟨(numF 1 a ++ [43]).toArray⟩ ⟨(numF 1 b).toArray⟩).run Tryd.prog W = .ok (.string ⟨(textRa a b).toArray⟩) W := fun W => run_string_add_lists W (numF 1 a ++ [43]) (numF 1 b) (by simp; omega) (by omega)
  clear la lb ha hb
  generalize textRa a b = T at *
  generalize numF 1 a = A at *
  generalize numF 1 b = B at *
  go_enter Tryd.func25, Tryd.ntmps25
  go_wp2_with fail
  refine (implIsRace_any _ _ _).mono ?_; rintro e w1 ⟨rfl, b1⟩
  rw [H.out]
  obtain ⟨zA, y0, y1, -, -⟩ := (Pair.new w a b 37).keep b1
  have HB := Lib.hid b1; clear b1
  go_wp2_with fail
  go_quiet ((go_at_call 34; (first | exact (IH.out.1 _).mono (fun _ _ h => ⟨h.1, _, h.2⟩) | exact (IH.out.2 _).mono (fun _ _ h => ⟨h.1, _, h.2⟩))))
  go_wp2
  refine bodyPost_ret (v := .tuple #[.string ⟨T.toArray⟩, .bool true]) (by simp [results, Tryd.results25, go_sem]) rfl ⟨rfl, ?_⟩
  have b1 := HB.out
  exact below_drewN (((Below.refl _ _).alloc (Nat.le_refl _) _).trans (b1.mono (by simp))) _

end Go.Proofs.YthlkndloggmehaaDoor
