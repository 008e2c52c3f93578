/-
  Races: who can win next: the program.
-/
import Derived.Test.YtooaeafnneikkaaDoorRaPts
import Derived.Deep.RegionHeld3
namespace Go.Proofs.YtooaeafnneikkaaDoor
open Go.RowKit
set_option linter.unusedVariables false
set_option linter.unusedSimpArgs false

set_option maxRecDepth 100000 in
set_option maxHeartbeats 6400000 in
theorem implNextWinners_any (to ld : Int) (s : ByteArray) (p0 p1 : Addr) (w : World) (hs : (s.size : Int) ≤ 1000000000000) (he : Errs w p0 p1) :
    Calls Tryd.prog 22 #[.agg #[.int .i64 to, .int .i64 ld], .string s] w fun e w' => e = .returned (.tuple #[.string (nxT to ld s), .bool (isP to ld s)]) ∧ Below w.heap.size w w' := by
  have hpb := fun w he => pointsBehind_any to ld s p0 p1 w hs he
  have HPB := Lib.hid hpb; clear hpb
  have HE := Lib.hid he; clear he
  cases h1 : isP to ld s
  · rw [nxT_bad h1]
    rw [h1] at HPB
    generalize pbA to ld s = x at *
    generalize pbB to ld s = y at *
    clear h1
    go_enter Tryd.func22, Tryd.ntmps22
    go_wp2_with fail
    refine (HPB.out _ (HE.out.keep (by (repeat (first | exact Below.refl _ _ | exact ‹Below _ _ _› | refine Below.drew ?_ | refine Below.alloc ?_ (by first | omega | (simp; done) | (simp; omega)) _ | refine Below.setCell ?_ (by first | omega | (simp; done) | (simp; omega)) _ | refine Below.trans ?_ (Below.mono ‹Below _ _ _› (by first | omega | (simp; done) | (simp; omega)))))))).mono ?_; rintro e w1 ⟨rfl, b1⟩
    go_wp2_with fail
    refine bodyPost_ret (v := .tuple #[.string ⟨#[]⟩, .bool false]) (by simp [results, Tryd.results22, go_sem]) rfl ⟨rfl, ?_⟩
    have sz_b1 := b1.size; (try simp at sz_b1)
    (repeat (first | exact Below.refl _ _ | exact ‹Below _ _ _› | refine Below.drew ?_ | refine Below.alloc ?_ (by first | omega | (simp; done) | (simp; omega)) _ | refine Below.setCell ?_ (by first | omega | (simp; done) | (simp; omega)) _ | refine Below.trans ?_ (Below.mono ‹Below _ _ _› (by first | omega | (simp; done) | (simp; omega)))))
  · rw [nxT_ok h1]
    obtain ⟨a0, b0, ab, sz, -, l1, -⟩ := isP_bd h1
    rw [h1, pbA_ok h1, pbB_ok h1] at HPB
    clear h1
    generalize cntA s.data.toList = x at *
    generalize cntB s.data.toList = y at *
    have hw0 := fun w => winnerOfRace_any to ld x y w a0 (by omega) b0 (by omega)
    have hw1 := fun w => winnerOfRace_any to ld (x + 1) y w (by omega) (by omega) b0 (by omega)
    have hw2 := fun w => winnerOfRace_any to ld x (y + 1) w a0 (by omega) (by omega) (by omega)
    have hpa := fun w => plus_any x y 97 w a0 (by omega) b0 (by omega)
    have hpb := fun w => plus_any x y 98 w a0 (by omega) b0 (by omega)
    rw [show upA 97 = 1 from rfl, show upB 97 = 0 from rfl, Int.add_zero] at hpa
    rw [show upA 98 = 0 from rfl, show upB 98 = 1 from rfl, Int.add_zero] at hpb
    have H0 := Lib.hid hw0; clear hw0
    have H1 := Lib.hid hw1; clear hw1
    have H2 := Lib.hid hw2; clear hw2
    have HA := Lib.hid hpa; clear hpa
    have HB := Lib.hid hpb; clear hpb
    have hn : nextS to ld x y = if wonN to ld x y ≠ 0 then ⟨#[]⟩ else if wonN to ld (x + 1) y = 1 then (if wonN to ld x (y + 1) = 2 then ⟨#[97, 98]⟩ else ⟨#[97]⟩) else (if wonN to ld x (y + 1) = 2 then ⟨#[98]⟩ else ⟨#[]⟩) := rfl
    have hr : ∃ T, nextS to ld x y = T := ⟨_, rfl⟩
    obtain ⟨T, hT⟩ := hr
    rw [hT] at hn ⊢
    have hna := next_a (to := to) (ld := ld) (a := x) (b := y)
    have hnb := next_b (to := to) (ld := ld) (a := x) (b := y)
    have HN := Lib.hid hn; clear hn hT
    rcases wonI_eq to ld x y with ⟨h, -⟩ | ⟨h, -⟩ | ⟨h, -⟩
    · have na := hna h l1
      have nb := hnb h l1
      rw [h] at H0
      have e1 := wonI_eq to ld (x + 1) y
      have e2 := wonI_eq to ld x (y + 1)
      generalize wonN to ld (x + 1) y = p at *
      generalize wonN to ld x (y + 1) = q at *
      have ep : p = 0 ∨ p = 1 := by omega
      have eq : q = 0 ∨ q = 2 := by omega
      clear e1 e2 na nb hna hnb
      rcases ep with rfl | rfl <;> rcases eq with rfl | rfl
      all_goals
        have hv := HN.out
        rw [h] at hv
        simp at hv
        have HV := Lib.hid hv; clear hv HN h
        unfold sideS at H0 H1 H2
        go_enter Tryd.func22, Tryd.ntmps22
        go_wp2_with fail
        refine (HPB.out _ (HE.out.keep (by (repeat (first | exact Below.refl _ _ | exact ‹Below _ _ _› | refine Below.drew ?_ | refine Below.alloc ?_ (by first | omega | (simp; done) | (simp; omega)) _ | refine Below.setCell ?_ (by first | omega | (simp; done) | (simp; omega)) _ | refine Below.trans ?_ (Below.mono ‹Below _ _ _› (by first | omega | (simp; done) | (simp; omega)))))))).mono ?_; rintro e w1 ⟨rfl, b1⟩
        have hS := raceS_keep (B := w.heap.size) (w0 := w) (w := (w.alloc (.cells #[.int .i64 to, .int .i64 ld] 26))) (w' := w1) (g := w.heap.size) (h := w.heap.size) (t := to) (l := ld) (a := to) (b := ld) b1 (by
          obtain ⟨q0, q1, q2, -, -⟩ := Pair.new w to ld 26
          exact ⟨q1, q2, q1, q2, q0, q0, by simp, (Below.refl _ _).alloc (Nat.le_refl _) _⟩)
        have hS2 : ((w1.alloc (.cells #[.int .i64 x, .int .i64 y] 57)).cell? ⟨w.heap.size, 0, none⟩ = some (.int .i64 to) ∧ (w1.alloc (.cells #[.int .i64 x, .int .i64 y] 57)).cell? ⟨w.heap.size, 1, none⟩ = some (.int .i64 ld) ∧ (w1.alloc (.cells #[.int .i64 x, .int .i64 y] 57)).cell? ⟨w1.heap.size, 0, none⟩ = some (.int .i64 x) ∧ (w1.alloc (.cells #[.int .i64 x, .int .i64 y] 57)).cell? ⟨w1.heap.size, 1, none⟩ = some (.int .i64 y) ∧ w.heap.size < (w1.alloc (.cells #[.int .i64 x, .int .i64 y] 57)).heap.size ∧ w1.heap.size < (w1.alloc (.cells #[.int .i64 x, .int .i64 y] 57)).heap.size ∧ w.heap.size ≤ (w1.alloc (.cells #[.int .i64 x, .int .i64 y] 57)).heap.size ∧ Below w.heap.size w (w1.alloc (.cells #[.int .i64 x, .int .i64 y] 57))) := by
          have hb := (Below.refl w1.heap.size w1).alloc (Nat.le_refl _) (.cells #[.int .i64 x, .int .i64 y] 57)
          obtain ⟨r0, r1, -, -, r4, -, r6, r7⟩ := raceS_keep hb hS
          obtain ⟨q0, q1, q2, -, -⟩ := Pair.new w1 x y 57
          exact ⟨r0, r1, q1, q2, r4, q0, r6, r7⟩
        have HS2 := Lib.hid hS2; clear hS hS2
        obtain ⟨c1, f1⟩ := bcell b1; have z1 : w.heap.size < w1.heap.size := (by have := b1.size; (try simp at this); omega)
        go_wp2_with fail
        refine (H0.out _).mono ?_; rintro e w3 ⟨rfl, b3⟩
        have hS3 := raceS_keep b3 HS2.out
        clear b3 HS2 c1 f1 z1
        generalize w1.heap.size = k at *
        generalize hgg : w.heap.size = g at *
        have HGG := Lib.hid hgg; clear hgg
        go_wp2_with fail
        refine wp_region_held_drew (S := fun w' => w'.cell? ⟨g, 0, none⟩ = some (.int .i64 to) ∧ w'.cell? ⟨g, 1, none⟩ = some (.int .i64 ld) ∧ w'.cell? ⟨k, 0, none⟩ = some (.int .i64 x) ∧ w'.cell? ⟨k, 1, none⟩ = some (.int .i64 y) ∧ g < w'.heap.size ∧ k < w'.heap.size ∧ g ≤ w'.heap.size ∧ Below g w w') (by kernel_rfl) ⟨by simpa using hS3.1, by simpa using hS3.2.1, by simpa using hS3.2.2.1, by simpa using hS3.2.2.2.1, by simpa using hS3.2.2.2.2.1, by simpa using hS3.2.2.2.2.2.1, by simpa using hS3.2.2.2.2.2.2.1, Below.drew hS3.2.2.2.2.2.2.2⟩ (fun hHeld => ?_)
        clear hS3
        (refine wpAnyH_take (i := 0) (v := ?_) rfl (by kernel_rfl) (by kernel_rfl) (by kernel_rfl) (fun _ _ _ h => h) (Or.inl ⟨by kernel_rfl, ?_⟩) (by assumption) ?_; rotate_left; focus (intro w hSw; (try dsimp only at hSw); go_simp; try with_reducible rfl); (try simp only [List.getElem_toArray, List.getElem_cons_succ, List.getElem_cons_zero, Act.put, List.setIfInBounds_toArray, List.set_cons_zero, List.set_cons_succ])); (refine wpAnyH_take (i := 1) (v := ?_) rfl (by kernel_rfl) (by kernel_rfl) (by kernel_rfl) (fun _ _ _ h => h) (Or.inl ⟨by kernel_rfl, ?_⟩) (by assumption) ?_; rotate_left; focus (intro w hSw; (try dsimp only at hSw); go_simp; try with_reducible rfl); (try simp only [List.getElem_toArray, List.getElem_cons_succ, List.getElem_cons_zero, Act.put, List.setIfInBounds_toArray, List.set_cons_zero, List.set_cons_succ])); (refine wpAnyH_take (i := 4) (v := ?_) rfl (by kernel_rfl) (by kernel_rfl) (by kernel_rfl) (fun _ _ _ h => h) (Or.inl ⟨by kernel_rfl, ?_⟩) (by assumption) ?_; rotate_left; focus (intro w hSw; (try dsimp only at hSw); go_simp; try with_reducible rfl); (try simp only [List.getElem_toArray, List.getElem_cons_succ, List.getElem_cons_zero, Act.put, List.setIfInBounds_toArray, List.set_cons_zero, List.set_cons_succ])); (refine wpAnyH_take (i := 5) (v := ?_) rfl (by kernel_rfl) (by kernel_rfl) (by kernel_rfl) (fun _ _ _ h => h) (Or.inl ⟨by kernel_rfl, ?_⟩) (by assumption) ?_; rotate_left; focus (intro w hSw; (try dsimp only at hSw); go_simp; try with_reducible rfl); (try simp only [List.getElem_toArray, List.getElem_cons_succ, List.getElem_cons_zero, Act.put, List.setIfInBounds_toArray, List.set_cons_zero, List.set_cons_succ]))
        refine wpAnyH_ready (rs := [2]) (by kernel_rfl) (by simp) ?_; refine AllReadyH.cons rfl (fun K hK => ?_) AllReadyH.nil
        go_simp
        go_at_call 52
        refine (HA.out _).mono ?_; rintro e w' ⟨rfl, bd⟩
        have KS := Lib.hid (raceS_keep bd hHeld); clear hHeld bd
        go_wp2_with fail
        refine hK.out _ _ KS.out (fun hHeld => ?_)
        clear hK K KS
        (try simp only [List.getElem_toArray, List.getElem_cons_succ, List.getElem_cons_zero, Act.put, List.setIfInBounds_toArray, List.set_cons_zero, List.set_cons_succ])
        refine wpAnyH_ready (rs := [3]) (by kernel_rfl) (by simp) ?_; refine AllReadyH.cons rfl (fun K hK => ?_) AllReadyH.nil
        go_simp
        go_at_call 50
        refine (H1.out _).mono ?_; rintro e w' ⟨rfl, bd⟩
        have KS := Lib.hid (raceS_keep bd hHeld); clear hHeld bd
        go_wp2_with fail
        refine hK.out _ _ KS.out (fun hHeld => ?_)
        clear hK K KS
        (try simp only [List.getElem_toArray, List.getElem_cons_succ, List.getElem_cons_zero, Act.put, List.setIfInBounds_toArray, List.set_cons_zero, List.set_cons_succ])
        refine wpAnyH_ready (rs := [6]) (by kernel_rfl) (by simp) ?_; refine AllReadyH.cons rfl (fun K hK => ?_) AllReadyH.nil
        go_simp
        go_at_call 52
        refine (HB.out _).mono ?_; rintro e w' ⟨rfl, bd⟩
        have KS := Lib.hid (raceS_keep bd hHeld); clear hHeld bd
        go_wp2_with fail
        refine hK.out _ _ KS.out (fun hHeld => ?_)
        clear hK K KS
        (try simp only [List.getElem_toArray, List.getElem_cons_succ, List.getElem_cons_zero, Act.put, List.setIfInBounds_toArray, List.set_cons_zero, List.set_cons_succ])
        refine wpAnyH_ready (rs := [7]) (by kernel_rfl) (by simp) ?_; refine AllReadyH.cons rfl (fun K hK => ?_) AllReadyH.nil
        go_simp
        go_at_call 50
        refine (H2.out _).mono ?_; rintro e w' ⟨rfl, bd⟩
        have KS := Lib.hid (raceS_keep bd hHeld); clear hHeld bd
        go_wp2_with fail
        refine hK.out _ _ KS.out (fun hHeld => ?_)
        clear hK K KS
        (try simp only [List.getElem_toArray, List.getElem_cons_succ, List.getElem_cons_zero, Act.put, List.setIfInBounds_toArray, List.set_cons_zero, List.set_cons_succ])
        (refine wpAnyH_take (i := 8) (v := ?_) rfl (by kernel_rfl) (by kernel_rfl) (by kernel_rfl) (fun _ _ _ h => h) (Or.inl ⟨by kernel_rfl, ?_⟩) (by assumption) ?_; rotate_left; focus (intro w hSw; (try dsimp only at hSw); go_simp; try with_reducible rfl); (try simp only [List.getElem_toArray, List.getElem_cons_succ, List.getElem_cons_zero, Act.put, List.setIfInBounds_toArray, List.set_cons_zero, List.set_cons_succ])); (refine wpAnyH_take (i := 9) (v := ?_) rfl (by kernel_rfl) (by kernel_rfl) (by kernel_rfl) (fun _ _ _ h => h) (Or.inl ⟨by kernel_rfl, ?_⟩) (by assumption) ?_; rotate_left; focus (intro w hSw; (try dsimp only at hSw); go_simp; try with_reducible rfl); (try simp only [List.getElem_toArray, List.getElem_cons_succ, List.getElem_cons_zero, Act.put, List.setIfInBounds_toArray, List.set_cons_zero, List.set_cons_succ])); (refine wpAnyH_take (i := 10) (v := ?_) rfl (by kernel_rfl) (by kernel_rfl) (by kernel_rfl) (fun _ _ _ h => h) (Or.inl ⟨by kernel_rfl, ?_⟩) (by assumption) ?_; rotate_left; focus (intro w hSw; (try dsimp only at hSw); go_simp; try with_reducible rfl); (try simp only [List.getElem_toArray, List.getElem_cons_succ, List.getElem_cons_zero, Act.put, List.setIfInBounds_toArray, List.set_cons_zero, List.set_cons_succ]))
        refine wpAnyH_done (by kernel_rfl) ?_ _
        have KS := Lib.hid hHeld; clear hHeld
        go_wp2_with fail
        refine bodyPost_ret (v := .tuple #[.string T, .bool true]) (by simp [results, Tryd.results22, go_sem]; try (first | exact HV.out.symm | (rw [HV.out]; rfl))) rfl ⟨rfl, by rw [HGG.out]; exact KS.out.2.2.2.2.2.2.2⟩
    all_goals
      rw [h] at H0
      have hv := HN.out
      rw [h, if_pos (by decide)] at hv
      have HV := Lib.hid hv; clear hv HN h hna hnb
      unfold sideS at H0
      go_enter Tryd.func22, Tryd.ntmps22
      go_wp2_with fail
      refine (HPB.out _ (HE.out.keep (by (repeat (first | exact Below.refl _ _ | exact ‹Below _ _ _› | refine Below.drew ?_ | refine Below.alloc ?_ (by first | omega | (simp; done) | (simp; omega)) _ | refine Below.setCell ?_ (by first | omega | (simp; done) | (simp; omega)) _ | refine Below.trans ?_ (Below.mono ‹Below _ _ _› (by first | omega | (simp; done) | (simp; omega)))))))).mono ?_; rintro e w1 ⟨rfl, b1⟩
      obtain ⟨c1, f1⟩ := bcell b1; have z1 : w.heap.size < w1.heap.size := (by have := b1.size; (try simp at this); omega)
      go_wp2_with fail
      refine (H0.out _).mono ?_; rintro e w2 ⟨rfl, b2⟩
      go_wp2_with fail
      refine bodyPost_ret (v := .tuple #[.string ⟨#[]⟩, .bool true]) (by simp [results, Tryd.results22, go_sem]) rfl ⟨by rw [HV.out], ?_⟩
      have sz_b1 := b1.size; (try simp at sz_b1); have sz_b2 := b2.size; (try simp at sz_b2)
      (repeat (first | exact Below.refl _ _ | exact ‹Below _ _ _› | refine Below.drew ?_ | refine Below.alloc ?_ (by first | omega | (simp; done) | (simp; omega)) _ | refine Below.setCell ?_ (by first | omega | (simp; done) | (simp; omega)) _ | refine Below.trans ?_ (Below.mono ‹Below _ _ _› (by first | omega | (simp; done) | (simp; omega)))))

end Go.Proofs.YtooaeafnneikkaaDoor
