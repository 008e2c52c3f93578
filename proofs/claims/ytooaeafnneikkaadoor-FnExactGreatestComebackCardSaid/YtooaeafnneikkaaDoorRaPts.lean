/-
  Races: points of both behind a play, and who can win next: the model and the program.
-/
import Derived.Test.YtooaeafnneikkaaDoorRaPlay
namespace Go.Proofs.YtooaeafnneikkaaDoor
open Go.RowKit
set_option linter.unusedVariables false
set_option linter.unusedSimpArgs false

theorem pbA_bad {to ld : Int} {s : ByteArray} (h : isP to ld s = false) : pbA to ld s = 0 := by unfold pbA; rw [h]; rfl
theorem pbB_bad {to ld : Int} {s : ByteArray} (h : isP to ld s = false) : pbB to ld s = 0 := by unfold pbB; rw [h]; rfl
theorem pbA_ok {to ld : Int} {s : ByteArray} (h : isP to ld s = true) : pbA to ld s = cntA s.data.toList := by unfold pbA; rw [h]; rfl
theorem pbB_ok {to ld : Int} {s : ByteArray} (h : isP to ld s = true) : pbB to ld s = cntB s.data.toList := by unfold pbB; rw [h]; rfl

set_option maxHeartbeats 1600000 in
theorem specPointsIn_any (to ld : Int) (s : ByteArray) (w : World) (hs : (s.size : Int) ≤ 1000000000000) :
    Calls Tryd.prog 19 #[.agg #[.int .i64 to, .int .i64 ld], .string s] w fun e w' => e = .returned (.tuple #[.int .i64 (pbA to ld s), .int .i64 (pbB to ld s), .bool (isP to ld s)]) ∧ Below w.heap.size w w' := by
  have his := fun w => raIs_any to ld s w hs
  have HI := Lib.hid his; clear his
  cases h1 : isP to ld s
  · rw [pbA_bad h1, pbB_bad h1]
    rw [h1] at HI
    clear h1
    go_enter Tryd.func19, Tryd.ntmps19
    go_wp2_with fail
    refine (HI.out _).mono ?_; rintro e w1 ⟨rfl, b1⟩
    go_wp2_with fail
    refine bodyPost_ret (v := .tuple #[.int .i64 0, .int .i64 0, .bool false]) (by simp [results, Tryd.results19, go_sem]) rfl ⟨rfl, ?_⟩
    (repeat (first | exact Below.refl _ _ | exact ‹Below _ _ _› | refine Below.drew ?_ | refine Below.alloc ?_ (by first | omega | (simp; done) | (simp; omega)) _ | refine Below.setCell ?_ (by first | omega | (simp; done) | (simp; omega)) _ | refine Below.trans ?_ (Below.mono ‹Below _ _ _› (by first | omega | (simp; done) | (simp; omega)))))
  · rw [pbA_ok h1, pbB_ok h1]
    have hc := isP_cnt h1
    have hcn := fun w => raCount_any to ld s w hs
    rw [hc] at hcn
    unfold cntV at hcn
    have HC := Lib.hid hcn; clear hcn hc
    rw [h1] at HI
    clear h1
    generalize cntA s.data.toList = x at *
    generalize cntB s.data.toList = y at *
    go_enter Tryd.func19, Tryd.ntmps19
    go_wp2_with fail
    refine (HI.out _).mono ?_; rintro e w1 ⟨rfl, b1⟩
    obtain ⟨c1, f1⟩ := bcell b1; have z1 : w.heap.size < w1.heap.size := (by have := b1.size; (try simp at this); omega)
    go_wp2_with fail
    refine (HC.out _).mono ?_; rintro e w2 ⟨rfl, b2⟩
    go_wp2_with fail
    refine bodyPost_ret (v := .tuple #[.int .i64 x, .int .i64 y, .bool true]) (by simp [results, Tryd.results19, go_sem]) rfl ⟨rfl, ?_⟩
    have sz_b1 := b1.size; (try simp at sz_b1); have sz_b2 := b2.size; (try simp at sz_b2)
    (repeat (first | exact Below.refl _ _ | exact ‹Below _ _ _› | refine Below.drew ?_ | refine Below.alloc ?_ (by first | omega | (simp; done) | (simp; omega)) _ | refine Below.setCell ?_ (by first | omega | (simp; done) | (simp; omega)) _ | refine Below.trans ?_ (Below.mono ‹Below _ _ _› (by first | omega | (simp; done) | (simp; omega)))))

set_option maxHeartbeats 1600000 in
theorem implPointsIn_any (to ld : Int) (s : ByteArray) (p0 p1 : Addr) (w : World) (hs : (s.size : Int) ≤ 1000000000000) (he : Errs w p0 p1) :
    Calls Tryd.prog 20 #[.agg #[.int .i64 to, .int .i64 ld], .string s] w fun e w' => e = .returned (.tuple #[.int .i64 (pbA to ld s), .int .i64 (pbB to ld s), .bool (isP to ld s)]) ∧ Below w.heap.size w w' := by
  have hpb := fun w he => pointsBehind_any to ld s p0 p1 w hs he
  have HPB := Lib.hid hpb; clear hpb
  have HE := Lib.hid he; clear he
  generalize pbA to ld s = x at *
  generalize pbB to ld s = y at *
  generalize isP to ld s = o at *
  go_enter Tryd.func20, Tryd.ntmps20
  go_wp2_with fail
  refine (HPB.out _ (HE.out.keep (by (repeat (first | exact Below.refl _ _ | exact ‹Below _ _ _› | refine Below.drew ?_ | refine Below.alloc ?_ (by first | omega | (simp; done) | (simp; omega)) _ | refine Below.setCell ?_ (by first | omega | (simp; done) | (simp; omega)) _ | refine Below.trans ?_ (Below.mono ‹Below _ _ _› (by first | omega | (simp; done) | (simp; omega)))))))).mono ?_; rintro e w1 ⟨rfl, b1⟩
  go_wp2_with fail
  go_quiet (fail)
  go_wp2_with fail
  refine bodyPost_ret (v := .tuple #[.int .i64 x, .int .i64 y, .bool o]) (by simp [results, Tryd.results20, go_sem]) rfl ⟨rfl, below_drewN ?_ _⟩
  have sz_b1 := b1.size; (try simp at sz_b1)
  (repeat (first | exact Below.refl _ _ | exact ‹Below _ _ _› | refine Below.drew ?_ | refine Below.alloc ?_ (by first | omega | (simp; done) | (simp; omega)) _ | refine Below.setCell ?_ (by first | omega | (simp; done) | (simp; omega)) _ | refine Below.trans ?_ (Below.mono ‹Below _ _ _› (by first | omega | (simp; done) | (simp; omega)))))

/-- Who would have won with the next point. -/
def nextS (to ld a b : Int) : ByteArray :=
  if wonN to ld a b ≠ 0 then ⟨#[]⟩ else
  if wonN to ld (a + 1) b = 1 then (if wonN to ld a (b + 1) = 2 then ⟨#[97, 98]⟩ else ⟨#[97]⟩) else (if wonN to ld a (b + 1) = 2 then ⟨#[98]⟩ else ⟨#[]⟩)
theorem next_a {to ld a b : Int} (h : wonN to ld a b = 0) (hl : 1 ≤ ld) : wonN to ld (a + 1) b ≠ 2 := by
  unfold wonN at h ⊢
  by_cases q1 : to ≤ a ∧ ld ≤ a - b
  · rw [if_pos q1] at h; exact absurd h (by decide)
  · rw [if_neg q1] at h
    by_cases q2 : to ≤ b ∧ ld ≤ b - a
    · rw [if_pos q2] at h; exact absurd h (by decide)
    · by_cases q3 : to ≤ a + 1 ∧ ld ≤ a + 1 - b
      · rw [if_pos q3]; decide
      · rw [if_neg q3, if_neg (by omega)]; decide
theorem next_b {to ld a b : Int} (h : wonN to ld a b = 0) (hl : 1 ≤ ld) : wonN to ld a (b + 1) ≠ 1 := by
  unfold wonN at h ⊢
  by_cases q1 : to ≤ a ∧ ld ≤ a - b
  · rw [if_pos q1] at h; exact absurd h (by decide)
  · rw [if_neg (show ¬ (to ≤ a ∧ ld ≤ a - (b + 1)) by omega)]
    split <;> decide
def nxT (to ld : Int) (s : ByteArray) : ByteArray := if isP to ld s then nextS to ld (cntA s.data.toList) (cntB s.data.toList) else ⟨#[]⟩
theorem nxT_bad {to ld : Int} {s : ByteArray} (h : isP to ld s = false) : nxT to ld s = ⟨#[]⟩ := by unfold nxT; rw [h]; rfl
theorem nxT_ok {to ld : Int} {s : ByteArray} (h : isP to ld s = true) : nxT to ld s = nextS to ld (cntA s.data.toList) (cntB s.data.toList) := by unfold nxT; rw [h]; rfl

set_option maxHeartbeats 3200000 in
theorem specNextWinners_any (to ld : Int) (s : ByteArray) (w : World) (hs : (s.size : Int) ≤ 1000000000000) :
    Calls Tryd.prog 21 #[.agg #[.int .i64 to, .int .i64 ld], .string s] w fun e w' => e = .returned (.tuple #[.string (nxT to ld s), .bool (isP to ld s)]) ∧ Below w.heap.size w w' := by
  have his := fun w => raIs_any to ld s w hs
  have HI := Lib.hid his; clear his
  cases h1 : isP to ld s
  · rw [nxT_bad h1]
    rw [h1] at HI
    clear h1
    go_enter Tryd.func21, Tryd.ntmps21
    go_wp2_with fail
    refine (HI.out _).mono ?_; rintro e w1 ⟨rfl, b1⟩
    go_wp2_with fail
    refine bodyPost_ret (v := .tuple #[.string ⟨#[]⟩, .bool false]) (by simp [results, Tryd.results21, go_sem]) rfl ⟨rfl, ?_⟩
    (repeat (first | exact Below.refl _ _ | exact ‹Below _ _ _› | refine Below.drew ?_ | refine Below.alloc ?_ (by first | omega | (simp; done) | (simp; omega)) _ | refine Below.setCell ?_ (by first | omega | (simp; done) | (simp; omega)) _ | refine Below.trans ?_ (Below.mono ‹Below _ _ _› (by first | omega | (simp; done) | (simp; omega)))))
  · rw [nxT_ok h1]
    have hc := isP_cnt h1
    obtain ⟨a0, b0, ab, sz, -, l1, -⟩ := isP_bd h1
    have hcn := fun w => raCount_any to ld s w hs
    rw [hc] at hcn
    unfold cntV at hcn
    have HC := Lib.hid hcn; clear hcn hc
    rw [h1] at HI
    clear h1
    generalize cntA s.data.toList = x at *
    generalize cntB s.data.toList = y at *
    have hw0 := fun w => raWon_any to ld x y w a0 (by omega) b0 (by omega)
    have hw1 := fun w => raWon_any to ld (x + 1) y w (by omega) (by omega) b0 (by omega)
    have hw2 := fun w => raWon_any to ld x (y + 1) w a0 (by omega) (by omega) (by omega)
    have H0 := Lib.hid hw0; clear hw0
    have H1 := Lib.hid hw1; clear hw1
    have H2 := Lib.hid hw2; clear hw2
    have hn : nextS to ld x y = if wonN to ld x y ≠ 0 then ⟨#[]⟩ else if wonN to ld (x + 1) y = 1 then (if wonN to ld x (y + 1) = 2 then ⟨#[97, 98]⟩ else ⟨#[97]⟩) else (if wonN to ld x (y + 1) = 2 then ⟨#[98]⟩ else ⟨#[]⟩) := rfl
    have hr : ∃ T, nextS to ld x y = T := ⟨_, rfl⟩
    obtain ⟨T, hT⟩ := hr
    rw [hT] at hn ⊢
    have HN := Lib.hid hn; clear hn hT
    rcases wonI_eq to ld x y with ⟨h, g⟩ | ⟨h, g⟩ | ⟨h, g⟩
    · rw [g] at H0
      have e1 := wonI_eq to ld (x + 1) y
      have e2 := wonI_eq to ld x (y + 1)
      generalize wonI to ld (x + 1) y = p at *
      generalize wonI to ld x (y + 1) = q at *
      rcases e1 with ⟨h1, rfl⟩ | ⟨h1, rfl⟩ | ⟨h1, rfl⟩ <;> rcases e2 with ⟨h2, rfl⟩ | ⟨h2, rfl⟩ | ⟨h2, rfl⟩
      all_goals
        have hv := HN.out
        rw [h, h1, h2] at hv
        simp at hv
        have HV := Lib.hid hv; clear hv HN h h1 h2 g
        go_enter Tryd.func21, Tryd.ntmps21
        go_wp2_with fail
        refine (HI.out _).mono ?_; rintro e w1 ⟨rfl, b1⟩
        obtain ⟨c1, f1⟩ := bcell b1; have z1 : w.heap.size < w1.heap.size := (by have := b1.size; (try simp at this); omega)
        go_wp2_with fail
        refine (HC.out _).mono ?_; rintro e w2 ⟨rfl, b2⟩
        obtain ⟨c2, f2⟩ := bcell b2; have z2 : w.heap.size < w2.heap.size := (by have := b2.size; (try simp at this); omega)
        go_wp2_with fail
        refine (H0.out _).mono ?_; rintro e w3 ⟨rfl, b3⟩
        obtain ⟨c3, f3⟩ := bcell b3; have z3 : w.heap.size < w3.heap.size := (by have := b3.size; (try simp at this); omega)
        go_wp2_with fail
        refine (H1.out _).mono ?_; rintro e w4 ⟨rfl, b4⟩
        obtain ⟨c4, f4⟩ := bcell b4; have z4 : w.heap.size < w4.heap.size := (by have := b4.size; (try simp at this); omega)
        go_wp2_with fail
        refine (H2.out _).mono ?_; rintro e w5 ⟨rfl, b5⟩
        go_wp2_with fail
        refine bodyPost_ret (v := .tuple #[.string T, .bool true]) (by simp [results, Tryd.results21, go_sem]; try (first | exact HV.out.symm | (rw [HV.out]; rfl))) rfl ⟨rfl, ?_⟩
        have sz_b1 := b1.size; (try simp at sz_b1); have sz_b2 := b2.size; (try simp at sz_b2); have sz_b3 := b3.size; (try simp at sz_b3); have sz_b4 := b4.size; (try simp at sz_b4); have sz_b5 := b5.size; (try simp at sz_b5)
        (repeat (first | exact Below.refl _ _ | exact ‹Below _ _ _› | refine Below.drew ?_ | refine Below.alloc ?_ (by first | omega | (simp; done) | (simp; omega)) _ | refine Below.setCell ?_ (by first | omega | (simp; done) | (simp; omega)) _ | refine Below.trans ?_ (Below.mono ‹Below _ _ _› (by first | omega | (simp; done) | (simp; omega)))))
    all_goals
      rw [g] at H0
      have hv := HN.out
      rw [h, if_pos (by decide)] at hv
      have HV := Lib.hid hv; clear hv HN h g
      go_enter Tryd.func21, Tryd.ntmps21
      go_wp2_with fail
      refine (HI.out _).mono ?_; rintro e w1 ⟨rfl, b1⟩
      obtain ⟨c1, f1⟩ := bcell b1; have z1 : w.heap.size < w1.heap.size := (by have := b1.size; (try simp at this); omega)
      go_wp2_with fail
      refine (HC.out _).mono ?_; rintro e w2 ⟨rfl, b2⟩
      obtain ⟨c2, f2⟩ := bcell b2; have z2 : w.heap.size < w2.heap.size := (by have := b2.size; (try simp at this); omega)
      go_wp2_with fail
      refine (H0.out _).mono ?_; rintro e w3 ⟨rfl, b3⟩
      go_wp2_with fail
      refine bodyPost_ret (v := .tuple #[.string ⟨#[]⟩, .bool true]) (by simp [results, Tryd.results21, go_sem]) rfl ⟨by rw [HV.out], ?_⟩
      have sz_b1 := b1.size; (try simp at sz_b1); have sz_b2 := b2.size; (try simp at sz_b2); have sz_b3 := b3.size; (try simp at sz_b3)
      (repeat (first | exact Below.refl _ _ | exact ‹Below _ _ _› | refine Below.drew ?_ | refine Below.alloc ?_ (by first | omega | (simp; done) | (simp; omega)) _ | refine Below.setCell ?_ (by first | omega | (simp; done) | (simp; omega)) _ | refine Below.trans ?_ (Below.mono ‹Below _ _ _› (by first | omega | (simp; done) | (simp; omega)))))

end Go.Proofs.YtooaeafnneikkaaDoor
