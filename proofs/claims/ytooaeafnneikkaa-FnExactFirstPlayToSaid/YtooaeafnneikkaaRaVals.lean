/-
  Races: what the functions over two numbers of points hand back: the program.
-/
import Derived.Test.YtooaeafnneikkaaRaAll
namespace Go.Proofs.Ytooaeafnneikkaa
open Go.RowKit
set_option linter.unusedVariables false
set_option linter.unusedSimpArgs false

def endsV (rt rl a b : Int) : Bool := bothR rt rl a b && (decide (0 < upR rt rl a b) && decide (wonN rt rl a b ≠ 0))
def manyOk (rt rl a b : Int) : Bool := bothR rt rl a b && !decide (1000000000000000 < upR rt rl a b)
def manyV (rt rl a b : Int) : Int := if manyOk rt rl a b then upR rt rl a b else 0
def firstOk (rt rl a b : Int) : Bool := bothR rt rl a b && decide (0 < upR rt rl a b)
def firstT (rt rl a b : Int) : ByteArray := if firstOk rt rl a b then ⟨(rankP rt rl a b (a + b).toNat 0 0 0).toArray⟩ else ⟨#[]⟩
def rankOk (rt rl a b r : Int) : Bool := manyOk rt rl a b && (decide (0 ≤ r) && decide (r < upR rt rl a b))
def rankT (rt rl a b r : Int) : ByteArray := if rankOk rt rl a b r then ⟨(rankP rt rl a b (a + b).toNat 0 0 r).toArray⟩ else ⟨#[]⟩
theorem many_true {rt rl a b : Int} (h : manyOk rt rl a b = true) : bothR rt rl a b = true ∧ upR rt rl a b ≤ 1000000000000000 ∧ manyV rt rl a b = upR rt rl a b := by
  have h2 := h
  simp [manyOk] at h2
  have h3 := h2.2
  clear h2
  exact ⟨(by simp [manyOk] at h; exact h.1), h3, by unfold manyV; rw [h, if_pos rfl]⟩
theorem many_false {rt rl a b : Int} (h : manyOk rt rl a b = false) : manyV rt rl a b = 0 := by unfold manyV; rw [h, if_neg (by decide)]
theorem both_nat {rt rl a b : Int} (h : bothR rt rl a b = true) : ∃ A B : Nat, a = A ∧ b = B ∧ A + B ≤ 100 := by
  obtain ⟨_, h2, h3, h4⟩ := both_true.1 h
  exact ⟨a.toNat, b.toNat, by omega, by omega, by omega⟩

set_option maxHeartbeats 1600000 in
theorem implEndsAt_any (rt rl a b : Int) (w : World) :
    Calls Try.prog 17 #[.agg #[.int .i64 rt, .int .i64 rl], .int .i64 a, .int .i64 b] w fun e w' => e = .returned (.tuple #[.bool (endsV rt rl a b), .bool (bothR rt rl a b)]) ∧ Below w.heap.size w w' := by
  have hv : endsV rt rl a b = (bothR rt rl a b && (decide (0 < upR rt rl a b) && decide (wonN rt rl a b ≠ 0))) := rfl
  cases h : bothR rt rl a b
  · rw [hv, h]
    have hb := fun w => playsTo_bad rt rl a b w h
    have HB := Lib.hid hb; clear hb h hv
    go_enter Try.func17, Try.ntmps17
    go_wp2_with fail
    refine (HB.out _).mono ?_; rintro e w1 ⟨rfl, b1⟩
    go_wp2_with fail
    refine bodyPost_ret (v := .tuple #[.bool false, .bool false]) (by simp [results, Try.results17, go_sem]) rfl ⟨rfl, ?_⟩
    have sz_b1 := b1.size; (try simp at sz_b1)
    (repeat (first | exact Below.refl _ _ | exact ‹Below _ _ _› | refine Below.drew ?_ | refine Below.alloc ?_ (by first | omega | (simp; done) | (simp; omega)) _ | refine Below.setCell ?_ (by first | omega | (simp; done) | (simp; omega)) _ | refine Below.trans ?_ (Below.mono ‹Below _ _ _› (by first | omega | (simp; done) | (simp; omega)))))
  obtain ⟨A, B, rfl, rfl, hAB⟩ := both_nat h
  rw [hv, h]
  have hp := fun w => playsTo_any rt rl A B w h
  have ha := fun gh bk w ht => all_any rt rl gh bk A B (by omega) w ht
  have hw := fun w => winnerOfRace_any rt rl A B w (by omega) (by omega) (by omega) (by omega)
  generalize upR rt rl A B = u at *
  have HP := Lib.hid (And.intro hp (And.intro ha hw)); clear hp ha hw hv h
  by_cases q : 0 < u
  · rw [decide_eq_true q]
    have qd : decide (0 < u) = true := by simpa using q
    clear q
    rcases wonI_eq rt rl A B with ⟨h, -⟩ | ⟨h, -⟩ | ⟨h, -⟩
    all_goals
      rw [h] at HP
      rw [h]
      clear h
      unfold sideS at HP
      go_enter Try.func17, Try.ntmps17
      go_wp2_with fail
      refine (HP.out.1 _).mono ?_; rintro e w1 ⟨gh, bk, rfl, t1, b1⟩
      obtain ⟨c1, f1⟩ := bcell b1; have z1 : w.heap.size < w1.heap.size := (by have := b1.size; (try simp at this); omega)
      have HT := Lib.hid t1; clear t1
      go_wp2_with fail
      refine (HP.out.2.1 gh bk _ HT.out).mono ?_; rintro e w2 ⟨rfl, b2⟩
      obtain ⟨c2, f2⟩ := bcell b2; have z2 : w.heap.size < w2.heap.size := (by have := b2.size; (try simp at this); omega)
      go_wp2_with fail
      refine (HP.out.2.2 _).mono ?_; rintro e w3 ⟨rfl, b3⟩
      go_wp2_with fail
      refine bodyPost_ret (by simp [results, Try.results17, go_sem]) rfl ⟨rfl, ?_⟩
      have sz_b1 := b1.size; (try simp at sz_b1); have sz_b2 := b2.size; (try simp at sz_b2); have sz_b3 := b3.size; (try simp at sz_b3)
      (repeat (first | exact Below.refl _ _ | exact ‹Below _ _ _› | refine Below.drew ?_ | refine Below.alloc ?_ (by first | omega | (simp; done) | (simp; omega)) _ | refine Below.setCell ?_ (by first | omega | (simp; done) | (simp; omega)) _ | refine Below.trans ?_ (Below.mono ‹Below _ _ _› (by first | omega | (simp; done) | (simp; omega)))))
  · rw [decide_eq_false q]
    have qd : decide (0 < u) = false := by simpa using q
    clear q
    go_enter Try.func17, Try.ntmps17
    go_wp2_with fail
    refine (HP.out.1 _).mono ?_; rintro e w1 ⟨gh, bk, rfl, t1, b1⟩
    have HT := Lib.hid t1; clear t1
    go_wp2_with fail
    refine (HP.out.2.1 gh bk _ HT.out).mono ?_; rintro e w2 ⟨rfl, b2⟩
    go_wp2_with fail
    refine bodyPost_ret (v := .tuple #[.bool false, .bool true]) (by simp [results, Try.results17, go_sem]) rfl ⟨rfl, ?_⟩
    have sz_b1 := b1.size; (try simp at sz_b1); have sz_b2 := b2.size; (try simp at sz_b2)
    (repeat (first | exact Below.refl _ _ | exact ‹Below _ _ _› | refine Below.drew ?_ | refine Below.alloc ?_ (by first | omega | (simp; done) | (simp; omega)) _ | refine Below.setCell ?_ (by first | omega | (simp; done) | (simp; omega)) _ | refine Below.trans ?_ (Below.mono ‹Below _ _ _› (by first | omega | (simp; done) | (simp; omega)))))

set_option maxHeartbeats 1600000 in
theorem implCountPlaysTo_any (rt rl a b : Int) (w : World) :
    Calls Try.prog 19 #[.agg #[.int .i64 rt, .int .i64 rl], .int .i64 a, .int .i64 b] w fun e w' => e = .returned (.tuple #[.int .i64 (manyV rt rl a b), .bool (manyOk rt rl a b)]) ∧ Below w.heap.size w w' := by
  have hv : manyOk rt rl a b = (bothR rt rl a b && !decide (1000000000000000 < upR rt rl a b)) := rfl
  have hv2 : manyV rt rl a b = if manyOk rt rl a b then upR rt rl a b else 0 := rfl
  cases h : bothR rt rl a b
  · rw [hv2, hv, h]
    have hb := fun w => playsTo_bad rt rl a b w h
    have HB := Lib.hid hb; clear hb h hv hv2
    go_enter Try.func19, Try.ntmps19
    go_wp2_with fail
    refine (HB.out _).mono ?_; rintro e w1 ⟨rfl, b1⟩
    go_wp2_with fail
    refine bodyPost_ret (v := .tuple #[.int .i64 0, .bool false]) (by simp [results, Try.results19, go_sem]) rfl ⟨rfl, ?_⟩
    have sz_b1 := b1.size; (try simp at sz_b1)
    (repeat (first | exact Below.refl _ _ | exact ‹Below _ _ _› | refine Below.drew ?_ | refine Below.alloc ?_ (by first | omega | (simp; done) | (simp; omega)) _ | refine Below.setCell ?_ (by first | omega | (simp; done) | (simp; omega)) _ | refine Below.trans ?_ (Below.mono ‹Below _ _ _› (by first | omega | (simp; done) | (simp; omega)))))
  obtain ⟨A, B, rfl, rfl, hAB⟩ := both_nat h
  rw [hv2, hv, h]
  have hp := fun w => playsTo_any rt rl A B w h
  have ha := fun gh bk w ht => all_any rt rl gh bk A B (by omega) w ht
  generalize upR rt rl A B = u at *
  have hl := fun w => limitCount_any u 1000000000000000 w
  have hx : (if (true && !decide (1000000000000000 < u)) = true then u else 0) = if 1000000000000000 < u then 0 else u := by
    by_cases q : 1000000000000000 < u
    · rw [decide_eq_true q, if_pos q, if_neg (by decide)]
    · rw [decide_eq_false q, if_neg q, if_pos (by decide)]
  rw [hx, Bool.true_and]
  have HP := Lib.hid (And.intro hp (And.intro ha hl)); clear hp ha hl hv hv2 h hx
  generalize (if 1000000000000000 < u then (0 : Int) else u) = v at *
  generalize (!decide (1000000000000000 < u)) = o at *
  go_enter Try.func19, Try.ntmps19
  go_wp2_with fail
  refine (HP.out.1 _).mono ?_; rintro e w1 ⟨gh, bk, rfl, t1, b1⟩
  have HT := Lib.hid t1; clear t1
  go_wp2_with fail
  refine (HP.out.2.1 gh bk _ HT.out).mono ?_; rintro e w2 ⟨rfl, b2⟩
  go_wp2_with fail
  refine (HP.out.2.2 _).mono ?_; rintro e w3 ⟨rfl, rfl⟩
  go_wp2_with fail
  refine bodyPost_ret (v := .tuple #[.int .i64 v, .bool o]) (by simp [results, Try.results19, go_sem]) rfl ⟨rfl, ?_⟩
  have sz_b1 := b1.size; (try simp at sz_b1); have sz_b2 := b2.size; (try simp at sz_b2)
  (repeat (first | exact Below.refl _ _ | exact ‹Below _ _ _› | refine Below.drew ?_ | refine Below.alloc ?_ (by first | omega | (simp; done) | (simp; omega)) _ | refine Below.setCell ?_ (by first | omega | (simp; done) | (simp; omega)) _ | refine Below.trans ?_ (Below.mono ‹Below _ _ _› (by first | omega | (simp; done) | (simp; omega)))))

set_option maxHeartbeats 1600000 in
theorem implFirstPlayTo_any (rt rl a b : Int) (w : World) :
    Calls Try.prog 25 #[.agg #[.int .i64 rt, .int .i64 rl], .int .i64 a, .int .i64 b] w fun e w' => e = .returned (.tuple #[.string (firstT rt rl a b), .bool (firstOk rt rl a b)]) ∧ Below w.heap.size w w' := by
  have hv : firstOk rt rl a b = (bothR rt rl a b && decide (0 < upR rt rl a b)) := rfl
  have hv2 : firstT rt rl a b = if firstOk rt rl a b then ⟨(rankP rt rl a b (a + b).toNat 0 0 0).toArray⟩ else ⟨#[]⟩ := rfl
  cases h : bothR rt rl a b
  · rw [hv2, hv, h]
    have hb := fun w => playsTo_bad rt rl a b w h
    have HB := Lib.hid hb; clear hb h hv hv2
    go_enter Try.func25, Try.ntmps25
    go_wp2_with fail
    refine (HB.out _).mono ?_; rintro e w1 ⟨rfl, b1⟩
    go_wp2_with fail
    refine bodyPost_ret (v := .tuple #[.string ⟨#[]⟩, .bool false]) (by simp [results, Try.results25, go_sem]) rfl ⟨rfl, ?_⟩
    have sz_b1 := b1.size; (try simp at sz_b1)
    (repeat (first | exact Below.refl _ _ | exact ‹Below _ _ _› | refine Below.drew ?_ | refine Below.alloc ?_ (by first | omega | (simp; done) | (simp; omega)) _ | refine Below.setCell ?_ (by first | omega | (simp; done) | (simp; omega)) _ | refine Below.trans ?_ (Below.mono ‹Below _ _ _› (by first | omega | (simp; done) | (simp; omega)))))
  obtain ⟨A, B, rfl, rfl, hAB⟩ := both_nat h
  rw [hv2, hv, h]
  have hp := fun w => playsTo_any rt rl A B w h
  have ha := fun gh bk w ht => all_any rt rl gh bk A B (by omega) w ht
  have hu := upR_bd rt rl A B
  by_cases q : 0 < upR rt rl A B
  · have hr := fun gh bk w ht => ofRank_any rt rl gh bk A B hAB 0 (by omega) q w ht
    rw [decide_eq_true q, show ((A : Int) + (B : Int)).toNat = A + B from by omega]
    have q0 : (upR rt rl A B == 0) = false := by simp; omega
    generalize upR rt rl A B = u at *
    generalize rankP rt rl A B (A + B) 0 0 0 = L at *
    have HP := Lib.hid (And.intro hp (And.intro ha hr)); clear hp ha hr hv hv2 h hu q
    go_enter Try.func25, Try.ntmps25
    go_wp2_with fail
    refine (HP.out.1 _).mono ?_; rintro e w1 ⟨gh, bk, rfl, t1, b1⟩
    have HT := Lib.hid t1; clear t1
    go_wp2_with fail
    refine (HP.out.2.1 gh bk _ HT.out).mono ?_; rintro e w2 ⟨rfl, b2⟩
    go_wp2_with fail
    refine (HP.out.2.2 gh bk _ (HT.out.keep b2)).mono ?_; rintro e w3 ⟨rfl, b3⟩
    go_wp2_with fail
    refine bodyPost_ret (v := .tuple #[.string ⟨L.toArray⟩, .bool true]) (by simp [results, Try.results25, go_sem]) rfl ⟨rfl, ?_⟩
    have sz_b1 := b1.size; (try simp at sz_b1); have sz_b2 := b2.size; (try simp at sz_b2); have sz_b3 := b3.size; (try simp at sz_b3)
    (repeat (first | exact Below.refl _ _ | exact ‹Below _ _ _› | refine Below.drew ?_ | refine Below.alloc ?_ (by first | omega | (simp; done) | (simp; omega)) _ | refine Below.setCell ?_ (by first | omega | (simp; done) | (simp; omega)) _ | refine Below.trans ?_ (Below.mono ‹Below _ _ _› (by first | omega | (simp; done) | (simp; omega)))))
  · rw [decide_eq_false q]
    have q0 : upR rt rl A B = 0 := by omega
    rw [q0] at ha
    have HP := Lib.hid (And.intro hp ha); clear hp ha hv hv2 h hu q q0
    go_enter Try.func25, Try.ntmps25
    go_wp2_with fail
    refine (HP.out.1 _).mono ?_; rintro e w1 ⟨gh, bk, rfl, t1, b1⟩
    have HT := Lib.hid t1; clear t1
    go_wp2_with fail
    refine (HP.out.2 gh bk _ HT.out).mono ?_; rintro e w2 ⟨rfl, b2⟩
    go_wp2_with fail
    refine bodyPost_ret (v := .tuple #[.string ⟨#[]⟩, .bool false]) (by simp [results, Try.results25, go_sem]) rfl ⟨rfl, ?_⟩
    have sz_b1 := b1.size; (try simp at sz_b1); have sz_b2 := b2.size; (try simp at sz_b2)
    (repeat (first | exact Below.refl _ _ | exact ‹Below _ _ _› | refine Below.drew ?_ | refine Below.alloc ?_ (by first | omega | (simp; done) | (simp; omega)) _ | refine Below.setCell ?_ (by first | omega | (simp; done) | (simp; omega)) _ | refine Below.trans ?_ (Below.mono ‹Below _ _ _› (by first | omega | (simp; done) | (simp; omega)))))

set_option maxHeartbeats 3200000 in
theorem implPlayOfRank_any (rt rl a b r : Int) (w : World) :
    Calls Try.prog 27 #[.agg #[.int .i64 rt, .int .i64 rl], .int .i64 a, .int .i64 b, .int .i64 r] w fun e w' => e = .returned (.tuple #[.string (rankT rt rl a b r), .bool (rankOk rt rl a b r)]) ∧ Below w.heap.size w w' := by
  have hv : rankOk rt rl a b r = (manyOk rt rl a b && (decide (0 ≤ r) && decide (r < upR rt rl a b))) := rfl
  have hv2 : rankT rt rl a b r = if rankOk rt rl a b r then ⟨(rankP rt rl a b (a + b).toNat 0 0 r).toArray⟩ else ⟨#[]⟩ := rfl
  have hcp := fun w => implCountPlaysTo_any rt rl a b w
  cases h : manyOk rt rl a b
  · rw [hv2, hv, h]
    rw [h] at hcp
    generalize manyV rt rl a b = mv at *
    have HB := Lib.hid hcp; clear hcp h hv hv2
    go_enter Try.func27, Try.ntmps27
    go_wp2_with fail
    refine (HB.out _).mono ?_; rintro e w1 ⟨rfl, b1⟩
    go_wp2_with fail
    refine bodyPost_ret (v := .tuple #[.string ⟨#[]⟩, .bool false]) (by simp [results, Try.results27, go_sem]) rfl ⟨rfl, ?_⟩
    have sz_b1 := b1.size; (try simp at sz_b1)
    (repeat (first | exact Below.refl _ _ | exact ‹Below _ _ _› | refine Below.drew ?_ | refine Below.alloc ?_ (by first | omega | (simp; done) | (simp; omega)) _ | refine Below.setCell ?_ (by first | omega | (simp; done) | (simp; omega)) _ | refine Below.trans ?_ (Below.mono ‹Below _ _ _› (by first | omega | (simp; done) | (simp; omega)))))
  obtain ⟨hb, hm, hmv⟩ := many_true h
  rw [h, hmv] at hcp
  rw [hv2, hv, h]
  obtain ⟨A, B, rfl, rfl, hAB⟩ := both_nat hb
  by_cases q1 : r < 0
  · rw [decide_eq_false (by omega : ¬ 0 ≤ r)]
    generalize upR rt rl A B = u at *
    have HB := Lib.hid hcp; clear hcp h hv hv2 hb hm hmv
    go_enter Try.func27, Try.ntmps27
    go_wp2_with fail
    refine (HB.out _).mono ?_; rintro e w1 ⟨rfl, b1⟩
    go_wp2_with fail
    refine bodyPost_ret (v := .tuple #[.string ⟨#[]⟩, .bool false]) (by simp [results, Try.results27, go_sem]) rfl ⟨rfl, ?_⟩
    have sz_b1 := b1.size; (try simp at sz_b1)
    (repeat (first | exact Below.refl _ _ | exact ‹Below _ _ _› | refine Below.drew ?_ | refine Below.alloc ?_ (by first | omega | (simp; done) | (simp; omega)) _ | refine Below.setCell ?_ (by first | omega | (simp; done) | (simp; omega)) _ | refine Below.trans ?_ (Below.mono ‹Below _ _ _› (by first | omega | (simp; done) | (simp; omega)))))
  by_cases q2 : r < upR rt rl A B
  · have hp := fun w => playsTo_any rt rl A B w hb
    have hr := fun gh bk w ht => ofRank_any rt rl gh bk A B hAB r (by omega) q2 w ht
    rw [decide_eq_true (by omega : 0 ≤ r), decide_eq_true q2, show ((A : Int) + (B : Int)).toNat = A + B from by omega]
    have qd : decide (upR rt rl A B ≤ r) = false := by simp; omega
    generalize upR rt rl A B = u at *
    generalize rankP rt rl A B (A + B) 0 0 r = L at *
    have HP := Lib.hid (And.intro hcp (And.intro hp hr)); clear hcp hp hr hv hv2 h hb hm hmv q2
    go_enter Try.func27, Try.ntmps27
    go_wp2_with fail
    refine (HP.out.1 _).mono ?_; rintro e w1 ⟨rfl, b1⟩
    obtain ⟨c1, f1⟩ := bcell b1; have z1 : w.heap.size < w1.heap.size := (by have := b1.size; (try simp at this); omega)
    go_wp2_with fail
    refine (HP.out.2.1 _).mono ?_; rintro e w2 ⟨gh, bk, rfl, t2, b2⟩
    have HT := Lib.hid t2; clear t2
    go_wp2_with fail
    refine (HP.out.2.2 gh bk _ HT.out).mono ?_; rintro e w3 ⟨rfl, b3⟩
    go_wp2_with fail
    refine bodyPost_ret (v := .tuple #[.string ⟨L.toArray⟩, .bool true]) (by simp [results, Try.results27, go_sem]) rfl ⟨rfl, ?_⟩
    have sz_b1 := b1.size; (try simp at sz_b1); have sz_b2 := b2.size; (try simp at sz_b2); have sz_b3 := b3.size; (try simp at sz_b3)
    (repeat (first | exact Below.refl _ _ | exact ‹Below _ _ _› | refine Below.drew ?_ | refine Below.alloc ?_ (by first | omega | (simp; done) | (simp; omega)) _ | refine Below.setCell ?_ (by first | omega | (simp; done) | (simp; omega)) _ | refine Below.trans ?_ (Below.mono ‹Below _ _ _› (by first | omega | (simp; done) | (simp; omega)))))
  · rw [decide_eq_false q2]
    have qd : decide (upR rt rl A B ≤ r) = true := by simp; omega
    rw [show (true && (decide (0 ≤ r) && false)) = false from by simp]
    generalize upR rt rl A B = u at *
    have HB := Lib.hid hcp; clear hcp h hv hv2 hb hm hmv q2
    go_enter Try.func27, Try.ntmps27
    go_wp2_with fail
    refine (HB.out _).mono ?_; rintro e w1 ⟨rfl, b1⟩
    go_wp2_with fail
    refine bodyPost_ret (v := .tuple #[.string ⟨#[]⟩, .bool false]) (by simp [results, Try.results27, go_sem]) rfl ⟨rfl, ?_⟩
    have sz_b1 := b1.size; (try simp at sz_b1)
    (repeat (first | exact Below.refl _ _ | exact ‹Below _ _ _› | refine Below.drew ?_ | refine Below.alloc ?_ (by first | omega | (simp; done) | (simp; omega)) _ | refine Below.setCell ?_ (by first | omega | (simp; done) | (simp; omega)) _ | refine Below.trans ?_ (Below.mono ‹Below _ _ _› (by first | omega | (simp; done) | (simp; omega)))))

end Go.Proofs.Ytooaeafnneikkaa
