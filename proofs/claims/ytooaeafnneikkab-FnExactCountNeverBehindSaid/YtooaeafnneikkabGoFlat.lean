/-
  Goals, plain facts: a table of results as one row.
-/
import Derived.Test.YtooaeafnneikkabGoCnt
namespace Go.Proofs.Ytooaeafnneikkab
set_option linter.unusedVariables false

def flat (F : Int → Int → Int) (W N : Nat) : List Int := (List.range N).map fun i => F ((i / W : Nat) : Int) ((i % W : Nat) : Int)
theorem flat_len (F : Int → Int → Int) (W N : Nat) : (flat F W N).length = N := by simp [flat]
theorem flat_get (F : Int → Int → Int) (W N : Nat) {i : Nat} (h : i < N) : (flat F W N).getD i 0 = F ((i / W : Nat) : Int) ((i % W : Nat) : Int) := by simp [flat, h]
theorem idx_div {a b W : Nat} (hb : b < W) : (a * W + b) / W = a ∧ (a * W + b) % W = b := by
  refine ⟨?_, ?_⟩
  · rw [Nat.add_comm, Nat.add_mul_div_right _ _ (by omega), Nat.div_eq_of_lt hb, Nat.zero_add]
  · rw [Nat.add_comm, Nat.add_mul_mod_self_right, Nat.mod_eq_of_lt hb]
theorem flat_at (F : Int → Int → Int) {W N a b : Nat} (hb : b < W) (h : a * W + b < N) : (flat F W N).getD (a * W + b) 0 = F a b := by
  rw [flat_get _ _ _ h, (idx_div hb).1, (idx_div hb).2]
theorem flat_congr {F G : Int → Int → Int} {W N : Nat} (hW : 0 < W) (h : ∀ a b : Nat, b < W → a * W + b < N → F a b = G a b) : flat F W N = flat G W N := by
  unfold flat
  refine List.map_congr_left fun i hi => ?_
  have hi := List.mem_range.1 hi
  exact h _ _ (Nat.mod_lt _ hW) (by rw [Nat.mul_comm, Nat.div_add_mod]; exact hi)
theorem flat_set {F G : Int → Int → Int} {W N a b : Nat} (hW : 0 < W) (hb : b < W) {v : Int} (h : ∀ a' b' : Nat, b' < W → a' * W + b' < N → G a' b' = if a' = a ∧ b' = b then v else F a' b') : flat G W N = (flat F W N).set (a * W + b) v := by
  apply List.ext_getElem
  · simp [flat]
  · intro i h1 h2
    have hi : i < N := by simpa [flat] using h1
    have e := h _ _ (Nat.mod_lt i hW) (by rw [Nat.mul_comm, Nat.div_add_mod]; exact hi)
    rw [List.getElem_set]
    simp only [flat, List.getElem_map, List.getElem_range]
    rw [e]
    by_cases q : a * W + b = i
    · subst q
      rw [if_pos rfl, if_pos (idx_div hb)]
    · rw [if_neg q, if_neg]
      rintro ⟨rfl, rfl⟩
      exact q (by rw [Nat.mul_comm, Nat.div_add_mod])
/-- The first of the two cells that a kind makes grow. -/
def midT (T : Int → Int → Int) (x y p n a b : Int) : Int := if a = x + p ∧ b = y then leastO (T a b + n) else T a b
theorem flat_mid1 {T : Int → Int → Int} {A W x y p : Nat} {n : Int} (hy : y < W) : flat (midT T x y p n) W ((A + 1) * W) = (flat T W ((A + 1) * W)).set ((x + p) * W + y) (leastO (T ((x + p : Nat) : Int) y + n)) := by
  refine flat_set (by omega) hy (fun a b hb h => ?_)
  unfold midT
  by_cases q : a = x + p ∧ b = y
  · obtain ⟨rfl, rfl⟩ := q
    rw [if_pos ⟨by push_cast; rfl, rfl⟩, if_pos ⟨rfl, rfl⟩]
  · rw [if_neg q, if_neg (by omega)]
theorem row_le {A W a b : Nat} (h : a * W + b < (A + 1) * W) : a ≤ A := by
  have : a < A + 1 := Nat.lt_of_mul_lt_mul_right (a := W) (by omega)
  omega
theorem flat_mid0 {T : Int → Int → Int} {A W x y p : Nat} {n : Int} (hy : y < W) (hx : ¬ x + p ≤ A) : flat (midT T x y p n) W ((A + 1) * W) = flat T W ((A + 1) * W) := by
  refine flat_congr (by omega) (fun a b hb h => ?_)
  have := row_le h
  unfold midT
  rw [if_neg (by omega)]
theorem next_mid {ks : List Int} {nv : Bool} {F : Int → Int → Int} (hF : ∀ a b, 0 ≤ F a b) {W q x y : Int} (hst : stB nv x y = true) {j : Nat} (hj : j < ks.length) (hp : 1 ≤ ks.getD j 0) (a b : Int) :
    nextT ks nv F W q x y (j + 1) a b = if a = x ∧ b = y + ks.getD j 0 ∧ stB nv a b = true then leastO (midT (nextT ks nv F W q x y j) x y (ks.getD j 0) (F x y) a b + F x y) else midT (nextT ks nv F W q x y j) x y (ks.getD j 0) (F x y) a b := by
  rw [nextT_kind hF hst hj hp]
  unfold midT
  by_cases h1 : a = x + ks.getD j 0 ∧ b = y
  · rw [if_pos h1, if_neg (by omega), if_pos h1]
  · simp only [if_neg h1]
theorem flat_kind1 {ks : List Int} {nv : Bool} {F : Int → Int → Int} (hF : ∀ a b, 0 ≤ F a b) {A W x y p : Nat} {q : Int} (hst : stB nv x y = true) {j : Nat} (hj : j < ks.length) (hp : ks.getD j 0 = (p : Int)) (hp1 : 1 ≤ p) (hy : y + p < W) (h2 : stB nv (x : Int) (((y + p : Nat)) : Int) = true) :
    flat (nextT ks nv F W q x y (j + 1)) W ((A + 1) * W) = (flat (midT (nextT ks nv F W q x y j) x y p (F x y)) W ((A + 1) * W)).set (x * W + (y + p)) (leastO (midT (nextT ks nv F W q x y j) x y p (F x y) x ((y + p : Nat) : Int) + F x y)) := by
  refine flat_set (by omega) hy (fun a b hb h => ?_)
  rw [next_mid hF hst hj (by rw [hp]; omega), hp]
  by_cases e : a = x ∧ b = y + p
  · obtain ⟨rfl, rfl⟩ := e
    rw [if_pos ⟨rfl, by push_cast; rfl, h2⟩, if_pos ⟨rfl, rfl⟩]
  · rw [if_neg e, if_neg (by omega)]
theorem flat_kind0 {ks : List Int} {nv : Bool} {F : Int → Int → Int} (hF : ∀ a b, 0 ≤ F a b) {A W x y p : Nat} {q : Int} (hst : stB nv x y = true) {j : Nat} (hj : j < ks.length) (hp : ks.getD j 0 = (p : Int)) (hp1 : 1 ≤ p) (hW : 0 < W) (h2 : ¬ (y + p < W ∧ stB nv (x : Int) (((y + p : Nat)) : Int) = true)) :
    flat (nextT ks nv F W q x y (j + 1)) W ((A + 1) * W) = flat (midT (nextT ks nv F W q x y j) x y p (F x y)) W ((A + 1) * W) := by
  refine flat_congr hW (fun a b hb h => ?_)
  rw [next_mid hF hst hj (by rw [hp]; omega), hp, if_neg]
  rintro ⟨e1, e2, e3⟩
  have e2' : b = y + p := by omega
  have e1' : a = x := by omega
  subst e1' e2'
  exact h2 ⟨hb, e3⟩
theorem flat_start {ks : List Int} (hk : ∀ p ∈ ks, 1 ≤ p) {nv : Bool} {F : Int → Int → Int} {W N : Nat} (hW : 0 < W) : flat (nextT ks nv F W 0 0 0 0) W N = List.replicate N 0 := by
  rw [flat_congr (G := fun _ _ => 0) hW (fun a b _ _ => nextT_none hk (by omega) (by omega) (by omega) _ _)]
  apply List.ext_getElem
  · simp [flat]
  · intro i h1 h2; simp [flat]
theorem flat_end {ks : List Int} (hk : ∀ p ∈ ks, 1 ≤ p) {nv : Bool} {k A W : Nat} (hW : 0 < W) : flat (nextT ks nv (cntT ks nv k) W (((A + 1) * W : Nat) : Int) 0 0 0) W ((A + 1) * W) = flat (cntT ks nv (k + 1)) W ((A + 1) * W) := by
  refine flat_congr hW (fun a b hb h => ?_)
  have := row_le h
  rw [show (((A + 1) * W : Nat) : Int) = ((A : Int) + 1) * (W : Int) by push_cast; rfl]
  exact nextT_all hk (by omega) (by omega) (by omega) (by omega) _ _
theorem flat_source {ks : List Int} (hk : ∀ p ∈ ks, 1 ≤ p) {nv : Bool} {F : Int → Int → Int} {W N x y : Nat} (hy : y < W) : flat (nextT ks nv F W ((x * W + y + 1 : Nat) : Int) 0 0 0) W N = flat (nextT ks nv F W ((x * W + y : Nat) : Int) x y ks.length) W N := by
  refine flat_congr (by omega) (fun a b hb h => ?_)
  rw [show ((x * W + y + 1 : Nat) : Int) = (x : Int) * (W : Int) + (y : Int) + 1 by push_cast; rfl, show ((x * W + y : Nat) : Int) = (x : Int) * (W : Int) + (y : Int) by push_cast; rfl]
  exact nextT_source hk (by omega) (by omega) (by omega) (by omega) (by omega) (by omega) _ _
theorem flat_skip {ks : List Int} (hk : ∀ p ∈ ks, 1 ≤ p) {nv : Bool} {F : Int → Int → Int} {W N x y : Nat} (hy : y < W) (h0 : F x y = 0) : flat (nextT ks nv F W ((x * W + y + 1 : Nat) : Int) 0 0 0) W N = flat (nextT ks nv F W ((x * W + y : Nat) : Int) 0 0 0) W N := by
  rw [flat_source hk hy]
  exact flat_congr (by omega) (fun a b hb h => nextT_skip h0 _ _ _ _ _)
theorem flat_begin (ks : List Int) (nv : Bool) (F : Int → Int → Int) (W N : Nat) (q : Int) (x y : Int) : flat (nextT ks nv F W q x y 0) W N = flat (nextT ks nv F W q 0 0 0) W N := by
  unfold flat
  refine List.map_congr_left fun i hi => ?_
  unfold nextT
  rw [List.take_zero]; rfl
theorem flat_zero (ks : List Int) (nv : Bool) {W N : Nat} (hW : 0 < W) (hN : 0 < N) : flat (cntT ks nv 0) W N = (List.replicate N (0 : Int)).set 0 1 := by
  have h0 : flat (fun _ _ => 0) W N = List.replicate N (0 : Int) := by
    apply List.ext_getElem
    · simp [flat]
    · intro i h1 h2; simp [flat]
  rw [← h0]
  have := flat_set (F := fun _ _ => 0) (G := cntT ks nv 0) (W := W) (N := N) (a := 0) (b := 0) (v := 1) hW hW (fun a b hb h => by
    show (if (a : Int) = 0 ∧ (b : Int) = 0 then (1 : Int) else 0) = _
    by_cases q : a = 0 ∧ b = 0
    · rw [if_pos q, if_pos (by omega)]
    · rw [if_neg q, if_neg (by omega)])
  rw [this]; congr 1; omega
/-- The model's running count. -/
def cumT (ks : List Int) (nv : Bool) (a b : Int) : Nat → Int
  | 0 => 0
  | k + 1 => leastO (cumT ks nv a b k + cntT ks nv k a b)
theorem cumT_is (ks : List Int) (nv : Bool) (a b : Int) : ∀ k, cumT ks nv a b (k + 1) = minO (sumT ks nv a b k)
  | 0 => by
    have h := cntT_bd ks nv 0 a b
    rw [cumT, cumT, leastO_min, Int.zero_add]; rfl
  | k + 1 => by
    rw [cumT, cumT_is ks nv a b k, leastO_min, minO_add (cntT_bd ks nv (k + 1) a b).1 (sumT_nonneg ks nv a b k)]; rfl
theorem cumT_bd (ks : List Int) (nv : Bool) (a b : Int) (k : Nat) : 0 ≤ cumT ks nv a b k ∧ cumT ks nv a b k ≤ capG := by
  cases k with
  | zero => unfold cumT capG; omega
  | succ k => rw [cumT_is]; exact minO_bd (sumT_nonneg ks nv a b k)
end Go.Proofs.Ytooaeafnneikkab
