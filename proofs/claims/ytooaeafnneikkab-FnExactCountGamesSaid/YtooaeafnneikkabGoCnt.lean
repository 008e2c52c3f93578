/-
  Goals, plain facts: how many games have a result: what is pulled from the round before, and what is pushed on.
-/
import Derived.Test.YtooaeafnneikkabGoOrd
namespace Go.Proofs.Ytooaeafnneikkab
set_option linter.unusedVariables false

def stB (nv : Bool) (a b : Int) : Bool := !nv || decide (b ≤ a)
def sumK (f : Int → Int) (ks : List Int) : Int := (ks.map f).sum
theorem sumK_nil (f : Int → Int) : sumK f [] = 0 := rfl
theorem sumK_cons (f : Int → Int) (p : Int) (r : List Int) : sumK f (p :: r) = f p + sumK f r := by simp [sumK]
theorem sumK_add (f g : Int → Int) : ∀ ks : List Int, sumK f ks + sumK g ks = sumK (fun p => f p + g p) ks
  | [] => by simp [sumK]
  | p :: r => by rw [sumK_cons, sumK_cons, sumK_cons, ← sumK_add f g r]; omega
theorem sumK_congr {f g : Int → Int} : ∀ {ks : List Int}, (∀ p ∈ ks, f p = g p) → sumK f ks = sumK g ks
  | [], _ => rfl
  | p :: r, h => by rw [sumK_cons, sumK_cons, h p (List.mem_cons_self ..), sumK_congr (fun q hq => h q (List.mem_cons_of_mem _ hq))]
theorem sumK_nonneg {f : Int → Int} : ∀ {ks : List Int}, (∀ p ∈ ks, 0 ≤ f p) → 0 ≤ sumK f ks
  | [], _ => Int.le_refl _
  | p :: r, h => by
    rw [sumK_cons]
    have := h p (List.mem_cons_self ..)
    have := sumK_nonneg (f := f) (ks := r) (fun q hq => h q (List.mem_cons_of_mem _ hq))
    omega
theorem sumK_le {f : Int → Int} {m : Int} : ∀ {ks : List Int}, (∀ p ∈ ks, f p ≤ m) → sumK f ks ≤ m * ks.length
  | [], _ => by simp [sumK]
  | p :: r, h => by
    rw [sumK_cons, List.length_cons]
    have := h p (List.mem_cons_self ..)
    have := sumK_le (f := f) (m := m) (ks := r) (fun q hq => h q (List.mem_cons_of_mem _ hq))
    rw [Int.natCast_succ, Int.mul_add, Int.mul_one]
    omega
theorem sumK_take (f : Int → Int) {ks : List Int} {k : Nat} (h : k < ks.length) : sumK f (ks.take (k + 1)) = sumK f (ks.take k) + f (ks.getD k 0) := by
  unfold sumK
  rw [List.take_succ_eq_append_getElem h, List.map_append, List.sum_append]
  simp [h]
theorem sumK_zero {f : Int → Int} {ks : List Int} (h : ∀ p ∈ ks, f p = 0) : sumK f ks = 0 := by
  rw [sumK_congr (g := fun _ => 0) h]
  induction ks with
  | nil => rfl
  | cons p r ih => rw [sumK_cons, ih (fun q hq => h q (List.mem_cons_of_mem _ hq))]; rfl

def pull2 (F : Int → Int → Int) (a b p : Int) : Int := (if b - p < 0 then 0 else F a (b - p)) + (if p ≤ a then F (a - p) b else 0)
def cntT (ks : List Int) (nv : Bool) : Nat → Int → Int → Int
  | 0 => fun a b => if a = 0 ∧ b = 0 then 1 else 0
  | k + 1 => fun a b => if stB nv a b = true then minO (sumK (pull2 (cntT ks nv k) a b) ks) else 0

theorem minO_bd {x : Int} (h : 0 ≤ x) : 0 ≤ minO x ∧ minO x ≤ capG := by unfold minO capG; split <;> omega
theorem minO_add {x n : Int} (h : 0 ≤ n) (hx : 0 ≤ x) : minO (minO x + n) = minO (x + n) := by
  unfold minO capG
  repeat' split
  all_goals omega
theorem cntT_bd (ks : List Int) (nv : Bool) : ∀ (k : Nat) (a b : Int), 0 ≤ cntT ks nv k a b ∧ cntT ks nv k a b ≤ capG
  | 0, a, b => by unfold cntT capG; split <;> omega
  | k + 1, a, b => by
    have ih := cntT_bd ks nv k
    unfold cntT
    split
    · refine minO_bd (sumK_nonneg fun p _ => ?_)
      unfold pull2
      have h1 := ih a (b - p)
      have h2 := ih (a - p) b
      repeat' split
      all_goals omega
    · unfold capG; omega
theorem cntT_off (ks : List Int) (nv : Bool) (k : Nat) (a b : Int) (h : stB nv a b = false) : cntT ks nv k a b = 0 := by
  cases k with
  | zero =>
    unfold cntT
    rw [if_neg]
    rintro ⟨rfl, rfl⟩
    cases nv <;> simp [stB] at h
  | succ k => unfold cntT; rw [if_neg (by simp [h])]
theorem pull2_bd (ks : List Int) (nv : Bool) (k : Nat) (a b p : Int) : 0 ≤ pull2 (cntT ks nv k) a b p ∧ pull2 (cntT ks nv k) a b p ≤ 2 * capG := by
  have h1 := cntT_bd ks nv k a (b - p)
  have h2 := cntT_bd ks nv k (a - p) b
  unfold pull2 capG at *
  repeat' split
  all_goals omega

/-- Goals score the least kind at least. -/
theorem cntT_few {ks : List Int} (m : Int) (hm : ∀ p ∈ ks, m ≤ p) (nv : Bool) : ∀ (k : Nat) (a b : Int), 0 ≤ a → 0 ≤ b → a + b < m * k → cntT ks nv k a b = 0
  | 0, a, b, ha, hb, h => by simp at h; omega
  | k + 1, a, b, ha, hb, h => by
    unfold cntT
    split
    · rw [sumK_zero]
      · rfl
      intro p hp
      have := hm p hp
      rw [Int.natCast_succ, Int.mul_add, Int.mul_one] at h
      unfold pull2
      have e1 : (if b - p < 0 then 0 else cntT ks nv k a (b - p)) = 0 := by
        split
        · rfl
        · exact cntT_few m hm nv k _ _ ha (by omega) (by omega)
      have e2 : (if p ≤ a then cntT ks nv k (a - p) b else 0) = 0 := by
        split
        · exact cntT_few m hm nv k _ _ (by omega) hb (by omega)
        · rfl
      rw [e1, e2]; rfl
    · rfl

/-- The sum of what the rounds have. -/
def sumT (ks : List Int) (nv : Bool) (a b : Int) : Nat → Int
  | 0 => cntT ks nv 0 a b
  | k + 1 => sumT ks nv a b k + cntT ks nv (k + 1) a b
theorem sumT_mono (ks : List Int) (nv : Bool) (a b : Int) {j k : Nat} (h : j ≤ k) : sumT ks nv a b j ≤ sumT ks nv a b k := by
  induction k with
  | zero => obtain rfl : j = 0 := by omega
            exact Int.le_refl _
  | succ k ih =>
    by_cases e : j = k + 1
    · subst e; exact Int.le_refl _
    · have := ih (by omega)
      have := (cntT_bd ks nv (k + 1) a b).1
      rw [sumT]; omega
theorem sumT_nonneg (ks : List Int) (nv : Bool) (a b : Int) (k : Nat) : 0 ≤ sumT ks nv a b k :=
  Int.le_trans (cntT_bd ks nv 0 a b).1 (sumT_mono ks nv a b (Nat.zero_le k))
theorem sumT_end {ks : List Int} {m : Int} (hm : ∀ p ∈ ks, m ≤ p) (nv : Bool) {a b : Int} (ha : 0 ≤ a) (hb : 0 ≤ b) {j k : Nat} (h : j ≤ k) (hj : a + b < m * ((j : Int) + 1)) (hm0 : 0 < m) : sumT ks nv a b k = sumT ks nv a b j := by
  induction k with
  | zero => obtain rfl : j = 0 := by omega
            rfl
  | succ k ih =>
    by_cases e : j = k + 1
    · subst e; rfl
    · rw [sumT, ih (by omega), cntT_few m hm nv (k + 1) a b ha hb, Int.add_zero]
      have : m * ((j : Int) + 1) ≤ m * ((k + 1 : Nat) : Int) := Int.mul_le_mul_of_nonneg_left (by omega) (by omega)
      omega

/-! What the model pushes on. -/
theorem idx_inj {W a b x y : Int} (h1 : 0 ≤ b) (h2 : b < W) (h3 : 0 ≤ y) (h4 : y < W) (h : a * W + b = x * W + y) : a = x ∧ b = y := by
  by_cases e : a = x
  · subst e; exact ⟨rfl, by omega⟩
  · exfalso
    rcases (by omega : a + 1 ≤ x ∨ x + 1 ≤ a) with h5 | h5
    · have := Int.mul_le_mul_of_nonneg_right h5 (by omega : 0 ≤ W)
      rw [Int.add_mul, Int.one_mul] at this
      omega
    · have := Int.mul_le_mul_of_nonneg_right h5 (by omega : 0 ≤ W)
      rw [Int.add_mul, Int.one_mul] at this
      omega
def push2 (F : Int → Int → Int) (W q a b p : Int) : Int := (if p ≤ b ∧ a * W + (b - p) < q then F a (b - p) else 0) + (if p ≤ a ∧ (a - p) * W + b < q then F (a - p) b else 0)
def delta (x y n a b p : Int) : Int := (if x + p = a ∧ y = b then n else 0) + (if x = a ∧ y + p = b then n else 0)
theorem push_step (F : Int → Int → Int) {W x y a b p : Int} (hx : 0 ≤ x) (hy : 0 ≤ y) (hyW : y < W) (ha : 0 ≤ a) (hb : 0 ≤ b) (hbW : b < W) (hp : 1 ≤ p) :
    push2 F W (x * W + y) a b p + delta x y (F x y) a b p = push2 F W (x * W + y + 1) a b p := by
  have e1 : (if p ≤ b ∧ a * W + (b - p) < x * W + y then F a (b - p) else 0) + (if x = a ∧ y + p = b then F x y else 0) = (if p ≤ b ∧ a * W + (b - p) < x * W + y + 1 then F a (b - p) else 0) := by
    by_cases h : p ≤ b
    · by_cases h2 : a * W + (b - p) = x * W + y
      · obtain ⟨r1, r2⟩ := idx_inj (by omega) (by omega) hy hyW h2
        subst r1
        rw [if_neg (by omega), if_pos ⟨rfl, by omega⟩, if_pos ⟨h, by omega⟩, r2]; omega
      · have h3 : ¬ (x = a ∧ y + p = b) := by
          rintro ⟨rfl, rfl⟩
          exact h2 (by congr 1; omega)
        rw [if_neg h3, Int.add_zero]
        by_cases h4 : a * W + (b - p) < x * W + y
        · rw [if_pos ⟨h, h4⟩, if_pos ⟨h, by omega⟩]
        · rw [if_neg (by omega), if_neg (by omega)]
    · rw [if_neg (by omega), if_neg (by omega), if_neg (by omega)]; rfl
  have e2 : (if p ≤ a ∧ (a - p) * W + b < x * W + y then F (a - p) b else 0) + (if x + p = a ∧ y = b then F x y else 0) = (if p ≤ a ∧ (a - p) * W + b < x * W + y + 1 then F (a - p) b else 0) := by
    by_cases h : p ≤ a
    · by_cases h2 : (a - p) * W + b = x * W + y
      · obtain ⟨r1, r2⟩ := idx_inj hb hbW hy hyW h2
        subst r2
        rw [if_neg (by omega), if_pos ⟨by omega, rfl⟩, if_pos ⟨h, by omega⟩, r1]; omega
      · have h3 : ¬ (x + p = a ∧ y = b) := by
          rintro ⟨rfl, rfl⟩
          exact h2 (by rw [Int.add_sub_cancel])
        rw [if_neg h3, Int.add_zero]
        by_cases h4 : (a - p) * W + b < x * W + y
        · rw [if_pos ⟨h, h4⟩, if_pos ⟨h, by omega⟩]
        · rw [if_neg (by omega), if_neg (by omega)]
    · rw [if_neg (by omega), if_neg (by omega), if_neg (by omega)]; rfl
  unfold push2 delta
  omega
theorem push_none (F : Int → Int → Int) {W a b p : Int} (ha : 0 ≤ a) (hb : 0 ≤ b) (hW : 0 ≤ W) (hp : 1 ≤ p) : push2 F W 0 a b p = 0 := by
  have h1 : 0 ≤ a * W := Int.mul_nonneg ha hW
  unfold push2
  rw [if_neg (by omega), if_neg]
  · rfl
  · rintro ⟨h2, h3⟩
    have : 0 ≤ (a - p) * W := Int.mul_nonneg (by omega) hW
    omega
theorem push_all (F : Int → Int → Int) {A W a b p : Int} (ha : 0 ≤ a) (haA : a ≤ A) (hb : 0 ≤ b) (hbW : b < W) (hp : 1 ≤ p) : push2 F W ((A + 1) * W) a b p = pull2 F a b p := by
  have h1 : a * W + W ≤ (A + 1) * W := by
    have := Int.mul_le_mul_of_nonneg_right (show a + 1 ≤ A + 1 by omega) (by omega : 0 ≤ W)
    rwa [Int.add_mul, Int.one_mul] at this
  have h2 : (a - p) * W ≤ a * W := Int.mul_le_mul_of_nonneg_right (by omega) (by omega)
  unfold push2 pull2
  congr 1
  · by_cases h : p ≤ b
    · rw [if_pos ⟨h, by omega⟩, if_neg (by omega)]
    · rw [if_neg (by omega), if_pos (by omega)]
  · by_cases h : p ≤ a
    · rw [if_pos ⟨h, by omega⟩, if_pos h]
    · rw [if_neg (by omega), if_neg h]

/-- What the model's next round holds behind the sources ahead of q, and behind the first j kinds of source q. -/
def nextT (ks : List Int) (nv : Bool) (F : Int → Int → Int) (W q x y : Int) (j : Nat) (a b : Int) : Int :=
  if stB nv a b = true then minO (sumK (push2 F W q a b) ks + sumK (delta x y (F x y) a b) (ks.take j)) else 0
def putF (f : Int → Int → Int) (x y v a b : Int) : Int := if a = x ∧ b = y then v else f a b
def leastO (x : Int) : Int := if x < capG then x else capG
theorem leastO_min (x : Int) : leastO x = minO x := by unfold leastO minO; split <;> split <;> omega

theorem push2_nonneg {F : Int → Int → Int} (hF : ∀ a b, 0 ≤ F a b) (W q a b p : Int) : 0 ≤ push2 F W q a b p := by
  have h1 := hF a (b - p)
  have h2 := hF (a - p) b
  unfold push2
  repeat' split
  all_goals omega
theorem delta_nonneg {n : Int} (hn : 0 ≤ n) (x y a b p : Int) : 0 ≤ delta x y n a b p := by
  unfold delta
  repeat' split
  all_goals omega
theorem nextT_arg {F : Int → Int → Int} (hF : ∀ a b, 0 ≤ F a b) (ks : List Int) (W q x y : Int) (j : Nat) (a b : Int) : 0 ≤ sumK (push2 F W q a b) ks + sumK (delta x y (F x y) a b) (ks.take j) := by
  have h1 : 0 ≤ sumK (push2 F W q a b) ks := sumK_nonneg fun p _ => push2_nonneg hF W q a b p
  have h2 : 0 ≤ sumK (delta x y (F x y) a b) (ks.take j) := sumK_nonneg fun p _ => delta_nonneg (hF x y) x y a b p
  omega
theorem nextT_bd {F : Int → Int → Int} (hF : ∀ a b, 0 ≤ F a b) (ks : List Int) (nv : Bool) (W q x y : Int) (j : Nat) (a b : Int) : 0 ≤ nextT ks nv F W q x y j a b ∧ nextT ks nv F W q x y j a b ≤ capG := by
  unfold nextT
  split
  · exact minO_bd (nextT_arg hF ks W q x y j a b)
  · unfold capG; omega

/-- One kind more of one source: two cells grow. -/
theorem nextT_kind {ks : List Int} {nv : Bool} {F : Int → Int → Int} (hF : ∀ a b, 0 ≤ F a b) {W q x y : Int} (hst : stB nv x y = true) {j : Nat} (hj : j < ks.length) (hp : 1 ≤ ks.getD j 0) (a b : Int) :
    nextT ks nv F W q x y (j + 1) a b =
      (if a = x + ks.getD j 0 ∧ b = y then leastO (nextT ks nv F W q x y j a b + F x y)
       else if a = x ∧ b = y + ks.getD j 0 ∧ stB nv a b = true then leastO (nextT ks nv F W q x y j a b + F x y)
       else nextT ks nv F W q x y j a b) := by
  have harg := nextT_arg hF ks W q x y j a b
  have hn := hF x y
  unfold nextT
  rw [sumK_take _ hj]
  generalize ks.getD j 0 = p at *
  generalize sumK (push2 F W q a b) ks = u at *
  generalize sumK (delta x y (F x y) a b) (ks.take j) = v at *
  by_cases h1 : a = x + p ∧ b = y
  · obtain ⟨rfl, rfl⟩ := h1
    have hs2 : stB nv (x + p) b = true := by
      cases nv
      · rfl
      · simp [stB] at hst ⊢; omega
    rw [if_pos hs2, if_pos ⟨rfl, rfl⟩, if_pos hs2, leastO_min, minO_add hn harg]
    have : delta x b (F x b) (x + p) b p = F x b := by
      unfold delta
      rw [if_pos ⟨rfl, rfl⟩, if_neg (by omega), Int.add_zero]
    rw [this, Int.add_assoc]
  · rw [if_neg h1]
    by_cases h2 : a = x ∧ b = y + p
    · obtain ⟨rfl, rfl⟩ := h2
      have hd : delta a y (F a y) a (y + p) p = F a y := by
        unfold delta
        rw [if_neg (by omega), if_pos ⟨rfl, rfl⟩, Int.zero_add]
      by_cases h3 : stB nv a (y + p) = true
      · rw [if_pos h3, if_pos ⟨rfl, rfl, h3⟩, if_pos h3, leastO_min, minO_add hn harg, hd, Int.add_assoc]
      · rw [if_neg h3, if_neg (fun h => h3 h.2.2), if_neg h3]
    · have hd : delta x y (F x y) a b p = 0 := by
        unfold delta
        rw [if_neg (fun h => h1 ⟨h.1.symm, h.2.symm⟩), if_neg (fun h => h2 ⟨h.1.symm, h.2.symm⟩)]; rfl
      rw [hd, Int.add_zero, if_neg (c := a = x ∧ b = y + p ∧ stB nv a b = true) (fun h => h2 ⟨h.1, h.2.1⟩)]
/-- One source more. -/
theorem nextT_source {ks : List Int} (hk : ∀ p ∈ ks, 1 ≤ p) {nv : Bool} {F : Int → Int → Int} {W x y a b : Int} (hx : 0 ≤ x) (hy : 0 ≤ y) (hyW : y < W) (ha : 0 ≤ a) (hb : 0 ≤ b) (hbW : b < W) (x' y' : Int) :
    nextT ks nv F W (x * W + y + 1) x' y' 0 a b = nextT ks nv F W (x * W + y) x y ks.length a b := by
  unfold nextT
  rw [List.take_length, List.take_zero, sumK_nil, Int.add_zero, sumK_add]
  rw [sumK_congr (fun p hp => push_step F hx hy hyW ha hb hbW (hk p hp))]
theorem nextT_skip {ks : List Int} {nv : Bool} {F : Int → Int → Int} {W q x y : Int} (h0 : F x y = 0) (j : Nat) (a b x' y' : Int) :
    nextT ks nv F W q x y j a b = nextT ks nv F W q x' y' 0 a b := by
  unfold nextT
  rw [List.take_zero, sumK_nil, h0, sumK_zero (f := delta x y 0 a b)]
  intro p _; unfold delta; repeat' split
  all_goals rfl
theorem nextT_none {ks : List Int} (hk : ∀ p ∈ ks, 1 ≤ p) {nv : Bool} {F : Int → Int → Int} {W a b : Int} (ha : 0 ≤ a) (hb : 0 ≤ b) (hW : 0 ≤ W) (x y : Int) : nextT ks nv F W 0 x y 0 a b = 0 := by
  unfold nextT
  rw [List.take_zero, sumK_nil, sumK_zero (fun p hp => push_none F ha hb hW (hk p hp))]
  split <;> rfl
theorem nextT_all {ks : List Int} (hk : ∀ p ∈ ks, 1 ≤ p) {nv : Bool} {k : Nat} {A W a b : Int} (ha : 0 ≤ a) (haA : a ≤ A) (hb : 0 ≤ b) (hbW : b < W) (x y : Int) :
    nextT ks nv (cntT ks nv k) W ((A + 1) * W) x y 0 a b = cntT ks nv (k + 1) a b := by
  unfold nextT
  rw [List.take_zero, sumK_nil, Int.add_zero, sumK_congr (fun p hp => push_all (cntT ks nv k) ha haA hb hbW (hk p hp))]
  rfl
end Go.Proofs.Ytooaeafnneikkab
