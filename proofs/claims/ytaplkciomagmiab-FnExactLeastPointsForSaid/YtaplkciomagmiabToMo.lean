/-
  Tennis: game orders: the model's recursion.
-/
import Derived.Test.YtaplkciomagmiabToM
namespace Go.Proofs.Ytaplkciomagmiab
open Go.RowKit Go.Deep
set_option linter.unusedVariables false
set_option linter.unusedSimpArgs false

theorem ord_zero (a b x y : Nat) (l : List UInt8) : ord a b 0 x y l = [] := rfl
theorem ord_succ (a b f x y : Nat) (l : List UInt8) : ord a b (f + 1) x y l = if x = a ∧ y = b then [l] else if overB x y then [] else (if x < a then ord a b f (x + 1) y (l ++ [97]) else []) ++ (if y < b then ord a b f x (y + 1) (l ++ [98]) else []) := rfl
theorem ord_len : ∀ (f a b x y : Nat) (l : List UInt8), (ord a b f x y l).length ≤ 2 ^ f
  | 0, a, b, x, y, l => by rw [ord_zero]; simp
  | f + 1, a, b, x, y, l => by
    have h1 := ord_len f a b (x + 1) y (l ++ [97])
    have h2 := ord_len f a b x (y + 1) (l ++ [98])
    have h3 : 0 < 2 ^ f := Nat.pow_pos (by omega)
    rw [ord_succ]
    split
    · simp [Nat.pow_succ]; omega
    · split
      · simp
      · rw [List.length_append, Nat.pow_succ]
        split <;> split <;> simp <;> omega

set_option maxHeartbeats 3200000 in
theorem tnOrders_any (a b : Nat) (ha : a ≤ 7) (hb : b ≤ 7) : ∀ (f x y : Nat) (l : List UInt8), f ≤ 15 → x ≤ a → y ≤ b → a + b + 1 ≤ x + y + f → l.length = x + y → cntA l = (x : Int) → ∀ w : World,
    Calls Try.prog 24 #[.int .i64 a, .int .i64 b, .string ⟨l.toArray⟩] w fun e w' => StrR (ord a b f x y l) w e w'
  | 0, x, y, l, hf, hx, hy, hfu, hl, hc, w => by omega
  | f + 1, x, y, l, hf, hx, hy, hfu, hl, hc, w => by
    have HA := Lib.hid (fun hxa : x < a => tnOrders_any a b ha hb f (x + 1) y (l ++ [97]) (by omega) (by omega) hy (by omega) (by simp; omega) (by rw [cntA_snoc, hc]; unfold upA; simp))
    have HB := Lib.hid (fun hyb : y < b => tnOrders_any a b ha hb f x (y + 1) (l ++ [98]) (by omega) hx (by omega) (by omega) (by simp; omega) (by rw [cntA_snoc, hc]; unfold upA; simp))
    have hsz : (⟨l.toArray⟩ : ByteArray).size = x + y := by simp [ByteArray.size, hl]
    have HW := Lib.hid (fun W => tnWon_any ⟨l.toArray⟩ W (by rw [hsz]; omega))
    rw [hsz, show cntA (⟨l.toArray⟩ : ByteArray).data.toList = (x : Int) from hc, show (((x + y : Nat) : Int) - (x : Int)) = (y : Int) from by omega] at HW
    have HO := Lib.hid (fun W => tnOver_any (x : Int) (y : Int) W (by omega) (by omega) (by omega) (by omega))
    have hp : 2 ^ f ≤ 2 ^ 14 := Nat.pow_le_pow_right (by omega) (by omega)
    have HLa := Lib.hid (Nat.le_trans (ord_len f a b (x + 1) y (l ++ [97])) hp)
    have HLb := Lib.hid (Nat.le_trans (ord_len f a b x (y + 1) (l ++ [98])) hp)
    have hadd1 : ∀ W : World, (Op.stringOp .add ⟨l.toArray⟩ ⟨#[97]⟩).run Try.prog W = .ok (.string ⟨(l ++ [97]).toArray⟩) W := fun W => run_string_add_lists W l [97] (by omega) (by simp)
    have hadd2 : ∀ W : World, (Op.stringOp .add ⟨l.toArray⟩ ⟨#[98]⟩).run Try.prog W = .ok (.string ⟨(l ++ [98]).toArray⟩) W := fun W => run_string_add_lists W l [98] (by omega) (by simp)
    rw [ord_succ]
    clear hsz hp hc hl hfu hf
    by_cases hend : x = a ∧ y = b
    · rw [if_pos hend]
      obtain ⟨rfl, rfl⟩ := hend
      clear HA HB HO HLa HLb hadd1 hadd2
      go_enter Try.func24, Try.ntmps24
      go_wp2_with fail
      refine (HW.out _).mono ?_; rintro e w1 ⟨rfl, rfl⟩
      go_wp2_with fail
      go_ret
      exact ⟨_, rfl, World.ownsRow_lit (size := 1) w #[.string ⟨l.toArray⟩] 1 (Nat.le_refl _) (by unfold maxLen; omega) rfl, (Below.refl _ _).alloc (Nat.le_refl _) _⟩
    · rw [if_neg hend]
      have hne : ((x : Int) == (a : Int)) = false ∨ ((x : Int) == (a : Int)) = true ∧ ((y : Int) == (b : Int)) = false := by
        by_cases h1 : x = a
        · refine .inr ⟨by simp [h1], ?_⟩
          have : y ≠ b := fun h2 => hend ⟨h1, h2⟩
          simp; omega
        · exact .inl (by simp; omega)
      clear hend
      cases hov : overB (x : Int) (y : Int) with
      | true =>
        rw [if_pos rfl]
        rw [hov] at HO
        clear HA HB HLa HLb hadd1 hadd2 hov
        rcases hne with h1 | ⟨h1, h2⟩
        all_goals
          go_enter Try.func24, Try.ntmps24
          go_wp2_with fail
          refine (HW.out _).mono ?_; rintro e w1 ⟨rfl, rfl⟩
          go_wp2_with fail
          refine (HO.out _).mono ?_; rintro e w1 ⟨rfl, rfl⟩
          go_wp2_with fail
          go_ret
          exact ⟨_, rfl, owns_none _ _ _, Below.refl _ _⟩
      | false =>
        rw [if_neg (by decide)]
        rw [hov] at HO
        clear hov
        by_cases hxa : x < a
        · rw [if_pos hxa]
          have h3 : (x : Int) < (a : Int) := by omega
          have HA2 := Lib.hid (HA.out hxa)
          by_cases hyb : y < b
          · rw [if_pos hyb]
            have h4 : (y : Int) < (b : Int) := by omega
            have HB2 := Lib.hid (HB.out hyb)
            clear HA HB
            generalize ord a b f (x + 1) y (l ++ [97]) = LA at *
            generalize ord a b f x (y + 1) (l ++ [98]) = LB at *
            rcases hne with h1 | ⟨h1, h2⟩
            all_goals
              go_enter Try.func24, Try.ntmps24
              go_wp2_with fail
              refine (HW.out _).mono ?_; rintro e w1 ⟨rfl, rfl⟩
              go_wp2_with fail
              refine (HO.out _).mono ?_; rintro e w1 ⟨rfl, rfl⟩
              go_wp2_with fail
              refine (HA2.out _).mono ?_; rintro e w2 ⟨v2, rfl, o2, b2⟩
              have H2 := Lib.hid (And.intro o2 b2); clear o2 b2
              go_wp2_with fail
              refine (HB2.out _).mono ?_; rintro e w3 ⟨v3, rfl, o3, b3⟩
              have H3 := Lib.hid (And.intro (owns_below H2.out.1 b3) (And.intro (owns_base o3 H2.out.2.size) (H2.out.2.trans (b3.mono H2.out.2.size)))); clear o3 b3
              go_wp2_with (at_builtin; refine append_rows (L := LA) (M := LB) rfl _ _ rfl v2 v3 rfl rfl H3.out.1 H3.out.2.1 H3.out.2.2.size H3.out.2.2 (by have := HLa.out; have := HLb.out; omega) ?_)
              intro v' w7 o7 b7
              have H7 := Lib.hid (And.intro o7 b7); clear o7 b7
              go_wp2_with fail
              go_ret
              exact ⟨v', rfl, by rw [List.length_append]; exact H7.out.1, H7.out.2⟩
          · rw [if_neg hyb, List.append_nil]
            have h4 : ¬ (y : Int) < (b : Int) := by omega
            clear HA HB
            generalize ord a b f (x + 1) y (l ++ [97]) = LA at *
            rcases hne with h1 | ⟨h1, h2⟩
            all_goals
              go_enter Try.func24, Try.ntmps24
              go_wp2_with fail
              refine (HW.out _).mono ?_; rintro e w1 ⟨rfl, rfl⟩
              go_wp2_with fail
              refine (HO.out _).mono ?_; rintro e w1 ⟨rfl, rfl⟩
              go_wp2_with fail
              refine (HA2.out _).mono ?_; rintro e w2 ⟨v2, rfl, o2, b2⟩
              have H2 := Lib.hid (And.intro o2 b2); clear o2 b2
              go_wp2_with fail
              go_ret
              exact ⟨_, rfl, H2.out.1, H2.out.2⟩
        · rw [if_neg hxa, List.nil_append]
          have h3 : ¬ (x : Int) < (a : Int) := by omega
          by_cases hyb : y < b
          · rw [if_pos hyb]
            have h4 : (y : Int) < (b : Int) := by omega
            have HB2 := Lib.hid (HB.out hyb)
            clear HA HB
            generalize ord a b f x (y + 1) (l ++ [98]) = LB at *
            rcases hne with h1 | ⟨h1, h2⟩
            all_goals
              go_enter Try.func24, Try.ntmps24
              go_wp2_with fail
              refine (HW.out _).mono ?_; rintro e w1 ⟨rfl, rfl⟩
              go_wp2_with fail
              refine (HO.out _).mono ?_; rintro e w1 ⟨rfl, rfl⟩
              go_wp2_with fail
              refine (HB2.out _).mono ?_; rintro e w3 ⟨v3, rfl, o3, b3⟩
              have H3 := Lib.hid (And.intro o3 b3); clear o3 b3
              go_wp2_with (at_builtin; refine append_rows (L := []) (M := LB) rfl _ _ rfl (.slice none 0 0) v3 rfl rfl (owns_none _ _ _) H3.out.1 H3.out.2.size H3.out.2 (by have := HLb.out; simp; omega) ?_)
              intro v' w7 o7 b7
              have H7 := Lib.hid (And.intro o7 b7); clear o7 b7
              go_wp2_with fail
              go_ret
              exact ⟨_, rfl, H7.out.1, H7.out.2⟩
          · rw [if_neg hyb]
            have h4 : ¬ (y : Int) < (b : Int) := by omega
            clear HA HB
            rcases hne with h1 | ⟨h1, h2⟩
            all_goals
              go_enter Try.func24, Try.ntmps24
              go_wp2_with fail
              refine (HW.out _).mono ?_; rintro e w1 ⟨rfl, rfl⟩
              go_wp2_with fail
              refine (HO.out _).mono ?_; rintro e w1 ⟨rfl, rfl⟩
              go_wp2_with fail
              go_ret
              exact ⟨_, rfl, owns_none _ _ _, Below.refl _ _⟩
end Go.Proofs.Ytaplkciomagmiab
