/-
  Pins, plain facts: the rolls of a text, as both sides find them.
-/
import Derived.Test.YtgkkjlpfkoplhaaDoorPrBall
namespace Go.Proofs.YtgkkjlpfkoplhaaDoor
set_option linter.unusedVariables false
set_option linter.unusedSimpArgs false

/-- What the rolls of a text are. -/
def PrIs (f : Int) (s : List UInt8) : Option (List Int) → Prop
  | some l => ∃ t, goodR f l = some t ∧ textG t = s
  | none => ∀ l t, goodR f l = some t → textG t ≠ s
theorem PrIs.one {f : Int} {s : List UInt8} {o o' : Option (List Int)} (h : PrIs f s o) (h' : PrIs f s o') : o = o' := by
  cases o with
  | none =>
    cases o' with
    | none => rfl
    | some l =>
      obtain ⟨t, h1, h2⟩ := h'
      exact absurd h2 (h l t h1)
  | some l =>
    obtain ⟨t, h1, h2⟩ := h
    cases o' with
    | none => exact absurd h2 (h' l t h1)
    | some l' =>
      obtain ⟨t', h1', h2'⟩ := h'
      obtain ⟨F, rfl, hF1, hF2, g1, -, -⟩ := goodR_some h1
      rw [goodR_nat hF1 hF2] at h1'
      rw [text_inj hF1 g1 h1' (h2.trans h2'.symm)]
theorem PrIs.some_of (f : Int) (s : List UInt8) : ∃ o, PrIs f s o := by
  by_cases h : ∃ l t, goodR f l = some t ∧ textG t = s
  · obtain ⟨l, t, h⟩ := h
    exact ⟨some l, t, h⟩
  · exact ⟨none, fun l t h1 h2 => h ⟨l, t, h1, h2⟩⟩
theorem PrIs.bad {f : Int} {s : List UInt8} (h : ¬ (1 ≤ f ∧ f ≤ 10)) : PrIs f s none := fun l t h1 => by
  unfold goodR at h1; rw [if_neg h] at h1; cases h1
theorem PrIs.len {f : Int} {s : List UInt8} {o : Option (List Int)} (h : PrIs f s o) : (o.getD []).length ≤ 30 := by
  cases o with
  | none => simp
  | some l =>
    obtain ⟨t, h1, h2⟩ := h
    obtain ⟨F, rfl, hF1, hF2, g1, hi, hr⟩ := goodR_some h1
    have := flat_len hi
    rw [hr] at this
    simp; omega
theorem good_len {F : Nat} (hF1 : 1 ≤ F) (hF2 : F ≤ 10) {l : List Int} {t : St} (h : gameG F ([], []) l = some t) : l.length ≤ 30 ∧ (textG t).length = l.length := by
  have hi := game_inv _ _ _ (inv_start hF1) h
  have hr : rollsG t = l := by have := game_rolls _ _ _ h; simpa [rollsG] using this
  have := flat_len hi
  have e := text_len t
  rw [hr] at this e
  exact ⟨by omega, e⟩
/-- With the beginning of the text told, the next ball has the next sign, or there are no such rolls. -/
theorem pr_next {F : Nat} (hF1 : 1 ≤ F) {rolls l : List Int} {u t : St} {s : List UInt8} (hg : gameG F ([], []) rolls = some u) (hl : gameG F ([], []) l = some t) (hs : textG t = s) (hi : rolls.length < s.length) (ht : textG u = s.take rolls.length) :
    ∃ k, fitsG F u k = true ∧ signM u.2 k = [s.getD rolls.length 0] := by
  have hr : rollsG t = l := by have := game_rolls _ _ _ hl; simpa [rollsG] using this
  have hlen : l.length = s.length := by rw [← hs, text_len, hr]
  have hsp : gameG F ([], []) (l.take rolls.length ++ l.drop rolls.length) = some t := by rw [List.take_append_drop]; exact hl
  rw [game_append] at hsp
  cases hq : gameG F ([], []) (l.take rolls.length) with
  | none => rw [hq] at hsp; cases hsp
  | some u' =>
    rw [hq] at hsp
    have hsp2 : gameG F u' (l.drop rolls.length) = some t := hsp
    have hiu := game_inv _ _ _ (inv_start hF1) hq
    have ht1 := text_game _ _ _ hiu hsp2
    have hr' : rollsG u' = l.take rolls.length := by have := game_rolls _ _ _ hq; simpa [rollsG] using this
    have hl' : (textG u').length = rolls.length := by rw [text_len, hr', List.length_take]; omega
    have htk : textG u' = s.take rolls.length := by
      rw [← hs, ht1, ← hl', List.take_left']
      rfl
    have he := text_inj hF1 hq hg (htk.trans ht.symm)
    rw [he, hg] at hq
    obtain rfl : u = u' := by simpa using hq
    rw [List.drop_eq_getElem_cons (by omega)] at hsp2 ht1
    have hf : fitsG F u (l[rolls.length]'(by omega)) = true := by
      rw [gameG] at hsp2
      split at hsp2
      · assumption
      · cases hsp2
    refine ⟨_, hf, ?_⟩
    have hsl := signM_len u.2 (l[rolls.length]'(by omega))
    obtain ⟨c, hc⟩ := List.length_eq_one_iff.1 hsl
    rw [hc]
    rw [hs, txF, hc] at ht1
    have : s.getD rolls.length 0 = c := by
      rw [ht1, List.getD_eq_getElem?_getD, List.getElem?_append_right (by omega), hl', Nat.sub_self]
      rfl
    rw [this]
theorem take_next {s : List UInt8} {n : Nat} (h : n < s.length) : s.take (n + 1) = s.take n ++ [s.getD n 0] := by
  rw [List.take_succ_eq_append_getElem h]
  simp [h]
/-- The program's next ball, where there is none. -/
theorem bw_none {F : Nat} (hF1 : 1 ≤ F) (hF2 : F ≤ 10) {rolls : List Int} {u : St} {s : List UInt8} {x : ByteArray} {o : Option (List Int)} (hg : gameG F ([], []) rolls = some u) (ho : PrIs F s o) (hi : rolls.length < s.length) (ht : textG u = s.take rolls.length) (hx : x.toList = s.take (rolls.length + 1)) (hb : bwO F rolls x = none) : o = none := by
  cases o with
  | none => rfl
  | some l =>
    obtain ⟨t, h1, h2⟩ := ho
    rw [goodR_nat hF1 hF2] at h1
    obtain ⟨k, hf, hk⟩ := pr_next hF1 hg h1 h2 hi ht
    obtain ⟨-, h0, h10⟩ := fits_parts hf
    have hbd := leftP_bd u.2
    obtain ⟨n, rfl⟩ : ∃ n : Nat, k = (n : Int) := ⟨k.toNat, by omega⟩
    unfold bwO at hb
    rw [List.find?_eq_none] at hb
    have hn := hb n (List.mem_range.2 (by omega))
    refine absurd ?_ hn
    have hiu := game_inv _ _ _ (inv_start hF1) hg
    have hgn : goodR (F : Int) (rolls ++ [(n : Int)]) = some (stepG F u (n : Int)) := by
      rw [goodR_nat hF1 hF2, game_append, hg]; simp [gameG, hf]
    unfold okBt
    rw [hgn]
    simp only [txtV, Option.isSome_some, Bool.true_and]
    rw [text_step hiu hf, hk, ht, ← take_next hi, hx]
    simp [ByteArray.toList_eq]
theorem bw_some {F : Nat} (hF1 : 1 ≤ F) (hF2 : F ≤ 10) {rolls : List Int} {s : List UInt8} {x : ByteArray} {k : Nat} (hx : x.toList = s.take (rolls.length + 1)) (hb : bwO F rolls x = some k) : ∃ t, gameG F ([], []) (rolls ++ [(k : Int)]) = some t ∧ textG t = s.take (rolls.length + 1) := by
  unfold bwO at hb
  have := List.find?_some hb
  unfold okBt at this
  rw [goodR_nat hF1 hF2] at this
  cases hg : gameG F ([], []) (rolls ++ [(k : Int)]) with
  | none => rw [hg] at this; simp at this
  | some t =>
    rw [hg] at this
    refine ⟨t, rfl, ?_⟩
    simp [txtV, ByteArray.toList_eq] at this
    rw [← hx, ByteArray.toList_eq, ← this]
theorem bw_bad {f : Int} {rolls : List Int} {x : ByteArray} (h : ¬ (1 ≤ f ∧ f ≤ 10)) : bwO f rolls x = none := by
  refine bw_no fun j _ => ?_
  unfold okBt goodR
  rw [if_neg h]; rfl
/-- What the model reads of a sign. -/
def rdM (c : UInt8) (q : Int) : Option Int := if c = 88 then some 10 else if c = 47 then some q else if 49 ≤ c ∧ c ≤ 57 then some ((c.toNat : Int) - 48) else if c = 45 then some 0 else none
theorem rd_sign {F : Nat} {u : St} {k : Int} {c : UInt8} (hf : fitsG F u k = true) (hs : signM u.2 k = [c]) : rdM c (leftP u.2) = some k := by
  obtain ⟨-, h0, h1⟩ := fits_parts hf
  have hb := leftP_bd u.2
  unfold signM at hs
  split at hs
  · rename_i e
    injection hs with hs _
    subst e; rw [← hs]; simp [rdM]
  · split at hs
    · rename_i e
      injection hs with hs _
      rw [← hs, e.1]; simp [rdM]
    · split at hs
      · rename_i e
        injection hs with hs _
        rw [← hs, e]; simp [rdM]
      · unfold digP at hs
        injection hs with hs _
        obtain ⟨n, rfl⟩ : ∃ n : Nat, k = (n : Int) := ⟨k.toNat, by omega⟩
        have hn : 1 ≤ n ∧ n ≤ 9 := by omega
        rw [Int.toNat_natCast] at hs
        have H : ∀ n : Fin 10, 1 ≤ n.val → ∀ q, rdM (UInt8.ofNat (48 + n.val)) q = some (n.val : Int) := by
          intro n hn q
          unfold rdM
          have : (UInt8.ofNat (48 + n.val)) ≠ 88 ∧ (UInt8.ofNat (48 + n.val)) ≠ 47 ∧ (49 ≤ (UInt8.ofNat (48 + n.val)) ∧ (UInt8.ofNat (48 + n.val)) ≤ 57) ∧ (((UInt8.ofNat (48 + n.val)).toNat : Int) - 48 = (n.val : Int)) := by
            revert n; decide +kernel
          rw [if_neg this.1, if_neg this.2.1, if_pos this.2.2.1, this.2.2.2]
        rw [← hs]
        exact H ⟨n, by omega⟩ hn.1 _
/-- The model's step: nothing to read, or too many pins, or all is over. -/
theorem pr_fail {F : Nat} (hF1 : 1 ≤ F) (hF2 : F ≤ 10) {rolls : List Int} {u : St} {s : List UInt8} {o : Option (List Int)} (hg : gameG F ([], []) rolls = some u) (ho : PrIs F s o) (hi : rolls.length < s.length) (ht : o = none ∨ textG u = s.take rolls.length) (hb : ∀ k, rdM (s.getD rolls.length 0) (leftP u.2) = some k → fitsG F u k = false) : o = none := by
  rcases ht with ht | ht
  · exact ht
  cases o with
  | none => rfl
  | some l =>
    obtain ⟨t, h1, h2⟩ := ho
    rw [goodR_nat hF1 hF2] at h1
    obtain ⟨k, hf, hk⟩ := pr_next hF1 hg h1 h2 hi ht
    have := hb k (rd_sign hf hk)
    rw [hf] at this; cases this
theorem pr_step {F : Nat} (hF1 : 1 ≤ F) (hF2 : F ≤ 10) {rolls : List Int} {u : St} {s : List UInt8} {o : Option (List Int)} (hg : gameG F ([], []) rolls = some u) (ho : PrIs F s o) (hi : rolls.length < s.length) (ht : o = none ∨ textG u = s.take rolls.length) {p : Int} (hp : rdM (s.getD rolls.length 0) (leftP u.2) = some p) (hf : fitsG F u p = true) :
    gameG F ([], []) (rolls ++ [p]) = some (stepG F u p) ∧ (o = none ∨ textG (stepG F u p) = s.take (rolls.length + 1)) := by
  have hiu := game_inv _ _ _ (inv_start hF1) hg
  refine ⟨by rw [game_append, hg]; simp [gameG, hf], ?_⟩
  rcases ht with ht | ht
  · exact .inl ht
  cases o with
  | none => exact .inl rfl
  | some l =>
    obtain ⟨t, h1, h2⟩ := ho
    rw [goodR_nat hF1 hF2] at h1
    obtain ⟨k, hfk, hk⟩ := pr_next hF1 hg h1 h2 hi ht
    have := rd_sign hfk hk
    rw [hp] at this
    obtain rfl : p = k := by simpa using this
    refine .inr ?_
    rw [text_step hiu hf, hk, ht, take_next hi]
theorem pr_end {F : Nat} (hF1 : 1 ≤ F) (hF2 : F ≤ 10) {rolls : List Int} {u : St} {s : List UInt8} {o : Option (List Int)} (hg : gameG F ([], []) rolls = some u) (ho : PrIs F s o) (ht : o = none ∨ textG u = s) : if textG u = s then o = some rolls else o = none := by
  split
  · rename_i h
    exact ho.one (o' := some rolls) ⟨u, by rw [goodR_nat hF1 hF2]; exact hg, h⟩
  · rename_i h
    rcases ht with ht | ht
    · exact ht
    · exact absurd ht h
end Go.Proofs.YtgkkjlpfkoplhaaDoor
