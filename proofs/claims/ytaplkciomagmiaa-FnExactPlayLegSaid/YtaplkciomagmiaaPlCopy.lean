/-
  Legs: lists of lists of darts: copied, compared, marked.
-/
import Derived.Test.YtaplkciomagmiaaPlDefs
namespace Go.Proofs.Ytaplkciomagmiaa
open Go.RowKit Go.Deep
set_option linter.unusedVariables false
set_option linter.unusedSimpArgs false

theorem infoDSl : (Try.prog.info? 33).map (fun i => (i.zero, i.size, i.bytes)) = some (some (.slice none 0 0), 1, 24) := by kernel_rfl
def hds (f : Nat → Nat) (DD : DL) (k : Nat) : List Value := (List.range k).map fun j => .slice (some ⟨f j, 0, none⟩) (DD.getD j []).length (DD.getD j []).length
theorem hds_len (f : Nat → Nat) (DD : DL) (k : Nat) : (hds f DD k).length = k := by simp [hds]
theorem hds_get (f : Nat → Nat) (DD : DL) (k : Nat) {j : Nat} (h : j < k) : (hds f DD k)[j]? = some (.slice (some ⟨f j, 0, none⟩) (DD.getD j []).length (DD.getD j []).length) := by simp [hds, h]
def ext (f : Nat → Nat) (k b : Nat) : Nat → Nat := fun j => if j = k then b else f j
theorem hds_ext (f : Nat → Nat) (DD : DL) (k b : Nat) : hds (ext f k b) DD (k + 1) = hds f DD k ++ [.slice (some ⟨b, 0, none⟩) (DD.getD k []).length (DD.getD k []).length] := by
  unfold hds
  rw [List.range_succ, List.map_append]
  have e : (List.range k).map (fun j => Value.slice (some ⟨ext f k b j, 0, none⟩) (DD.getD j []).length (DD.getD j []).length) = (List.range k).map fun j => Value.slice (some ⟨f j, 0, none⟩) (DD.getD j []).length (DD.getD j []).length := by
    apply List.map_congr_left
    intro j hj
    have : j ≠ k := by have := List.mem_range.1 hj; omega
    simp [ext, this]
  rw [e]; simp [ext]
/-- k rows copied, each one in a block of its own; their heads in the block g. -/
def Cop (w : World) (B g : Nat) (f : Nat → Nat) (DD : DL) (k : Nat) : Prop :=
  B ≤ g ∧ Filled w g DD.length (hds f DD k) ∧ (∀ j, j < k → Filled w (f j) ((DD.getD j []).length * 2) (darts (DD.getD j [])) ∧ g < f j) ∧ ∀ i j, i < j → j < k → f i < f j
theorem Cop.keep {w w' : World} {B g : Nat} {f : Nat → Nat} {DD : DL} {k : Nat} (h : Cop w B g f DD k) (hb : Below w.heap.size w w') : Cop w' B g f DD k :=
  ⟨h.1, h.2.1.keep hb, fun j hj => ⟨(h.2.2.1 j hj).1.keep hb, (h.2.2.1 j hj).2⟩, h.2.2.2⟩
theorem Filled.otherD {w : World} {g h o tot : Nat} {cs : List Value} (hf : Filled w g tot cs) (hne : g ≠ h) (v : Value) : Filled (w.setCell ⟨h, o, none⟩ v) g tot cs := by
  obtain ⟨h1, h2, h3⟩ := hf
  have ec : ∀ j, (w.setCell ⟨h, o, none⟩ v).cell? ⟨g, j, none⟩ = w.cell? ⟨g, j, none⟩ := fun j => World.cell?_setCell_other _ _ _ _ (by intro e; injection e; omega)
  exact ⟨by simpa [World.setCell] using h1, fun j hj => ⟨by rw [ec]; exact (h2 j hj).1, by rw [World.frozen?_setCell]; exact (h2 j hj).2⟩, fun j hj => by rw [ec]; exact h3 j hj⟩
theorem Cop.more {w w2 : World} {B g : Nat} {f : Nat → Nat} {DD : DL} {k b : Nat} (h : Cop w B g f DD k) (hk : k < DD.length) (hb : Below w.heap.size w w2) (hge : w.heap.size ≤ b) (hf : Filled w2 b ((DD.getD k []).length * 2) (darts (DD.getD k []))) :
    Cop (w2.setCell ⟨g, k, none⟩ (.slice (some ⟨b, 0, none⟩) (DD.getD k []).length (DD.getD k []).length)) B g (ext f k b) DD (k + 1) := by
  have hg := h.2.1.1
  refine ⟨h.1, ?_, fun j hj => ?_, fun i j hij hj => ?_⟩
  · have := (h.2.1.keep hb).put (.slice (some ⟨b, 0, none⟩) (DD.getD k []).length (DD.getD k []).length) (by rw [hds_len]; exact hk)
    rw [hds_len] at this
    rw [hds_ext]; exact this
  · by_cases e : j = k
    · subst e
      have : ext f j b j = b := by simp [ext]
      rw [this]
      exact ⟨hf.otherD (by omega) _, by omega⟩
    · have : ext f k b j = f j := by simp [ext, e]
      rw [this]
      have hj2 : j < k := by omega
      exact ⟨((h.2.2.1 j hj2).1.keep hb).otherD (by have := (h.2.2.1 j hj2).2; omega) _, (h.2.2.1 j hj2).2⟩
  · have hi : ext f k b i = f i := by simp [ext]; omega
    rw [hi]
    by_cases e : j = k
    · subst e
      have : ext f j b j = b := by simp [ext]
      rw [this]
      have := (h.2.2.1 i hij).1.1
      omega
    · have : ext f k b j = f j := by simp [ext, e]
      rw [this]; exact h.2.2.2 i j hij (by omega)
theorem Cop.ssr {w : World} {B g : Nat} {f : Nat → Nat} {DD : DL} (h : Cop w B g f DD DD.length) : SSR w (some ⟨g, 0, none⟩) DD :=
  ⟨hds f DD DD.length, h.2.1.reads, hds_len _ _ _, fun j hj => ⟨some ⟨f j, 0, none⟩, (DD.getD j []).length, hds_get _ _ _ hj, (h.2.2.1 j hj).1.reads⟩⟩

set_option maxHeartbeats 1600000 in
theorem toDartSS_any (DD : DL) (a : Option Addr) (c : Nat) (w : World) (hl : (DD.length : Int) ≤ 1048576) (hs : ∀ l ∈ DD, (l.length : Int) ≤ 1048576) (h : SSR w a DD) :
    Calls Try.prog 39 #[.slice a DD.length c] w fun e w' => ∃ g f, e = .returned (.slice (some ⟨g, 0, none⟩) DD.length DD.length) ∧ Cop w' w.heap.size g f DD DD.length ∧ Below w.heap.size w w' := by
  obtain ⟨i0, hi, hz0, hz1, hz2⟩ := info_parts infoDSl
  go_enter Try.func39, Try.ntmps39
  go_wp2_with (at_make; refine wpList_make_full _ rfl _ _ _ rfl w.heap.size _ i0 _ 1 Try.underlying42 hi hz0 hz1 .i64 .i64 _ _ DD.length rfl rfl rfl rfl ?_ ?_ (Nat.le_refl _) ?_)
  · rw [hz2]; omega
  · unfold maxLen; omega
  intro w1 hown hgrow
  have hfill := Filled.made hown
  rw [Nat.mul_one] at hfill
  have hbel : Below w.heap.size w w1 := (Below.refl _ _).grown hgrow (Nat.le_refl _) (fun k hk => by cases hk)
  clear hown hgrow hi hz0 hz1 hz2
  have HR := Lib.hid (And.intro h hs); clear h hs
  have H1 : Hid (Cop w1 w.heap.size w.heap.size (fun _ => 0) DD 0 ∧ Below w.heap.size w w1) := Lib.hid ⟨⟨Nat.le_refl _, hfill, fun j hj => absurd hj (Nat.not_lt_zero _), fun i j _ hj => absurd hj (Nat.not_lt_zero _)⟩, hbel⟩
  clear hfill hbel
  go_wp2_with fail
  obtain ⟨g, hg⟩ : ∃ g, g = w.heap.size := ⟨_, rfl⟩
  rw [← hg] at H1 ⊢
  have HG := Lib.hid hg; clear hg
  go_loopw [4] (fun i wr => ∃ (k : Nat) (f : Nat → Nat), i = .int .i64 k ∧ k ≤ DD.length ∧ Hid (Cop wr g g f DD k ∧ Below g w wr)) (fun i _ => DD.length - (intOf i).toNat)
  case atStart => exact ⟨0, _, rfl, Nat.zero_le _, H1⟩
  case round =>
    clear H1
    obtain ⟨k, f, rfl, hk, hC⟩ := hrel
    by_cases hlt : k < DD.length
    · obtain ⟨b, off, aj, cj, ha, hlb, c0, hrj⟩ := (HR.out.1.old (show Below w.heap.size w wr by rw [← HG.out]; exact hC.out.2)).cell hlt
      subst ha
      have hb : (k : Int) < (DD.length : Int) := by omega
      have hmem : DD.getD k [] ∈ DD := by simp [hlt]
      have hz := HR.out.2 _ hmem
      have HC := Lib.hid (toDartS_any (DD.getD k []) aj cj wr hz hrj)
      have HM := Lib.hid (fun (w2 : World) (b : Nat) => hC.out.1.more (w2 := w2) (b := b) hlt)
      clear hmem hrj
      generalize (DD.getD k []).length = n at *
      go_wp2_with fail
      refine HC.out.mono ?_; rintro e w2 ⟨b2, rfl, hge, hf2, bd⟩
      have HN := Lib.hid (And.intro (HM.out w2 b2 bd hge hf2) ((hC.out.2.trans (bd.mono (by have := hC.out.2.size; rw [HG.out]; exact this))).setCell (p := ⟨g, k, none⟩) (Nat.le_refl _) (.slice (some ⟨b2, 0, none⟩) n n)))
      have hfk := hC.out.1.2.1.keep bd
      obtain ⟨v0, hv0⟩ := Option.isSome_iff_exists.1 (hfk.2.1 k hlt).1
      have f0 := (hfk.2.1 k hlt).2
      clear hfk hge hf2 bd hC HM HC c0
      go_wp2_with fail
      go_roundw
      case rel => exact ⟨k + 1, _, by go_num, by omega, HN⟩
      case measure => simp [intOf]; omega
    · obtain rfl : k = DD.length := by omega
      go_wp2_with fail
      go_ret
      exact ⟨g, f, rfl, by rw [← HG.out]; exact hC.out.1, by rw [← HG.out]; exact hC.out.2⟩
end Go.Proofs.Ytaplkciomagmiaa
