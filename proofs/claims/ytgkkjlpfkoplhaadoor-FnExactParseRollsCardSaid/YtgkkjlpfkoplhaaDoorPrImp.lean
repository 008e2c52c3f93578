/-
  Pins: the program's ParseRolls.
-/
import Derived.Test.YtgkkjlpfkoplhaaDoorPrOut
namespace Go.Proofs.YtgkkjlpfkoplhaaDoor
open Go.RowKit
set_option linter.unusedVariables false
set_option linter.unusedSimpArgs false

theorem sliceP (s : ByteArray) (n : Nat) (h : n + 1 ≤ s.size) (w : World) :
    (Instr.slice 9 (.string s) none (some (.int .i64 ((n : Int) + 1))) none).run Tryd.prog w = .ok (.string (s.extract 0 (n + 1))) w := by
  have := run_slice_string_h (P := Tryd.prog) w 9 s Tryd.underlying9 .i64 ((n : Int) + 1) (by omega) (by omega)
  rw [this, show ((n : Int) + 1).toNat = n + 1 from by omega]
theorem uptoP (s : ByteArray) (k : Nat) : (s.extract 0 k).toList = s.toList.take k := by
  rw [ByteArray.toList_eq, ByteArray.toList_eq, Lib.extract_data]; simp
theorem sizeP (s : ByteArray) : s.toList.length = s.size := by rw [ByteArray.toList_eq]; exact (Lib.size_eq s).symm
def lenV : Value → Nat
  | .slice _ n _ => n
  | _ => 0
/-- What is handed back. -/
def RowQ (L : List Int) (o : Bool) (w : World) (e : Ending) (w' : World) : Prop :=
  ∃ v, e = .returned (.tuple #[v, .bool o]) ∧ w'.ownsRow w.heap.size 3 1 v L.length (ints L) ∧ Below w.heap.size w w'
theorem owns_nilT (w : World) (B : Nat) : w.ownsRow B 3 1 (.slice none 0 0) ([] : List Int).length (ints []) := ⟨rfl, .inl ⟨rfl, rfl⟩⟩
theorem RowQ.no {w w' : World} (hb : Below w.heap.size w w') : RowQ [] false w (.returned (.tuple #[.slice none 0 0, .bool false])) w' := ⟨_, rfl, owns_nilT _ _, hb⟩
theorem owns_kept {B : Nat} {e : TypeId} {k : Nat} {v : Value} {n : Nat} {xs : List Value} {w w' : World} (h : w.ownsRow B e k v n xs) (hb : ∀ g, v.ownBlock = some g → w'.heap[g]? = w.heap[g]?) : w'.ownsRow B e k v n xs := by
  obtain ⟨h1, h2 | ⟨g, cap, cur, rfl, hg, hh, r⟩⟩ := h
  · exact ⟨h1, .inl h2⟩
  · exact ⟨h1, .inr ⟨g, cap, cur, rfl, hg, by rw [hb g rfl]; exact hh, r⟩⟩
theorem owns_in {B : Nat} {e : TypeId} {k : Nat} {v : Value} {n : Nat} {xs : List Value} {w : World} (h : w.ownsRow B e k v n xs) {g : Nat} (hg : v.ownBlock = some g) : B ≤ g ∧ g < w.heap.size := by
  obtain ⟨h1, ⟨rfl, -⟩ | ⟨g', cap, cur, rfl, hg', hh, r⟩⟩ := h
  · simp [Value.ownBlock] at hg
  · simp [Value.ownBlock] at hg
    subst hg
    exact ⟨hg', (Array.getElem?_eq_some_iff.1 hh).1⟩
theorem own_all {w : World} {B T : Nat} {v : Value} {l : List Int} (h : w.ownsRow B T 1 v l.length (ints l)) : ∃ a c, v = .slice a l.length c ∧ l.length ≤ c ∧ Reads w a (ints l) ∧ (∀ x, a = some x → x.spot = none) ∧ (a = none → l = []) := by
  obtain ⟨a, c, rfl, hr, -⟩ := Reads.own h
  obtain ⟨hl, ⟨hv, h2⟩ | ⟨g', cap, cur, hv, hb, hh, hn, r⟩⟩ := h
  · injection hv with h3 h4 h5
    subst h3 h5
    exact ⟨none, 0, rfl, by omega, hr, (fun x e => by cases e), fun _ => List.length_eq_zero_iff.1 (by omega)⟩
  · injection hv with h3 h4 h5
    subst h3 h5
    exact ⟨_, _, rfl, hn, hr, (fun x e => by cases e; rfl), fun e => by cases e⟩

/-- Under way. -/
structure PrA (F : Nat) (s : ByteArray) (w : World) (rolls : List Int) (v : Value) (wr : World) : Prop where
  good : ∃ t, gameG F ([], []) rolls = some t ∧ textG t = s.toList.take rolls.length
  len : rolls.length ≤ s.size
  own : wr.ownsRow w.heap.size 3 1 v rolls.length (ints rolls)
  below : Below w.heap.size w wr

set_option maxHeartbeats 3200000 in
theorem implParseRolls_any (f : Int) (s : ByteArray) (hs : (s.size : Int) ≤ 1048576) (o : Option (List Int)) (ho : PrIs f s.toList o) (w : World) :
    Calls Tryd.prog 7 #[.int .i64 f, .string s] w (RowQ (o.getD []) o.isSome w) := by
  by_cases hf : 1 ≤ f ∧ f ≤ 10
  · obtain ⟨F, rfl⟩ : ∃ F : Nat, f = (F : Int) := ⟨f.toNat, by omega⟩
    have hF1 : 1 ≤ F := by omega
    have hF2 : F ≤ 10 := by omega
    have HO := Lib.hid ho; clear ho
    have H0 : Hid (PrA F s w [] (.slice none 0 0) w) := Lib.hid ⟨⟨([], []), by simp [gameG], by simp [textG, sgF, sgL]⟩, by simp, owns_nilT _ _, Below.refl _ _⟩
    obtain ⟨L, hL⟩ : ∃ L, L = o.getD [] := ⟨_, rfl⟩
    obtain ⟨b, hb⟩ : ∃ b, b = o.isSome := ⟨_, rfl⟩
    rw [← hL, ← hb]
    have HLB := Lib.hid (And.intro hL hb); clear hL hb hf
    have HF := Lib.hid (And.intro hF1 hF2); clear hF1 hF2
    go_enter Tryd.func7, Tryd.ntmps7
    go_wp2_with fail
    go_loopw [6] (fun v wr => ∃ rolls : List Int, Hid (PrA F s w rolls v wr)) (fun v _ => s.size - lenV v)
    case atStart => exact ⟨[], H0⟩
    case round =>
      clear H0
      obtain ⟨rolls, hH⟩ := hrel
      obtain ⟨a, c, rfl, hc, hr, hsp, hnil⟩ := own_all hH.out.own
      obtain ⟨t, hg, ht⟩ := hH.out.good
      have hl30 := (good_len HF.out.1 HF.out.2 hg).1
      by_cases hlt : rolls.length < s.size
      · have b1 : (rolls.length : Int) < (s.size : Int) := by omega
        have hsl := sliceP s rolls.length (by omega)
        have hbw := fun W hr => ballWithText_any (F : Int) rolls (s.extract 0 (rolls.length + 1)) a c (by omega) hc hnil hsp W hr
        have hwb := fun (k : Nat) W hr => withBall_any rolls (k : Int) a c (by omega) hc hnil hsp W hr
        have hno := bw_none HF.out.1 HF.out.2 hg HO.out (by rw [sizeP]; exact hlt) ht (uptoP s (rolls.length + 1))
        have hso := fun k => bw_some (k := k) HF.out.1 HF.out.2 (uptoP s (rolls.length + 1))
        have HK := Lib.hid (And.intro hbw (And.intro hwb (And.intro hno (And.intro hso hr)))); clear hbw hwb hno hso hr hsp hnil hg ht
        generalize hx : s.extract 0 (rolls.length + 1) = x at *
        clear hx
        generalize hn : rolls.length = n at *
        have HN := Lib.hid hn; clear hn
        go_wp2_with fail
        refine (HK.out.1 _ HK.out.2.2.2.2).mono ?_; rintro e w1 ⟨rfl, b2⟩
        have H1 := Lib.hid b2; clear b2
        generalize hq : bwO (F : Int) rolls x = q at *
        have HQ := Lib.hid hq; clear hq
        cases q with
        | none =>
          simp only [bwV]
          have he := HK.out.2.2.1 rfl
          have hL : L = [] := by rw [HLB.out.1, he]; rfl
          have hb : b = false := by rw [HLB.out.2, he]; rfl
          have HE := Lib.hid (And.intro hL hb); clear he hL hb
          have HB := Lib.hid (hH.out.below.trans (H1.out.mono hH.out.below.size))
          go_wp2_with fail
          refine bodyPost_ret (v := .tuple #[.slice none 0 0, .bool false]) (by simp [results, Tryd.results7, go_sem]) rfl (by rw [HE.out.1, HE.out.2]; exact RowQ.no HB.out)
        | some k =>
          simp only [bwV]
          go_wp2_with fail
          refine (HK.out.2.1 k _ (HK.out.2.2.2.2.old H1.out)).mono ?_; rintro e w2 ⟨v2, rfl, o2, b2⟩
          have hz1 := H1.out.size
          have H2 : Hid (PrA F s w (rolls ++ [(k : Int)]) v2 w2) := Lib.hid (by
            refine ⟨?_, ?_, ?_, ?_⟩
            · obtain ⟨t, h1, h2⟩ := HK.out.2.2.2.1 k rfl
              refine ⟨t, h1, ?_⟩
              rw [h2]; simp [HN.out]
            · simp [HN.out]; omega
            · have h1 := hH.out.below.size
              exact owns_base o2 (by omega)
            · exact (hH.out.below.trans (H1.out.mono hH.out.below.size)).trans (b2.mono (by have := hH.out.below.size; omega)))
          obtain ⟨a2, c2, rfl, -⟩ := own_all H2.out.own
          clear o2 b2
          go_wp2_with fail
          go_roundw
          case rel => exact ⟨rolls ++ [(k : Int)], by have h := H2; simp only [List.length_append, List.length_singleton] at h; exact h⟩
          case measure => simp [lenV]; have := HN.out; omega
      · have hle : rolls.length = s.size := by have := hH.out.len; omega
        have he : o = some rolls := by
          refine HO.out.one (o' := some rolls) ⟨t, by rw [goodR_nat HF.out.1 HF.out.2]; exact hg, ?_⟩
          rw [ht, List.take_of_length_le]
          rw [sizeP]; omega
        have hL : L = rolls := by rw [HLB.out.1, he]; rfl
        have hb : b = true := by rw [HLB.out.2, he]; rfl
        have HE := Lib.hid (And.intro hL hb); clear he hL hb ht hg
        have HY := Lib.hid (fun W => isFrameCount_yes F HF.out.1 HF.out.2 W)
        have b1 : ¬ (rolls.length : Int) < (s.size : Int) := by omega
        clear hr hsp hnil hle hlt hl30 hc
        go_wp2_with fail
        refine (HY.out _).mono ?_; rintro e w1 ⟨rfl, rfl⟩
        go_wp2_with fail
        refine bodyPost_ret (v := .tuple #[.slice a rolls.length c, .bool true]) (by simp [results, Tryd.results7, go_sem]) rfl (by rw [HE.out.1, HE.out.2]; exact ⟨_, rfl, hH.out.own, hH.out.below⟩)
  · have he : o = none := ho.one (PrIs.bad hf)
    subst he
    show Calls Tryd.prog 7 #[.int .i64 f, .string s] w (RowQ [] false w)
    clear ho
    have HNO := Lib.hid (fun W => isFrameCount_no f hf W)
    have HBW := Lib.hid (fun W => ballWithText_any f [] (s.extract 0 1) none 0 (by simp) (by simp) (fun _ => rfl) (fun x e => by cases e) W (.inl rfl))
    have HBD := Lib.hid (bw_bad (rolls := []) (x := s.extract 0 1) hf)
    clear hf
    go_enter Tryd.func7, Tryd.ntmps7
    go_wp2_with fail
    go_loopw [6] (fun v wr => v = .slice none 0 0 ∧ wr = w) (fun v _ => s.size - lenV v)
    case atStart => exact ⟨rfl, rfl⟩
    case round =>
      obtain ⟨rfl, rfl⟩ := hrel
      by_cases hlt : 0 < s.size
      · have b1 : (0 : Int) < (s.size : Int) := by omega
        have hsl : ∀ w : World, (Instr.slice 9 (.string s) none (some (.int .i64 1)) none).run Tryd.prog w = .ok (.string (s.extract 0 1)) w := sliceP s 0 (by omega)
        generalize s.extract 0 1 = x at *
        go_wp2_with fail
        refine (HBW.out _).mono ?_; rintro e w1 ⟨rfl, b2⟩
        rw [HBD.out]
        simp only [bwV]
        go_wp2_with fail
        refine bodyPost_ret (v := .tuple #[.slice none 0 0, .bool false]) (by simp [results, Tryd.results7, go_sem]) rfl (RowQ.no b2)
      · have b1 : ¬ (0 : Int) < (s.size : Int) := by omega
        have b2 : (s.size : Int) = 0 := by omega
        go_wp2_with fail
        refine (HNO.out _).mono ?_; rintro e w1 ⟨rfl, rfl⟩
        go_wp2_with fail
        refine bodyPost_ret (v := .tuple #[.slice none 0 0, .bool false]) (by simp [results, Tryd.results7, go_sem]) rfl (RowQ.no (Below.refl _ _))
end Go.Proofs.YtgkkjlpfkoplhaaDoor
