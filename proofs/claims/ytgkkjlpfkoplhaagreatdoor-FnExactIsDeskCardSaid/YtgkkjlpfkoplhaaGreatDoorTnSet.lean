/-
  Tennis: the program plays the points of a set.
-/
import Derived.Test.YtgkkjlpfkoplhaaGreatDoorTnCut
import Derived.Test.YtgkkjlpfkoplhaaGreatDoorTnGames
import Derived.Test.YtgkkjlpfkoplhaaGreatDoorTnStandI
namespace Go.Proofs.YtgkkjlpfkoplhaaGreatDoor
open Go.RowKit
set_option linter.unusedVariables false
set_option linter.unusedSimpArgs false

/-- A block of the call's own that holds a text and two numbers. -/
def Trip (w : World) (g : Nat) (G : List UInt8) (x y : Int) : Prop :=
  w.heap[g]? = some (.cells #[.string ⟨G.toArray⟩, .int .i64 x, .int .i64 y] 53 (0, 0))
theorem Trip.keep {w w' : World} {g : Nat} {G : List UInt8} {x y : Int} (h : Trip w g G x y) (hb : Below w.heap.size w w') : Trip w' g G x y := by
  unfold Trip at *; rw [hb.block _ (Array.getElem?_eq_some_iff.1 h).1]; exact h
theorem Trip.lt {w : World} {g : Nat} {G : List UInt8} {x y : Int} (h : Trip w g G x y) : g < w.heap.size := (Array.getElem?_eq_some_iff.1 h).1
theorem Trip.cells {w : World} {g : Nat} {G : List UInt8} {x y : Int} (h : Trip w g G x y) :
    w.cell? ⟨g, 0, none⟩ = some (.string ⟨G.toArray⟩) ∧ w.cell? ⟨g, 1, none⟩ = some (.int .i64 x) ∧ w.cell? ⟨g, 2, none⟩ = some (.int .i64 y) ∧ w.frozen? ⟨g, 0, none⟩ = false ∧ w.frozen? ⟨g, 1, none⟩ = false ∧ w.frozen? ⟨g, 2, none⟩ = false :=
  ⟨cell_of_row _ _ 0 _ _ _ h, cell_of_row _ _ 1 _ _ _ h, cell_of_row _ _ 2 _ _ _ h, frozen_of_row _ _ 0 _ _ h, frozen_of_row _ _ 1 _ _ h, frozen_of_row _ _ 2 _ _ h⟩

theorem put3 {w : World} {g : Nat} {G : List UInt8} {x y : Int} (h : Trip w g G x y) (a b c : Value) :
    (((w.setCell ⟨g, 0, none⟩ a).setCell ⟨g, 1, none⟩ b).setCell ⟨g, 2, none⟩ c).cell? ⟨g, 0, none⟩ = some a ∧ (((w.setCell ⟨g, 0, none⟩ a).setCell ⟨g, 1, none⟩ b).setCell ⟨g, 2, none⟩ c).cell? ⟨g, 1, none⟩ = some b ∧
    (((w.setCell ⟨g, 0, none⟩ a).setCell ⟨g, 1, none⟩ b).setCell ⟨g, 2, none⟩ c).cell? ⟨g, 2, none⟩ = some c := by
  obtain ⟨c0, c1, c2, -, -, -⟩ := h.cells
  have ne : ∀ (o o' : Nat) (v : Value) (u : World), o ≠ o' → (u.setCell ⟨g, o', none⟩ v).cell? ⟨g, o, none⟩ = u.cell? ⟨g, o, none⟩ := fun o o' v u hne => World.cell?_setCell_other _ _ _ _ (by intro e; injection e; omega)
  refine ⟨?_, ?_, ?_⟩
  · rw [ne 0 2 _ _ (by decide), ne 0 1 _ _ (by decide)]; exact World.cell?_setCell_same _ _ _ c0
  · rw [ne 1 2 _ _ (by decide)]; exact World.cell?_setCell_same _ _ _ (by rw [ne 1 0 _ _ (by decide)]; exact c1)
  · exact World.cell?_setCell_same _ _ _ (by rw [ne 2 1 _ _ (by decide), ne 2 0 _ _ (by decide)]; exact c2)

theorem trip_set0 {w : World} {g : Nat} {G : List UInt8} {x y : Int} (h : Trip w g G x y) (H : List UInt8) : Trip (w.setCell ⟨g, 0, none⟩ (.string ⟨H.toArray⟩)) g H x y := by
  unfold Trip at *
  rw [setCell_eq_setRow w g 0 _ _ _ _ h]
  exact setRow_heap _ _ _ _ _ _ h
theorem trip_other {w : World} {g h o : Nat} {G : List UInt8} {x y : Int} (v : Value) (ht : Trip w g G x y) (hne : g ≠ h) : Trip (w.setCell ⟨h, o, none⟩ v) g G x y := by
  unfold Trip at *; rw [Below.heap_setCell _ _ _ _ hne]; exact ht

def setV : Option (List UInt8 × Int × Int) → Value
  | none => .tuple #[.agg #[.string ⟨#[]⟩, .int .i64 0, .int .i64 0], .bool false]
  | some (G, x, y) => .tuple #[.agg #[.string ⟨G.toArray⟩, .int .i64 x, .int .i64 y], .bool true]

theorem cut_len {to : Int} (ht : 0 < to) {l g b : List UInt8} (h : cutI to l = some (g, b)) : g ++ b = l ∧ (wonN to (cntA g) (cntB g) ≠ 0 → b.length < l.length) := by
  have hg : g ++ b = l := by
    unfold cutI at h
    split at h
    · simp at h
    · split at h
      · simp at h; obtain ⟨rfl, rfl⟩ := h; simp
      · simp at h; obtain ⟨rfl, rfl⟩ := h; simp
      · simp at h
  refine ⟨hg, fun hw => ?_⟩
  rw [← hg, List.length_append]
  cases g with
  | nil => exfalso; apply hw; unfold wonN; rw [cntA_nil, cntB_nil, if_neg (by omega), if_neg (by omega)]
  | cons c r => simp
theorem race_eq (a b : Int) : raceTo a b = race4 a b := rfl
theorem race4_pos (a b : Int) : 0 < race4 a b := by unfold race4; split <;> decide
theorem sideS_won {to a b : Int} (h : wonN to a b ≠ 0) : sideS (wonN to a b) = ⟨#[sideC (wonN to a b)]⟩ := by
  unfold wonN at *
  by_cases h1 : to ≤ a ∧ 2 ≤ a - b
  · rw [if_pos h1]; rfl
  · rw [if_neg h1] at h ⊢
    by_cases h2 : to ≤ b ∧ 2 ≤ b - a
    · rw [if_pos h2]; rfl
    · rw [if_neg h2] at h; exact absurd rfl h
def strSize : Value → Nat
  | .string b => b.size
  | _ => 0
theorem setI_over {f : Nat} {G rest : List UInt8} (h : winN (cntA G) (cntB G) ≠ 0) : setI (f + 1) G rest = if rest = [] then some (G, 0, 0) else none := by rw [setI, if_pos h]
theorem setI_open {f : Nat} {G rest : List UInt8} (h : winN (cntA G) (cntB G) = 0) : setI (f + 1) G rest = match cutI (race4 (cntA G) (cntB G)) rest with
      | none => none
      | some (g, bh) =>
        if wonN (race4 (cntA G) (cntB G)) (cntA g) (cntB g) = 0 then some (G, cntA g, cntB g)
        else setI f (G ++ [sideC (wonN (race4 (cntA G) (cntB G)) (cntA g) (cntB g))]) bh := by
  rw [setI, if_neg (by simp [h])]; rfl

/-- What holds at the head of each round. -/
def SetAt (s : ByteArray) (p0 p1 : Addr) (g : Nat) (w : World) (r : Value) (wr : World) : Prop :=
  ∃ (f : Nat) (G rest : List UInt8), r = .string ⟨rest.toArray⟩ ∧ rest.length ≤ s.size ∧ G.length ≤ 13 ∧ nearB (cntA G) (cntB G) = true ∧ 14 ≤ (f : Int) + cntA G + cntB G ∧ (G.length : Int) = cntA G + cntB G ∧
    setI f G rest = setI 14 [] s.data.toList ∧ Trip wr g [] 0 0 ∧ Trip wr (g + 1) G 0 0 ∧ Laid wr p0 p1 ∧ Below g w wr

set_option maxHeartbeats 3200000 in
theorem playSet_any (s : ByteArray) (p0 p1 : Addr) (w : World) (hs : (s.size : Int) ≤ 1000000000000) (L : Laid w p0 p1) :
    Calls Tryz.prog 26 #[.string s] w fun e w' => e = .returned (setV (setI 14 [] s.data.toList)) ∧ Below w.heap.size w w' := by
  have HL0 := Lib.hid L
  have hb0 : Below w.heap.size w ((w.alloc (.cells #[.string ⟨#[]⟩, .int .i64 0, .int .i64 0] 53)).alloc (.cells #[.string ⟨#[]⟩, .int .i64 0, .int .i64 0] 53)) := ((Below.refl _ _).alloc (Nat.le_refl _) _).alloc (by simp) _
  have L1 := L.keep hb0
  have t0 : Trip ((w.alloc (.cells #[.string ⟨#[]⟩, .int .i64 0, .int .i64 0] 53)).alloc (.cells #[.string ⟨#[]⟩, .int .i64 0, .int .i64 0] 53)) w.heap.size [] 0 0 := heap_alloc2_old w _ _
  have t1 : Trip ((w.alloc (.cells #[.string ⟨#[]⟩, .int .i64 0, .int .i64 0] 53)).alloc (.cells #[.string ⟨#[]⟩, .int .i64 0, .int .i64 0] 53)) (w.heap.size + 1) [] 0 0 := heap_alloc2_new w _ _
  have hst : SetAt s p0 p1 w.heap.size w (.string s) ((w.alloc (.cells #[.string ⟨#[]⟩, .int .i64 0, .int .i64 0] 53)).alloc (.cells #[.string ⟨#[]⟩, .int .i64 0, .int .i64 0] 53)) :=
    ⟨14, [], s.data.toList, by rw [str_list], by simp, by simp, near_00, by decide, rfl, rfl, t0, t1, L1, hb0⟩
  have HST := Lib.hid hst; clear hst hb0 L1 t0 t1 L
  generalize hg : w.heap.size = g at *
  have HG := Lib.hid hg; clear hg
  generalize hR : setI 14 [] s.data.toList = R at *
  go_enter Tryz.func26, Tryz.ntmps26
  go_wp2_with fail
  rw [HG.out]
  go_loopw [5] (fun r wr => Hid (SetAt s p0 p1 g w r wr)) (fun r _ => strSize r)
  case atStart => exact HST.out
  case round =>
    obtain ⟨f, G, rest, rfl, hrl, hGl, hn, hf, hGc, hI, T0, T1, L, hbel⟩ := hrel.out
    clear HST hrel
    have nb := near_bd hn
    obtain ⟨f, rfl⟩ : ∃ f', f = f' + 1 := ⟨f - 1, by omega⟩
    have hcs := fun w => countSides_any ⟨G.toArray⟩ w
    rw [show (⟨G.toArray⟩ : ByteArray).data.toList = G from by simp] at hcs
    have hwg := fun w => winnerOfGames_any (cntA G) (cntB G) w
    have HC := Lib.hid (And.intro hcs hwg); clear hcs hwg
    rw [hR] at hI
    have zg := T0.lt
    have zg1 := T1.lt
    obtain ⟨d0, -, -, -, -, -⟩ := T1.cells
    have HT := Lib.hid (And.intro T0 (And.intro T1 (And.intro L hbel))); clear T0 T1 L hbel
    by_cases hw : winN (cntA G) (cntB G) = 0
    · rw [setI_open hw] at hI
      have hsd : sideS (winN (cntA G) (cntB G)) = ⟨#[]⟩ := by rw [hw]; rfl
      have ho := (near_win hn).1 hw
      have ng := near_game hn ho
      have hrb := fun w => raceBehind_any (cntA G) (cntB G) w
      have hpos := race4_pos (cntA G) (cntB G)
      have hcl := fun g b => @cut_len _ hpos rest g b
      have hcp := fun w L => cutPlay_any (race4 (cntA G) (cntB G)) ⟨rest.toArray⟩ p0 p1 w (by simp [ByteArray.size]; omega) L
      rw [show (⟨rest.toArray⟩ : ByteArray).data.toList = rest from by simp] at hcp
      generalize race4 (cntA G) (cntB G) = to at *
      have HI := Lib.hid (And.intro hI (And.intro hsd ng)); clear hI hsd ng ho hw
      have HC2 := Lib.hid (And.intro hrb hcp); clear hrb hcp
      cases hcut : cutI to rest with
      | none =>
        have hr : R = none := by rw [← HI.out.1, hcut]
        have HR := Lib.hid (And.intro hr hcut); clear hr hcut hcl
        go_wp2_with fail
        refine (HC.out.1 _).mono ?_; rintro e w1 ⟨rfl, b1⟩
        go_wp2_with fail
        refine (HC.out.2 _).mono ?_; rintro e w2 ⟨rfl, b2⟩
        rw [HI.out.2.1]
        have b12 := b1.trans (b2.mono b1.size)
        obtain ⟨d1, -, -, -, -, -⟩ := (HT.out.2.1.keep b12).cells
        have HB2 := Lib.hid b12; clear b1 b2 b12 d0
        go_wp2_with fail
        refine (HC.out.1 _).mono ?_; rintro e w3 ⟨rfl, b3⟩
        have HB3 := Lib.hid (HB2.out.trans (b3.mono HB2.out.size)); clear b3 HB2
        go_wp2_with fail
        refine (HC2.out.1 _).mono ?_; rintro e w4 ⟨rfl, b4⟩
        have HB4 := Lib.hid (HB3.out.trans (b4.mono HB3.out.size)); clear b4 HB3 d1
        go_wp2_with fail
        refine (HC2.out.2 _ ((HT.out.2.2.1.keep HB4.out).keep ((Below.refl _ _).alloc (Nat.le_refl _) _))).mono ?_; rintro e w5 ⟨rfl, b5⟩
        rw [HR.out.2]
        have b45 := HB4.out.trans (((Below.refl w4.heap.size w4).alloc (Nat.le_refl _) (.cells #[.int .i64 to, .int .i64 2] 78)).trans (b5.mono (by simp)) |>.mono HB4.out.size)
        have T0 := HT.out.1.keep b45
        have hB := HT.out.2.2.2.trans (b45.mono (by omega))
        obtain ⟨c0, c1, c2, f0, f1, f2⟩ := T0.cells
        have HB := Lib.hid (And.intro hB T0); clear hB T0 b5 b45
        unfold cutV
        go_wp2_with fail
        obtain ⟨q0, q1, q2⟩ := put3 HB.out.2 (.string ⟨#[]⟩) (.int .i64 0) (.int .i64 0)
        refine bodyPost_ret (v := .tuple #[.agg #[.string ⟨#[]⟩, .int .i64 0, .int .i64 0], .bool false]) (by simp [results, Tryz.results26, go_sem, q0, q1, q2]) rfl ⟨by rw [HR.out.1]; rfl, ?_⟩
        exact ((HB.out.1.setCell (Nat.le_refl _) _).setCell (Nat.le_refl _) _).setCell (Nat.le_refl _) _
      | some x =>
        obtain ⟨gm, bh⟩ := x
        obtain ⟨happ, hless⟩ := hcl gm bh hcut
        have hgl : gm.length ≤ rest.length := by rw [← happ]; simp
        have hA := cntA_bd gm
        have hB := cntB_bd gm
        have hcg := fun w => countSides_any ⟨gm.toArray⟩ w
        rw [show (⟨gm.toArray⟩ : ByteArray).data.toList = gm from by simp] at hcg
        have hwr := fun w => winnerOfRace_any to (cntA gm) (cntB gm) w hA.1 (by omega) hB.1 (by omega)
        have HG2 := Lib.hid (And.intro hcg hwr); clear hcg hwr hA hB
        have hr : (if wonN to (cntA gm) (cntB gm) = 0 then some (G, cntA gm, cntB gm) else setI f (G ++ [sideC (wonN to (cntA gm) (cntB gm))]) bh) = R := by rw [← HI.out.1, hcut]
        have HR := Lib.hid (And.intro hr (And.intro hcut hless)); clear hr hcut hcl hless
        go_wp2_with fail
        refine (HC.out.1 _).mono ?_; rintro e w1 ⟨rfl, b1⟩
        go_wp2_with fail
        refine (HC.out.2 _).mono ?_; rintro e w2 ⟨rfl, b2⟩
        rw [HI.out.2.1]
        have b12 := b1.trans (b2.mono b1.size)
        obtain ⟨d1, -, -, -, -, -⟩ := (HT.out.2.1.keep b12).cells
        have HB2 := Lib.hid b12; clear b1 b2 b12 d0
        go_wp2_with fail
        refine (HC.out.1 _).mono ?_; rintro e w3 ⟨rfl, b3⟩
        have HB3 := Lib.hid (HB2.out.trans (b3.mono HB2.out.size)); clear b3 HB2
        go_wp2_with fail
        refine (HC2.out.1 _).mono ?_; rintro e w4 ⟨rfl, b4⟩
        have HB4 := Lib.hid (HB3.out.trans (b4.mono HB3.out.size)); clear b4 HB3 d1
        go_wp2_with fail
        refine (HC2.out.2 _ ((HT.out.2.2.1.keep HB4.out).keep ((Below.refl _ _).alloc (Nat.le_refl _) _))).mono ?_; rintro e w5 ⟨rfl, b5⟩
        rw [HR.out.2.1]
        have b45 := HB4.out.trans (((Below.refl w4.heap.size w4).alloc (Nat.le_refl _) (.cells #[.int .i64 to, .int .i64 2] 78)).trans (b5.mono (by simp)) |>.mono HB4.out.size)
        have pr := (Pair.new w4 to 2 78).keep b5
        obtain ⟨s2, s0, s1, -, -⟩ := pr
        generalize w4.heap.size = gr at *
        have HB5 := Lib.hid b45; clear b45 b5 HB4
        have sb := Below.refl w5.heap.size w5
        unfold cutV
        go_wp2_with fail
        go_region_held3 (fun w' => w'.cell? ⟨gr, 0, none⟩ = some (.int .i64 to) ∧ w'.cell? ⟨gr, 1, none⟩ = some (.int .i64 2) ∧ gr < w'.heap.size ∧ w5.heap.size ≤ w'.heap.size ∧ Below w5.heap.size w5 w')
          (first | (go_keep; done) | (exact ⟨by simpa using s0, by simpa using s1, by simpa using s2, by simp, Below.drew sb⟩) | (go_split_ands; exact pairS_keep (by assumption) ⟨by assumption, by assumption, by assumption, by assumption, by assumption⟩))
          (first | (go_at_call 39; refine (HG2.out.1 _).mono ?_; rintro e w' ⟨rfl, bd⟩) | (go_at_call 42; refine (HG2.out.2 _).mono ?_; rintro e w' ⟨rfl, bd⟩))
        rename_i w6 _ hs6
        obtain ⟨-, -, -, -, b6⟩ := hs6
        have HB6 := Lib.hid (HB5.out.trans (b6.mono HB5.out.size)); clear b6 HB5 s0 s1 s2 sb
        have T0 := HT.out.1.keep HB6.out
        have T1 := HT.out.2.1.keep HB6.out
        have L6 := HT.out.2.2.1.keep HB6.out
        have hB6 := HT.out.2.2.2.trans (HB6.out.mono (by omega))
        by_cases hn0 : wonN to (cntA gm) (cntB gm) = 0
        · have hr : R = some (G, cntA gm, cntB gm) := by rw [← HR.out.1, if_pos hn0]
          rw [show sideS (wonN to (cntA gm) (cntB gm)) = ⟨#[]⟩ from by rw [hn0]; rfl]
          have HR2 := Lib.hid hr; clear hr hn0
          have H6 := Lib.hid (And.intro T0 (And.intro T1 hB6)); clear T0 T1 L6 hB6
          go_wp2_with fail
          refine (HG2.out.1 _).mono ?_; rintro e w7 ⟨rfl, b7⟩
          have T0 := H6.out.1.keep b7
          have T1 := H6.out.2.1.keep b7
          have hB7 := H6.out.2.2.trans (b7.mono (Nat.le_of_lt H6.out.1.lt))
          obtain ⟨d0, d1, d2, e0, e1, e2⟩ := T1.cells
          obtain ⟨c0, c1, c2, f0, f1, f2⟩ := T0.cells
          have H7 := Lib.hid (And.intro T0 hB7); clear T0 T1 hB7 b7
          go_wp2_with fail
          obtain ⟨q0, q1, q2⟩ := put3 (trip_other (h := g + 1) (o := 2) (.int .i64 (cntB gm)) (trip_other (h := g + 1) (o := 1) (.int .i64 (cntA gm)) H7.out.1 (by omega)) (by omega)) (.string ⟨G.toArray⟩) (.int .i64 (cntA gm)) (.int .i64 (cntB gm))
          refine bodyPost_ret (v := .tuple #[.agg #[.string ⟨G.toArray⟩, .int .i64 (cntA gm), .int .i64 (cntB gm)], .bool true]) (by simp [results, Tryz.results26, go_sem, q0, q1, q2]) rfl ⟨by rw [HR2.out]; rfl, ?_⟩
          exact Below.setCell (Below.setCell (Below.setCell (Below.setCell (Below.setCell H7.out.2 (Nat.le_succ g) _) (Nat.le_succ g) _) (Nat.le_refl _) _) (Nat.le_refl _) _) (Nat.le_refl _) _
        · have hsw := sideS_won hn0
          rw [hsw]
          have hr : setI f (G ++ [sideC (wonN to (cntA gm) (cntB gm))]) bh = R := by rw [← HR.out.1, if_neg hn0]
          have hlb := HR.out.2.2 hn0
          have ng := HI.out.2.2 (wonN to (cntA gm) (cntB gm))
          generalize sideC (wonN to (cntA gm) (cntB gm)) = c at *
          have HN := Lib.hid (And.intro hr (And.intro ng.1 ng.2)); clear hr ng hsw hn0
          have hadd : ∀ W : World, (Op.stringOp .add ⟨G.toArray⟩ ⟨#[c]⟩).run Tryz.prog W = .ok (.string ⟨(G ++ [c]).toArray⟩) W := fun W =>
            run_string_add_lists W G [c] (by omega) (by simp)
          obtain ⟨d0, -, -, e0, -, -⟩ := T1.cells
          have H6 := Lib.hid (And.intro T0 (And.intro T1 hB6)); clear T0 T1 L6 hB6
          go_wp2_with fail
          clear hadd
          go_roundw
          case rel =>
            have hB7 := H6.out.2.2.setCell (p := ⟨g + 1, 0, none⟩) (Nat.le_succ g) (.string ⟨(G ++ [c]).toArray⟩)
            have hG14 := HN.out.2.2
            have nb2 := near_bd HN.out.2.1
            exact ⟨f, G ++ [c], bh, rfl, by omega, by simp; omega, HN.out.2.1, by omega, by simp; omega, by rw [HN.out.1, hR], trip_other _ H6.out.1 (by omega), trip_set0 H6.out.2.1 _, HL0.out.keep (by rw [HG.out]; exact hB7), hB7⟩
          case measure => simp [strSize, ByteArray.size]; omega
    · have hsd : ∃ x, sideS (winN (cntA G) (cntB G)) = ⟨#[x]⟩ := by
        unfold winN at hw ⊢
        split
        · exact ⟨97, rfl⟩
        · rename_i h1; rw [if_neg h1] at hw
          split
          · exact ⟨98, rfl⟩
          · rename_i h2; rw [if_neg h2] at hw; exact absurd rfl hw
      obtain ⟨x, hsd⟩ := hsd
      rw [setI_over hw] at hI
      have HI := Lib.hid (And.intro hI hsd); clear hI hsd hw
      cases rest with
      | nil =>
        have hr : R = some (G, 0, 0) := by rw [← HI.out.1, if_pos rfl]
        have HR := Lib.hid hr; clear hr
        go_wp2_with fail
        refine (HC.out.1 _).mono ?_; rintro e w1 ⟨rfl, b1⟩
        go_wp2_with fail
        refine (HC.out.2 _).mono ?_; rintro e w2 ⟨rfl, b2⟩
        rw [HI.out.2]
        have T0 := (HT.out.1.keep b1).keep b2
        have T1 := (HT.out.2.1.keep b1).keep b2
        have hB := (HT.out.2.2.2.trans (b1.mono (by omega))).trans (b2.mono (by have := b1.size; omega))
        obtain ⟨d0', d1, d2, -, -, -⟩ := T1.cells
        obtain ⟨c0, c1, c2, f0, f1, f2⟩ := T0.cells
        have HB := Lib.hid (And.intro hB T0); clear hB T0 T1 b1 b2 d0
        go_wp2_with fail
        obtain ⟨q0, q1, q2⟩ := put3 HB.out.2 (.string ⟨G.toArray⟩) (.int .i64 0) (.int .i64 0)
        refine bodyPost_ret (v := .tuple #[.agg #[.string ⟨G.toArray⟩, .int .i64 0, .int .i64 0], .bool true]) (by simp [results, Tryz.results26, go_sem, q0, q1, q2]) rfl ⟨by rw [HR.out]; rfl, ?_⟩
        exact ((HB.out.1.setCell (Nat.le_refl _) _).setCell (Nat.le_refl _) _).setCell (Nat.le_refl _) _
      | cons c r =>
        have hr : R = none := by rw [← HI.out.1, if_neg (by simp)]
        have HR := Lib.hid hr; clear hr
        go_wp2_with fail
        refine (HC.out.1 _).mono ?_; rintro e w1 ⟨rfl, b1⟩
        go_wp2_with fail
        refine (HC.out.2 _).mono ?_; rintro e w2 ⟨rfl, b2⟩
        rw [HI.out.2]
        have T0 := (HT.out.1.keep b1).keep b2
        have hB := (HT.out.2.2.2.trans (b1.mono (by omega))).trans (b2.mono (by have := b1.size; omega))
        obtain ⟨c0, c1, c2, f0, f1, f2⟩ := T0.cells
        have HB := Lib.hid (And.intro hB T0); clear hB T0 b1 b2 d0
        go_wp2_with fail
        obtain ⟨q0, q1, q2⟩ := put3 HB.out.2 (.string ⟨#[]⟩) (.int .i64 0) (.int .i64 0)
        refine bodyPost_ret (v := .tuple #[.agg #[.string ⟨#[]⟩, .int .i64 0, .int .i64 0], .bool false]) (by simp [results, Tryz.results26, go_sem, q0, q1, q2]) rfl ⟨by rw [HR.out]; rfl, ?_⟩
        exact ((HB.out.1.setCell (Nat.le_refl _) _).setCell (Nat.le_refl _) _).setCell (Nat.le_refl _) _

end Go.Proofs.YtgkkjlpfkoplhaaGreatDoor
