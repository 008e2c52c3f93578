/- What the exact law of IsDesk does, step by step. -/
import Derived.Test.YtgkkjlpfkoplhaaGreatDoorIkDesk
import Derived.Deep.RegionHeld3
namespace Go.Proofs.YtgkkjlpfkoplhaaGreatDoor.ExIsDesk
open Go.RowKit
set_option linter.unusedVariables false
set_option linter.unusedSimpArgs false

/-- The law's own desk, in its block, and what else stays. -/
def LD (w : World) (l : Int) (V : Array UInt8) (f : Int) (L : List Int) (t wn : Int) (rs : List Lg.Rs) (a : Option Addr) (c : Nat) (b : Option Addr) (d : Nat) (p0 p1 : Addr) (wi : World) : Prop :=
  Lg.ObAt wi w.heap.size 27 #[.int .i64 l, .string ⟨V⟩, .int .i64 f, .slice a L.length c, .int .i64 t, .int .i64 wn, .slice b rs.length d] ∧ Reads wi a (ints L) ∧ Reads wi b (Lg.ress rs) ∧ Below w.heap.size w wi ∧ Laid wi p0 p1
theorem LD.keep {w : World} {l : Int} {V : Array UInt8} {f : Int} {L : List Int} {t wn : Int} {rs : List Lg.Rs} {a : Option Addr} {c : Nat} {b : Option Addr} {d : Nat} {p0 p1 : Addr} {wi wj : World} (h : LD w l V f L t wn rs a c b d p0 p1 wi) (hb : Below wi.heap.size wi wj) : LD w l V f L t wn rs a c b d p0 p1 wj :=
  ⟨h.1.keep hb, h.2.1.old hb, h.2.2.1.old hb, h.2.2.2.1.trans (hb.mono h.2.2.2.1.size), h.2.2.2.2.keep hb⟩
/-- .. and the copy that was handed to the program. -/
def CD (w : World) (l : Int) (V : Array UInt8) (f : Int) (L : List Int) (t wn : Int) (rs : List Lg.Rs) (a : Option Addr) (c : Nat) (b : Option Addr) (d : Nat) (p0 p1 : Addr) (g5 g3 g4 : Nat) (wi : World) : Prop :=
  LD w l V f L t wn rs a c b d p0 p1 wi ∧ Lg.ObAt wi g5 34 #[.int .i64 l, .string ⟨V⟩, .int .i64 f, .slice (some ⟨g3, 0, none⟩) L.length L.length, .int .i64 t, .int .i64 wn, .slice (some ⟨g4, 0, none⟩) rs.length rs.length] ∧ Reads wi (some ⟨g3, 0, none⟩) (ints L) ∧ Reads wi (some ⟨g4, 0, none⟩) (Lg.ress rs)
theorem CD.keep {w : World} {l : Int} {V : Array UInt8} {f : Int} {L : List Int} {t wn : Int} {rs : List Lg.Rs} {a : Option Addr} {c : Nat} {b : Option Addr} {d : Nat} {p0 p1 : Addr} {g5 g3 g4 : Nat} {wi wj : World} (h : CD w l V f L t wn rs a c b d p0 p1 g5 g3 g4 wi) (hb : Below wi.heap.size wi wj) : CD w l V f L t wn rs a c b d p0 p1 g5 g3 g4 wj :=
  ⟨h.1.keep hb, h.2.1.keep hb, h.2.2.1.old hb, h.2.2.2.old hb⟩
theorem CD.drew {w : World} {l : Int} {V : Array UInt8} {f : Int} {L : List Int} {t wn : Int} {rs : List Lg.Rs} {a : Option Addr} {c : Nat} {b : Option Addr} {d : Nat} {p0 p1 : Addr} {g5 g3 g4 : Nat} {wi : World} (h : CD w l V f L t wn rs a c b d p0 p1 g5 g3 g4 wi) : CD w l V f L t wn rs a c b d p0 p1 g5 g3 g4 wi.drew := h.keep (Below.drew (Below.refl _ _))
def FullD (w : World) (l : Int) (V : Array UInt8) (f : Int) (L : List Int) (t wn : Int) (rs : List Lg.Rs) (a : Option Addr) (c : Nat) (b : Option Addr) (d : Nat) (p0 p1 : Addr) (g5 g3 g4 : Nat) (w' : World) : Prop :=
  w'.cell? ⟨w.heap.size, 0, none⟩ = some (.int .i64 l) ∧ w'.cell? ⟨w.heap.size, 1, none⟩ = some (.string ⟨V⟩) ∧ w'.cell? ⟨w.heap.size, 2, none⟩ = some (.int .i64 f) ∧ w'.cell? ⟨w.heap.size, 3, none⟩ = some (.slice a L.length c) ∧ w'.cell? ⟨w.heap.size, 4, none⟩ = some (.int .i64 t) ∧ w'.cell? ⟨w.heap.size, 5, none⟩ = some (.int .i64 wn) ∧ w'.cell? ⟨w.heap.size, 6, none⟩ = some (.slice b rs.length d) ∧ w'.cell? ⟨g5, 0, none⟩ = some (.int .i64 l) ∧ w'.cell? ⟨g5, 1, none⟩ = some (.string ⟨V⟩) ∧ w'.cell? ⟨g5, 2, none⟩ = some (.int .i64 f) ∧ w'.cell? ⟨g5, 3, none⟩ = some (.slice (some ⟨g3, 0, none⟩) L.length L.length) ∧ w'.cell? ⟨g5, 4, none⟩ = some (.int .i64 t) ∧ w'.cell? ⟨g5, 5, none⟩ = some (.int .i64 wn) ∧ w'.cell? ⟨g5, 6, none⟩ = some (.slice (some ⟨g4, 0, none⟩) rs.length rs.length) ∧ CD w l V f L t wn rs a c b d p0 p1 g5 g3 g4 w'
theorem CD.full {w : World} {l : Int} {V : Array UInt8} {f : Int} {L : List Int} {t wn : Int} {rs : List Lg.Rs} {a : Option Addr} {c : Nat} {b : Option Addr} {d : Nat} {p0 p1 : Addr} {g5 g3 g4 : Nat} {w' : World} (h : CD w l V f L t wn rs a c b d p0 p1 g5 g3 g4 w') :
    w'.cell? ⟨w.heap.size, 0, none⟩ = some (.int .i64 l) ∧ w'.cell? ⟨w.heap.size, 1, none⟩ = some (.string ⟨V⟩) ∧ w'.cell? ⟨w.heap.size, 2, none⟩ = some (.int .i64 f) ∧ w'.cell? ⟨w.heap.size, 3, none⟩ = some (.slice a L.length c) ∧ w'.cell? ⟨w.heap.size, 4, none⟩ = some (.int .i64 t) ∧ w'.cell? ⟨w.heap.size, 5, none⟩ = some (.int .i64 wn) ∧ w'.cell? ⟨w.heap.size, 6, none⟩ = some (.slice b rs.length d) ∧ w'.cell? ⟨g5, 0, none⟩ = some (.int .i64 l) ∧ w'.cell? ⟨g5, 1, none⟩ = some (.string ⟨V⟩) ∧ w'.cell? ⟨g5, 2, none⟩ = some (.int .i64 f) ∧ w'.cell? ⟨g5, 3, none⟩ = some (.slice (some ⟨g3, 0, none⟩) L.length L.length) ∧ w'.cell? ⟨g5, 4, none⟩ = some (.int .i64 t) ∧ w'.cell? ⟨g5, 5, none⟩ = some (.int .i64 wn) ∧ w'.cell? ⟨g5, 6, none⟩ = some (.slice (some ⟨g4, 0, none⟩) rs.length rs.length) ∧ CD w l V f L t wn rs a c b d p0 p1 g5 g3 g4 w' := by
  obtain ⟨a0, a1, a2, a3, a4, a5, a6⟩ := cell7 h.1.1
  obtain ⟨b0, b1, b2, b3, b4, b5, b6⟩ := cell7 h.2.1
  exact ⟨a0, a1, a2, a3, a4, a5, a6, b0, b1, b2, b3, b4, b5, b6, h⟩

set_option maxHeartbeats 1600000 in
theorem law_long (l : Int) (s : ByteArray) (f : Int) (a : Option Addr) (n c : Nat) (t wn : Int) (b : Option Addr) (m d : Nat) (w : World) (hs : (s.size : Int) ≤ 9223372036854775807) (hn : (n : Int) ≤ 9223372036854775807) (hm : (m : Int) ≤ 9223372036854775807) (hz : szD s n m < 0) :
    Calls Tryz.prog 3 #[.agg #[.int .i64 l, .string s, .int .i64 f, .slice a n c, .int .i64 t, .int .i64 wn, .slice b m d]] w fun e w' => e = .returned (.bool true) ∧ Below w.heap.size w w' := by
  have HB := Lib.hid (Lg.Below.ofNew (w := w) (.cells #[.int .i64 l, .string s, .int .i64 f, .slice a n c, .int .i64 t, .int .i64 wn, .slice b m d] 27))
  have HZ := Lib.hid (fun W => szDesk_any l s f a n c t wn b m d W hs hn hm)
  generalize szD s n m = z at *
  go_enter Tryz.func3, Tryz.ntmps3
  go_wp2_with fail
  refine (HZ.out _).mono ?_; rintro e w1 ⟨rfl, b1⟩
  have H1 := Lib.hid (HB.out.trans (b1.mono HB.out.size)); clear b1
  go_wp2_with fail
  go_ret
  exact ⟨rfl, H1.out⟩

set_option maxHeartbeats 6400000 in
set_option maxRecDepth 100000 in
theorem law_of (l : Int) (V : Array UInt8) (f : Int) (L : List Int) (t wn : Int) (rs : List Lg.Rs) (a : Option Addr) (c : Nat) (b : Option Addr) (d : Nat) (p0 p1 : Addr) (w : World) (hz : 0 ≤ szD ⟨V⟩ L.length rs.length) (hs : ((⟨V⟩ : ByteArray).size : Int) ≤ 1048576) (hL : (L.length : Int) ≤ 1048576) (hrs : (rs.length : Int) ≤ 1048576) (h1 : Reads w a (ints L)) (h2 : Reads w b (Lg.ress rs)) (he : Laid w p0 p1) :
    Calls Tryz.prog 3 #[.agg #[.int .i64 l, .string ⟨V⟩, .int .i64 f, .slice a L.length c, .int .i64 t, .int .i64 wn, .slice b rs.length d]] w fun e w' => e = .returned (.bool true) ∧ Below w.heap.size w w' := by
  have hb := Lg.Below.ofNew (w := w) (.cells #[.int .i64 l, .string ⟨V⟩, .int .i64 f, .slice a L.length c, .int .i64 t, .int .i64 wn, .slice b rs.length d] 27)
  have L0 : Hid (LD w l V f L t wn rs a c b d p0 p1 (w.alloc (.cells #[.int .i64 l, .string ⟨V⟩, .int .i64 f, .slice a L.length c, .int .i64 t, .int .i64 wn, .slice b rs.length d] 27))) := ⟨Lg.ObAt.new _ _ _, h1.old hb, h2.old hb, hb, he.keep hb⟩
  clear hb h1 h2 he
  have HZ := Lib.hid (fun W => szDesk_any l ⟨V⟩ f a L.length c t wn b rs.length d W (by omega) (by omega) (by omega))
  generalize szD ⟨V⟩ L.length rs.length = z at *
  have hz2 : ¬ z < 0 := by omega
  have HT := Lib.hid (fun W h h' => toDesk_any l ⟨V⟩ f L t wn rs a c b d W hL hrs h h')
  have HS := Lib.hid (fun g g' W h h' => specIsDesk_any l ⟨V⟩ f L t wn rs (some ⟨g, 0, none⟩) L.length (some ⟨g', 0, none⟩) rs.length W hs hL hrs (Nat.le_refl _) h h')
  have HI := Lib.hid (fun g g' W h h' he => implIsDesk_any l ⟨V⟩ f L t wn rs (some ⟨g, 0, none⟩) L.length (some ⟨g', 0, none⟩) rs.length p0 p1 W hs hL hrs (Nat.le_refl _) h h' he)
  generalize deskG l ⟨V⟩ f L t wn rs = o0 at *
  have q0 : (o0 != o0) = false := by simp
  go_enter Tryz.func3, Tryz.ntmps3
  go_wp2_with fail
  refine (HZ.out _).mono ?_; rintro e w0 ⟨rfl, b0⟩
  have L1 := Lib.hid (L0.out.keep b0); clear b0 L0
  obtain ⟨x0, x1, x2, x3, x4, x5, x6⟩ := cell7 L1.out.1
  go_wp2_with fail
  refine (HT.out _ L1.out.2.1 L1.out.2.2.1).mono ?_; rintro e w1 ⟨g1, g2, rfl, r1, r2, b1⟩
  have L2 := Lib.hid (And.intro (L1.out.keep b1) (And.intro r1 r2)); clear r1 r2 b1 L1 x0 x1 x2 x3 x4 x5 x6
  obtain ⟨x0, x1, x2, x3, x4, x5, x6⟩ := cell7 L2.out.1.1
  go_wp2_with fail
  refine (HS.out _ _ _ L2.out.2.1 L2.out.2.2).mono ?_; rintro e w2 ⟨rfl, b2⟩
  have L3 := Lib.hid (L2.out.1.keep b2); clear b2 L2 x0 x1 x2 x3 x4 x5 x6
  obtain ⟨x0, x1, x2, x3, x4, x5, x6⟩ := cell7 L3.out.1
  go_wp2_with fail
  refine (HT.out _ L3.out.2.1 L3.out.2.2.1).mono ?_; rintro e w3 ⟨g3, g4, rfl, r3, r4, b3⟩
  have L4 := Lib.hid (L3.out.keep b3)
  have X4 : Hid (CD w l V f L t wn rs a c b d p0 p1 w3.heap.size g3 g4 (w3.alloc (.cells #[.int .i64 l, .string ⟨V⟩, .int .i64 f, .slice (some ⟨g3, 0, none⟩) L.length L.length, .int .i64 t, .int .i64 wn, .slice (some ⟨g4, 0, none⟩) rs.length rs.length] 34))) := ⟨L4.out.keep (Lg.Below.ofNew _), Lg.ObAt.new _ _ _, r3.old (Lg.Below.ofNew _), r4.old (Lg.Below.ofNew _)⟩
  clear r3 r4 b3 L3 x0 x1 x2 x3 x4 x5 x6 L4
  generalize hg5 : w3.heap.size = g5 at *
  go_wp2_with fail
  refine (HI.out _ _ _ X4.out.2.2.1 X4.out.2.2.2 X4.out.1.2.2.2.2).mono ?_; rintro e w4 ⟨rfl, b4⟩
  have X5 := Lib.hid (X4.out.keep b4).drew
  have X5' := Lib.hid (X4.out.keep b4); clear b4 X4
  go_wp2_with fail
  refine wp_region_held_drew (S := fun w' => w'.cell? ⟨w.heap.size, 0, none⟩ = some (.int .i64 l) ∧ w'.cell? ⟨w.heap.size, 1, none⟩ = some (.string ⟨V⟩) ∧ w'.cell? ⟨w.heap.size, 2, none⟩ = some (.int .i64 f) ∧ w'.cell? ⟨w.heap.size, 3, none⟩ = some (.slice a L.length c) ∧ w'.cell? ⟨w.heap.size, 4, none⟩ = some (.int .i64 t) ∧ w'.cell? ⟨w.heap.size, 5, none⟩ = some (.int .i64 wn) ∧ w'.cell? ⟨w.heap.size, 6, none⟩ = some (.slice b rs.length d) ∧ w'.cell? ⟨g5, 0, none⟩ = some (.int .i64 l) ∧ w'.cell? ⟨g5, 1, none⟩ = some (.string ⟨V⟩) ∧ w'.cell? ⟨g5, 2, none⟩ = some (.int .i64 f) ∧ w'.cell? ⟨g5, 3, none⟩ = some (.slice (some ⟨g3, 0, none⟩) L.length L.length) ∧ w'.cell? ⟨g5, 4, none⟩ = some (.int .i64 t) ∧ w'.cell? ⟨g5, 5, none⟩ = some (.int .i64 wn) ∧ w'.cell? ⟨g5, 6, none⟩ = some (.slice (some ⟨g4, 0, none⟩) rs.length rs.length) ∧ CD w l V f L t wn rs a c b d p0 p1 g5 g3 g4 w') (by kernel_rfl) X5.out.full (fun hHeld => ?_)
  (refine wpAnyH_take (i := 0) (v := ?_) rfl (by kernel_rfl) (by kernel_rfl) (by kernel_rfl) (fun _ _ _ h => h) (Or.inl ⟨by kernel_rfl, ?_⟩) (by assumption) ?_; rotate_left; focus (intro w hSw; (try dsimp only at hSw); go_simp; try with_reducible rfl); (try simp only [List.getElem_toArray, List.getElem_cons_succ, List.getElem_cons_zero, Act.put, List.setIfInBounds_toArray, List.set_cons_zero, List.set_cons_succ])); (refine wpAnyH_take (i := 1) (v := ?_) rfl (by kernel_rfl) (by kernel_rfl) (by kernel_rfl) (fun _ _ _ h => h) (Or.inl ⟨by kernel_rfl, ?_⟩) (by assumption) ?_; rotate_left; focus (intro w hSw; (try dsimp only at hSw); go_simp; try with_reducible rfl); (try simp only [List.getElem_toArray, List.getElem_cons_succ, List.getElem_cons_zero, Act.put, List.setIfInBounds_toArray, List.set_cons_zero, List.set_cons_succ]))
  refine wpAnyH_ready (rs := [2]) (by kernel_rfl) (by simp) ?_; refine AllReadyH.cons rfl (fun K hK => ?_) AllReadyH.nil
  go_simp
  go_at_call 6
  refine (HT.out _ X5.out.1.2.1 X5.out.1.2.2.1).mono ?_; rintro e w6 ⟨g6, g7, rfl, r6, r7, b6⟩
  have X6 := Lib.hid (X5.out.keep b6)
  have R6 := Lib.hid (And.intro r6 r7); clear r6 r7 b6 X5 X5' hHeld
  go_wp2_with fail
  first
    | refine hK.out _ _ X6.out.full (fun hHeld => ?_)
    | refine hK _ _ X6.out.full (fun hHeld => ?_)
  clear hK K
  (try simp only [List.getElem_toArray, List.getElem_cons_succ, List.getElem_cons_zero, Act.put, List.setIfInBounds_toArray, List.set_cons_zero, List.set_cons_succ])
  refine wpAnyH_ready (rs := [3]) (by kernel_rfl) (by simp) ?_; refine AllReadyH.cons rfl (fun K hK => ?_) AllReadyH.nil
  go_simp
  go_at_call 8
  refine (eqDesk_same l V f L t wn rs _ _ _ _ _ _ _ _ _ hL hrs X6.out.2.2.1 X6.out.2.2.2 R6.out.1 R6.out.2).mono ?_; rintro e w7 ⟨rfl, b7⟩
  have X7 := Lib.hid (X6.out.keep b7); clear b7 X6 hHeld R6
  go_wp2_with fail
  first
    | refine hK.out _ _ X7.out.full (fun hHeld => ?_)
    | refine hK _ _ X7.out.full (fun hHeld => ?_)
  clear hK K
  (try simp only [List.getElem_toArray, List.getElem_cons_succ, List.getElem_cons_zero, Act.put, List.setIfInBounds_toArray, List.set_cons_zero, List.set_cons_succ])
  (refine wpAnyH_take (i := 4) (v := ?_) rfl (by kernel_rfl) (by kernel_rfl) (by kernel_rfl) (fun _ _ _ h => h) (Or.inl ⟨by kernel_rfl, ?_⟩) (by assumption) ?_; rotate_left; focus (intro w hSw; (try dsimp only at hSw); go_simp; try with_reducible rfl); (try simp only [List.getElem_toArray, List.getElem_cons_succ, List.getElem_cons_zero, Act.put, List.setIfInBounds_toArray, List.set_cons_zero, List.set_cons_succ]))
  refine wpAnyH_done (by kernel_rfl) ?_ _
  clear hHeld
  go_wp2_with fail
  go_ret
  exact ⟨rfl, X7.out.1.2.2.2.1⟩

theorem sz_parts {s : ByteArray} {n m : Nat} (h : ¬ szD s n m < 0) : (s.size : Int) ≤ 1048576 ∧ (n : Int) ≤ 1048576 ∧ (m : Int) ≤ 1048576 := by
  unfold szD at h
  by_cases h1 : 1048576 < (s.size : Int)
  · rw [if_pos h1] at h; omega
  · rw [if_neg h1] at h
    by_cases h2 : 1048576 - (s.size : Int) < n
    · rw [if_pos h2] at h; omega
    · rw [if_neg h2] at h
      by_cases h3 : 1048576 - (s.size : Int) - n < m
      · rw [if_pos h3] at h; omega
      · omega
theorem walk (l : Int) (s : ByteArray) (f : Int) (a : Option Addr) (n c : Nat) (t wn : Int) (b : Option Addr) (m d : Nat) (L : List Int) (rs : List Lg.Rs) (p0 p1 : Addr) (w : World) (hs : (s.size : Int) ≤ 9223372036854775807) (wf : (L.length = n ∧ Reads w a (ints L)) ∧ (n : Int) ≤ 9223372036854775807) (wg : (rs.length = m ∧ Reads w b (Lg.ress rs)) ∧ (m : Int) ≤ 9223372036854775807) (he : Laid w p0 p1) :
    Calls Tryz.prog 3 #[.agg #[.int .i64 l, .string s, .int .i64 f, .slice a n c, .int .i64 t, .int .i64 wn, .slice b m d]] w fun e w' => e = .returned (.bool true) ∧ Below w.heap.size w w' := by
  obtain ⟨⟨rfl, hr⟩, hn⟩ := wf
  obtain ⟨⟨rfl, hq⟩, hm⟩ := wg
  by_cases hz : szD s L.length rs.length < 0
  · exact law_long l s f a _ c t wn b _ d w hs hn hm hz
  · obtain ⟨k1, k2, k3⟩ := sz_parts hz
    obtain ⟨V⟩ := s
    exact law_of l V f L t wn rs a c b d p0 p1 w (by omega) k1 k2 k3 hr hq he
end Go.Proofs.YtgkkjlpfkoplhaaGreatDoor.ExIsDesk
