/-
  Pins: the model's table of totals.
-/
import Derived.Test.YthbkclgdoopbpaaPtFrm
namespace Go.Proofs.Ythbkclgdoopbpaa
open Go.RowKit
set_option linter.unusedVariables false
set_option linter.unusedSimpArgs false

theorem owns_apartT {w : World} {g T T' base n size : Nat} {v : Value} {xs : List Value} {cs : Array Value} {fr : Nat × Nat} (h : w.heap[g]? = some (.cells cs T fr)) (hT : T ≠ T') (ho : w.ownsRow base T' size v n xs) : v.ownBlock ≠ some g := by
  obtain ⟨_, ⟨rfl, _⟩ | ⟨g', cap, cur, rfl, _, hh, _⟩⟩ := ho
  · simp [Value.ownBlock]
  · intro e
    simp [Value.ownBlock] at e
    subst e
    rw [hh] at h
    injection h with h
    injection h with h1 h2 h3
    exact hT h2.symm
theorem infoHd : (Try.prog.info? 25).map (fun i => (i.zero, i.size, i.bytes)) = some (some (.slice none 0 0), 1, 24) := by kernel_rfl
theorem infoHd2 : (Try.prog.info? 88).map (fun i => (i.zero, i.size, i.bytes)) = some (some (.slice none 0 0), 1, 24) := by kernel_rfl
theorem cell_one (w : World) (v : Value) (e : TypeId) : ∀ (j : Nat) (u : Value), ([v] : List Value)[j]? = some u → (w.alloc (.cells #[v] e)).cell? ((⟨w.heap.size, 0, none⟩ : Addr).add j) = some u := by
  intro j u hu
  have hj : j = 0 := by
    have := (List.getElem?_eq_some_iff.1 hu).1
    simp at this; omega
  subst hj
  rw [add_pl, cell_of_row _ _ _ #[v] _ _ (heap_alloc_last w _)]; simpa using hu
/-- What stands where an append has ended. -/
def ApD (w1 : World) (B E : Nat) (v : Value) (n : Nat) (xs : List Value) (v' : Value) (w' : World) : Prop :=
  w'.ownsRow B E 1 v' n xs ∧ (∀ k, k < w1.heap.size → v.ownBlock ≠ some k → w'.heap[k]? = w1.heap[k]?) ∧ ∀ w0, B ≤ w1.heap.size → Below B w0 w1 → Below B w0 w'
theorem ApD.of {w1 w' : World} {B E n n2 : Nat} {v v' : Value} {xs xs2 : List Value} {o : Obj} (h1 : w1.ownsRow B E 1 v n xs) (h2 : w'.ownsRow B E 1 v' n2 xs2) (hg : (w1.alloc o).grownBy w' v.ownBlock) : ApD w1 B E v n2 xs2 v' w' := by
  refine ⟨h2, fun k hk hne => ?_, fun w0 hB hb => ?_⟩
  · rw [hg.block k (by simp; omega) (fun e => hne e.symm), Below.heap_alloc _ _ _ (by omega)]
  · refine (hb.alloc hB o).grown hg (by simp; omega) (fun k e => ?_)
    obtain ⟨-, ⟨rfl, -⟩ | ⟨g', cap, cur, rfl, hb', -⟩⟩ := h1
    · simp [Value.ownBlock] at e
    · simp [Value.ownBlock] at e
      omega

/-! the states of one number of frames -/
def tb (m s : Nat) : Nat → Nat := if m = 0 then fun _ => 0 else tl m s
def hdR (r : Nat → Nat) (k : Nat) : List Value := (List.range k).map fun s => .slice (some ⟨r s, 0, none⟩) 301 301
def SdW (B m k : Nat) (r : Nat → Nat) (v : Value) (wr : World) : Prop := wr.ownsRow B 25 1 v k (hdR r k) ∧ ∀ s, s < k → B ≤ r s ∧ RowAt wr (r s) 3 (rowN301 (tb m s))
theorem owns_keep {B : Nat} {e : TypeId} {k : Nat} {v : Value} {n : Nat} {xs : List Value} {w w' : World} (h : w.ownsRow B e k v n xs) (hb : Below w.heap.size w w') : w'.ownsRow B e k v n xs := by
  obtain ⟨h1, h2⟩ := h
  refine ⟨h1, ?_⟩
  rcases h2 with h2 | ⟨g, cap, cur, hv, hg, hh, r⟩
  · exact Or.inl h2
  · exact Or.inr ⟨g, cap, cur, hv, hg, by rw [hb.block g (Array.getElem?_eq_some_iff.1 hh).1]; exact hh, r⟩
theorem SdW.nil (B m : Nat) (r : Nat → Nat) (wr : World) : SdW B m 0 r (.slice none 0 0) wr := ⟨⟨rfl, .inl ⟨rfl, rfl⟩⟩, fun s h => by omega⟩
theorem SdW.keep {B m k : Nat} {r : Nat → Nat} {v : Value} {wr w' : World} (h : SdW B m k r v wr) (hb : Below wr.heap.size wr w') : SdW B m k r v w' :=
  ⟨owns_keep h.1 hb, fun s hs => ⟨(h.2 s hs).1, (h.2 s hs).2.keep hb⟩⟩
theorem SdW.snoc {B m k g : Nat} {r : Nat → Nat} {v v' : Value} {w1 w' : World} (h : SdW B m k r v w1) (hB : B ≤ g) (hg : RowAt w1 g 3 (rowN301 (tb m k))) (ha : ApD w1 B 25 v (k + 1) (hdR r k ++ [.slice (some ⟨g, 0, none⟩) 301 301]) v' w') :
    SdW B m (k + 1) (fun s => if s = k then g else r s) v' w' := by
  refine ⟨?_, fun s hs => ?_⟩
  · have e : hdR (fun s => if s = k then g else r s) (k + 1) = hdR r k ++ [.slice (some ⟨g, 0, none⟩) 301 301] := by
      unfold hdR
      rw [List.range_succ, List.map_append]
      congr 1
      · refine List.map_congr_left fun s hs => ?_
        have := List.mem_range.1 hs
        have e : (fun s => if s = k then g else r s) s = r s := if_neg (by omega)
        rw [e]
      · simp
    rw [e]; exact ha.1
  · by_cases e : s = k
    · subst e
      simp only [if_true]
      refine ⟨hB, ?_⟩
      unfold RowAt at hg ⊢
      rw [ha.2.1 g (Array.getElem?_eq_some_iff.1 hg).1 (owns_apartT hg (by decide) h.1)]; exact hg
    · simp only [e, if_false]
      obtain ⟨h1, h2⟩ := h.2 s (by omega)
      refine ⟨h1, ?_⟩
      unfold RowAt at h2 ⊢
      rw [ha.2.1 _ (Array.getElem?_eq_some_iff.1 h2).1 (owns_apartT h2 (by decide) h.1)]; exact h2
theorem tb_pos {m s : Nat} (h : 1 ≤ m) : tb m s = tl m s := by unfold tb; rw [if_neg (by omega)]
theorem SdW.st {B m : Nat} {r : Nat → Nat} {v : Value} {wr : World} (h : SdW B m 4 r v wr) : ∃ b c, v = .slice (some ⟨b, 0, none⟩) 4 c ∧ (1 ≤ m → StAt wr b m r) := by
  obtain ⟨⟨hl, hn | ⟨g, cap, cur, rfl, hg, hh, hn, hcap, hcs, htk⟩⟩, h2⟩ := h
  · have := hn.2; omega
  · refine ⟨g, cap, rfl, fun hm => ⟨cur, hh, fun s hs => ⟨?_, ?_⟩⟩⟩
    · have e : (hdR r 4)[s]? = some (.slice (some ⟨r s, 0, none⟩) 301 301) := by
        unfold hdR; rw [List.getElem?_map, List.getElem?_range (by omega)]; rfl
      rw [← htk, List.getElem?_take_of_lt (by omega)] at e
      simpa using e
    · have := (h2 s (by omega)).2
      rw [tb_pos hm] at this; exact this

/-! the whole table -/
def TdW (B k : Nat) (v : Value) (wr : World) : Prop := ∃ hs : List Value, wr.ownsRow B 88 1 v k hs ∧ ∀ m, 1 ≤ m → m < k → ∃ b c r, hs[m]? = some (.slice (some ⟨b, 0, none⟩) 4 c) ∧ StAt wr b m r
theorem TdW.nil (B : Nat) (wr : World) : TdW B 0 (.slice none 0 0) wr := ⟨[], ⟨rfl, .inl ⟨rfl, rfl⟩⟩, fun m _ h => by omega⟩
theorem TdW.keep {B k : Nat} {v : Value} {wr w' : World} (h : TdW B k v wr) (hb : Below wr.heap.size wr w') : TdW B k v w' := by
  obtain ⟨hs, h1, h2⟩ := h
  refine ⟨hs, owns_keep h1 hb, fun m hm1 hm => ?_⟩
  obtain ⟨b, c, r, e, hst⟩ := h2 m hm1 hm
  exact ⟨b, c, r, e, hst.keep hb⟩
theorem StAt.ap {w1 w' : World} {h m : Nat} {r : Nat → Nat} (hs : StAt w1 h m r) {B n n2 : Nat} {v v' : Value} {xs xs2 : List Value} (ho : w1.ownsRow B 88 1 v n xs) (ha : ApD w1 B 88 v n2 xs2 v' w') : StAt w' h m r := by
  obtain ⟨cur, hc, h2⟩ := hs
  refine ⟨cur, by rw [ha.2.1 h (Array.getElem?_eq_some_iff.1 hc).1 (owns_apartT hc (by decide) ho)]; exact hc, fun s h3 => ⟨(h2 s h3).1, ?_⟩⟩
  have := (h2 s h3).2
  unfold RowAt at this ⊢
  rw [ha.2.1 _ (Array.getElem?_eq_some_iff.1 this).1 (owns_apartT this (by decide) ho)]; exact this
theorem TdW.snoc {B k b c : Nat} {r : Nat → Nat} {v v' : Value} {w1 w' : World} {hs : List Value} (h1 : w1.ownsRow B 88 1 v k hs) (h2 : ∀ m, 1 ≤ m → m < k → ∃ b c r, hs[m]? = some (.slice (some ⟨b, 0, none⟩) 4 c) ∧ StAt w1 b m r) (hst : 1 ≤ k → StAt w1 b k r) (ha : ApD w1 B 88 v (k + 1) (hs ++ [.slice (some ⟨b, 0, none⟩) 4 c]) v' w') : TdW B (k + 1) v' w' := by
  have hl : hs.length = k := by have := h1.1; omega
  refine ⟨_, ha.1, fun m hm1 hm => ?_⟩
  by_cases e : m = k
  · subst e
    exact ⟨b, c, r, by rw [List.getElem?_append_right (by omega), hl]; simp, (hst hm1).ap h1 ha⟩
  · obtain ⟨b', c', r', e', h'⟩ := h2 m hm1 (by omega)
    exact ⟨b', c', r', by rw [List.getElem?_append_left (by omega)]; exact e', h'.ap h1 ha⟩
/-- The table, as a reader has it. -/
def TabAt (wr : World) (F : Nat) (v : Value) : Prop := ∃ b c cur, v = .slice (some ⟨b, 0, none⟩) (F + 1) c ∧ wr.heap[b]? = some (.cells cur 88 (0, 0)) ∧ ∀ m, 1 ≤ m → m ≤ F → ∃ h c r, cur[m]? = some (.slice (some ⟨h, 0, none⟩) 4 c) ∧ StAt wr h m r
theorem TdW.tab {B F : Nat} {v : Value} {wr : World} (h : TdW B (F + 1) v wr) : TabAt wr F v := by
  obtain ⟨hs, ⟨hl, hn | ⟨g, cap, cur, rfl, hg, hh, hn, hcap, hcs, htk⟩⟩, h2⟩ := h
  · have := hn.2; omega
  · refine ⟨g, cap, cur, rfl, hh, fun m hm1 hm => ?_⟩
    obtain ⟨b, c, r, e, hst⟩ := h2 m hm1 (by omega)
    refine ⟨b, c, r, ?_, hst⟩
    rw [← htk, List.getElem?_take_of_lt (by omega)] at e
    simpa using e
theorem TabAt.keep {wr w' : World} {F : Nat} {v : Value} (h : TabAt wr F v) (hb : Below wr.heap.size wr w') : TabAt w' F v := by
  obtain ⟨b, c, cur, e, hh, h2⟩ := h
  refine ⟨b, c, cur, e, by rw [hb.block b (Array.getElem?_eq_some_iff.1 hh).1]; exact hh, fun m hm1 hm => ?_⟩
  obtain ⟨h', c', r', e', hst⟩ := h2 m hm1 hm
  exact ⟨h', c', r', e', hst.keep hb⟩
/-- Under way, before the states of k frames. -/
def TbW (w : World) (k : Nat) (v : Value) (wr : World) : Prop := TdW w.heap.size k v wr ∧ ObAt wr w.heap.size 3 #[.int .i64 0, .int .i64 1, .int .i64 1, .int .i64 2] ∧ ObAt wr (w.heap.size + 1) 3 #[.int .i64 0, .int .i64 0, .int .i64 1, .int .i64 1] ∧ Below w.heap.size w wr
theorem TbW.keep {w wr w' : World} {k : Nat} {v : Value} (h : TbW w k v wr) (hb : Below wr.heap.size wr w') : TbW w k v w' :=
  ⟨h.1.keep hb, h.2.1.keep hb, h.2.2.1.keep hb, h.2.2.2.trans (hb.mono h.2.2.2.size)⟩
theorem ones_at {s : Nat} (hs : s ≤ 3) : (#[.int .i64 0, .int .i64 1, .int .i64 1, .int .i64 2] : Array Value)[s]? = some (.int .i64 ((oneT s - 1 : Nat) : Int)) ∧ (#[.int .i64 0, .int .i64 0, .int .i64 1, .int .i64 1] : Array Value)[s]? = some (.int .i64 ((twoT s - 1 : Nat) : Int)) := by
  have : s = 0 ∨ s = 1 ∨ s = 2 ∨ s = 3 := by omega
  rcases this with rfl | rfl | rfl | rfl <;> exact ⟨rfl, rfl⟩
theorem zeros301 (s m : Nat) : (List.replicate 301 (0 : Int)) = rowN301 (sumT (tl m) s []) ∧ (List.replicate 301 (0 : Int)) = rowN301 (tb 0 s) := ⟨(rowN301_zero (fun _ => rfl)).symm, (rowN301_zero (fun _ => by simp [tb])).symm⟩

/-- Under way, inside the states of m frames: W the world where they begin. -/
def TsdW (w W : World) (m k : Nat) (v5 v7 : Value) (wr : World) : Prop := (∃ r, SdW W.heap.size m k r v7 wr) ∧ TbW w m v5 wr ∧ Below W.heap.size W wr
theorem TsdW.keep {w W wr w' : World} {m k : Nat} {v5 v7 : Value} (h : TsdW w W m k v5 v7 wr) (hb : Below wr.heap.size wr w') : TsdW w W m k v5 v7 w' := by
  obtain ⟨⟨r, h1⟩, h2, h3⟩ := h
  exact ⟨⟨r, h1.keep hb⟩, h2.keep hb, h3.trans (hb.mono h3.size)⟩
theorem below_only {w1 w2 : World} {g B : Nat} (h : OnlyG g w1 w2) (hB : B ≤ g) : Below B w1 w2 := h.2.2 B w1 hB (Below.refl _ _)

/-- The states of one number of frames more. -/
theorem TbW.more {w wr w' : World} {m b c : Nat} {r : Nat → Nat} {v v' : Value} {hs : List Value} (h1 : wr.ownsRow w.heap.size 88 1 v m hs) (h2 : ∀ k, 1 ≤ k → k < m → ∃ b c r, hs[k]? = some (.slice (some ⟨b, 0, none⟩) 4 c) ∧ StAt wr b k r) (q1 : ObAt wr w.heap.size 3 #[.int .i64 0, .int .i64 1, .int .i64 1, .int .i64 2]) (q2 : ObAt wr (w.heap.size + 1) 3 #[.int .i64 0, .int .i64 0, .int .i64 1, .int .i64 1]) (q3 : Below w.heap.size w wr) (hst : 1 ≤ m → StAt wr b m r) (ha : ApD wr w.heap.size 88 v (m + 1) (hs ++ [.slice (some ⟨b, 0, none⟩) 4 c]) v' w') : TbW w (m + 1) v' w' := by
  refine ⟨TdW.snoc h1 h2 hst ha, ?_, ?_, ha.2.2 w q3.size q3⟩
  · unfold ObAt at q1 ⊢; rw [ha.2.1 _ (Array.getElem?_eq_some_iff.1 q1).1 (owns_apartT q1 (by decide) h1)]; exact q1
  · unfold ObAt at q2 ⊢; rw [ha.2.1 _ (Array.getElem?_eq_some_iff.1 q2).1 (owns_apartT q2 (by decide) h1)]; exact q2

/-- One state more. -/
theorem TsdW.more {w W w9 w' : World} {m k g : Nat} {r : Nat → Nat} {v5 v7 v' : Value} (h1 : SdW W.heap.size m k r v7 w9) (h2 : TbW w m v5 w9) (h3 : Below W.heap.size W w9) (hB : W.heap.size ≤ g) (hg : RowAt w9 g 3 (rowN301 (tb m k))) (ha : ApD w9 W.heap.size 25 v7 (k + 1) (hdR r k ++ [.slice (some ⟨g, 0, none⟩) 301 301]) v' w') (hlow : TbW w m v5 W) : TsdW w W m (k + 1) v5 v' w' :=
  ⟨⟨_, h1.snoc hB hg ha⟩, hlow.keep (ha.2.2 W h3.size h3), ha.2.2 W h3.size h3⟩

set_option maxRecDepth 100000 in
set_option maxHeartbeats 12800000 in
theorem boTable_any (F : Nat) (hF1 : 1 ≤ F) (hF2 : F ≤ 10) (w : World) :
    Calls Try.prog 33 #[.int .i64 F] w fun e w' => ∃ v, e = .returned v ∧ TabAt w' F v ∧ Below w.heap.size w w' := by
  obtain ⟨i1, j1, jz0, jz1, jz2⟩ := info_parts infoIntT
  have HJ := Lib.hid (And.intro j1 (And.intro jz0 (And.intro jz1 jz2))); clear j1 jz0 jz1 jz2
  obtain ⟨i0, hi, hz0, hz1, hz2⟩ := info_parts infoHd
  have HI := Lib.hid (And.intro hi (And.intro hz0 (And.intro hz1 hz2))); clear hi hz0 hz1 hz2
  obtain ⟨i2, hi, hz0, hz1, hz2⟩ := info_parts infoHd2
  have HI2 := Lib.hid (And.intro hi (And.intro hz0 (And.intro hz1 hz2))); clear hi hz0 hz1 hz2
  go_enter Try.func33, Try.ntmps33
  go_upto_region 4 with fail
  have H0 : Hid (TbW w 0 (.slice none 0 0) ((w.alloc (.cells #[.int .i64 0, .int .i64 1, .int .i64 1, .int .i64 2] 3)).alloc (.cells #[.int .i64 0, .int .i64 0, .int .i64 1, .int .i64 1] 3))) := Lib.hid ⟨TdW.nil _ _, (ObAt.new w _ _).old _, by have := ObAt.new (w.alloc (.cells #[.int .i64 0, .int .i64 1, .int .i64 1, .int .i64 2] 3)) 3 #[.int .i64 0, .int .i64 0, .int .i64 1, .int .i64 1]; rw [World.size_alloc] at this; exact this, by (repeat (first | exact Below.refl _ _ | exact ‹Below _ _ _› | refine Below.drew ?_ | refine Below.alloc ?_ (by first | omega | (simp; done) | (simp; omega)) _ | refine Below.setCell ?_ (by first | omega | (simp; done) | (simp; omega)) _ | refine Below.trans ?_ (Below.mono ‹Below _ _ _› (by first | omega | (simp; done) | (simp; omega)))))⟩
  generalize ((w.alloc (.cells #[.int .i64 0, .int .i64 1, .int .i64 1, .int .i64 2] 3)).alloc (.cells #[.int .i64 0, .int .i64 0, .int .i64 1, .int .i64 1] 3)) = W0 at *
  go_loopw [6, 5] (fun i v5 wr => ∃ m : Nat, i = .int .i64 m ∧ m ≤ F + 1 ∧ Hid (TbW w m v5 wr)) (fun i _ _ => F + 1 - (intOf i).toNat)
  case atStart => exact ⟨0, rfl, Nat.zero_le _, H0⟩
  case round =>
    clear H0
    obtain ⟨m, rfl, hm, hH⟩ := hrel
    by_cases hlt : m ≤ F
    · have b1 : (m : Int) ≤ (F : Int) := by omega
      have HLOW := Lib.hid hH.out
      have H1 : Hid (TsdW w wr m 0 u5 (.slice none 0 0) wr) := Lib.hid ⟨⟨fun _ => 0, SdW.nil _ _ _ _⟩, hH.out, Below.refl _ _⟩
      go_upto_region 8 with fail
      generalize hWW : wr = W at *
      clear hWW
      go_loopw [19, 7] (fun i v7 wr => ∃ k : Nat, i = .int .i64 k ∧ k ≤ 4 ∧ Hid (TsdW w W m k u5 v7 wr)) (fun i _ _ => 4 - (intOf i).toNat)
      case atStart => exact ⟨0, rfl, Nat.zero_le _, H1⟩
      case round =>
        clear H1
        obtain ⟨k, rfl, hk, hT⟩ := hrel
        by_cases hkl : k < 4
        · have b2 : (k : Int) < 4 := by omega
          go_wp2_with (at_make; refine wpList_make_full _ rfl _ _ _ rfl wr.heap.size _ i1 _ 1 Try.underlying25 HJ.out.1 HJ.out.2.1 HJ.out.2.2.1 .i64 .i64 _ _ 301 rfl rfl rfl rfl ?_ ?_ (Nat.le_refl _) ?_)
          · rw [HJ.out.2.2.2]; omega
          · unfold maxLen; omega
          intro w3 hown hgrow
          have hr := (RowAt.made (e := 3) hown).1
          have hbel : Below wr.heap.size wr w3 := (Below.refl _ _).grown hgrow (Nat.le_refl _) (fun k hk => by cases hk)
          have hT3 := hT.out.keep hbel
          have hgW := hT.out.2.2.size
          have HX := Lib.hid (And.intro hr (And.intro hbel (And.intro hT3 hgW)))
          have HKEEP : Hid (∀ w9, Below wr.heap.size wr w9 → TsdW w W m k u5 u7 w9) := Lib.hid fun w9 h9 => hT.out.keep h9
          obtain ⟨o1at, o2at⟩ := ones_at (s := k) (by omega)
          have d0 : w3.cell? ⟨w.heap.size, k, none⟩ = some (.int .i64 ((oneT k - 1 : Nat) : Int)) := by rw [hT3.2.1.2.1.cell]; exact o1at
          have d1 : w3.cell? ⟨w.heap.size + 1, k, none⟩ = some (.int .i64 ((twoT k - 1 : Nat) : Int)) := by rw [hT3.2.1.2.2.1.cell]; exact o2at
          obtain ⟨s1, s2, s3, s4, -⟩ := st_bd k
          have ew1 : IntKind.i64.wrap (((oneT k - 1 : Nat) : Int) + 1) = (oneT k : Int) := by rw [IntKind.wrap_i64]; omega
          have ew2 : IntKind.i64.wrap (((twoT k - 1 : Nat) : Int) + 1) = (twoT k : Int) := by rw [IntKind.wrap_i64]; omega
          clear o1at o2at hr hbel hT3 hgW hown hgrow hT s1 s2 s3 s4
          have HLST := Lib.hid (fun gx W' h => boLast_any k gx W' h)
          have HFRM := Lib.hid (fun m' gx h c r hm1 hm hg W' h0 hs => boFrame_any k m' gx h c r hm1 hm hg W' h0 hs)
          have HZ1 : Hid (List.replicate 301 (0 : Int) = rowN301 (tb 0 k)) := Lib.hid (zeros301 k 0).2
          have HZ2 : Hid (∀ m', List.replicate 301 (0 : Int) = rowN301 (sumT (tl m') k [])) := Lib.hid fun m' => (zeros301 k m').1
          generalize oneT k = o1 at *
          generalize twoT k = o2 at *
          generalize oneT k - 1 = q1 at *
          generalize twoT k - 1 = q2 at *
          have HN9 := Lib.hid cell_one
          obtain ⟨gx, hgx⟩ : ∃ gx, gx = wr.heap.size := ⟨_, rfl⟩
          rw [← hgx] at HX HKEEP ⊢
          have HGX := Lib.hid hgx; clear hgx
          by_cases hm0 : m < 1
          · have HA : Hid (TsdW w W m k u5 u7 w3 ∧ W.heap.size ≤ gx ∧ RowAt w3 gx 3 (rowN301 (tb m k))) := Lib.hid ⟨HX.out.2.2.1, HX.out.2.2.2, by rw [show m = 0 by omega, ← HZ1.out]; exact HX.out.1⟩
            have e1 : ¬ ((m : Int) = 1) := by omega
            have e2 : ¬ (1 < (m : Int)) := by omega
            clear hm0
            obtain ⟨w9, hw9⟩ : ∃ w9, w9 = w3 := ⟨_, rfl⟩
            rw [← hw9] at HA ⊢
            clear d0 d1 HX hw9
            obtain ⟨⟨r7, hs7⟩, ht7, hb7⟩ := HA.out.1
            have hz7 := hb7.size
            have HV := Lib.hid (And.intro hs7 (And.intro ht7 hb7)); clear hs7 ht7 hb7
            go_wp2_with (at_builtin; refine wpList_append_own_at _ rfl _ _ 88 rfl W.heap.size 25 i0 (.slice none 0 0) 1 24 Try.underlying88 HI.out.1 HI.out.2.1 HI.out.2.2.1 HI.out.2.2.2 rfl (by decide) _ k (hdR r7 k) rfl (HV.out.1.1.alloc _) ⟨w9.heap.size, 0, none⟩ 1 1 [.slice (some ⟨gx, 0, none⟩) 301 301] rfl rfl (HN9.out w9 _ 25) ?_ ?_ ?_ ?_ ?_)
            · first | rfl | (intro u hu; simp at hu; subst hu; rfl)
            · unfold maxLen; omega
            · omega
            · first | omega | (simp; omega)
            intro v' w' hown' hgrow' _ _
            have hap := ApD.of HV.out.1.1 hown' hgrow'
            have H9 := Lib.hid (TsdW.more HV.out.1 HV.out.2.1 HV.out.2.2 HA.out.2.1 HA.out.2.2 hap HLOW.out); clear hap hown' hgrow'
            go_wp2_with fail
            go_roundw
            case rel => exact ⟨k + 1, by go_num, by omega, H9⟩
            case measure => simp [intOf]; omega
          · by_cases hm1 : m = 1
            · have e1 : ((m : Int) == 1) = true := by rw [hm1]; rfl
              have e2 : ¬ (1 < (m : Int)) := by omega
              have HM1 := Lib.hid hm1; clear hm1 hm0
              go_wp2_with fail
              go_region_with (go_at_call 65; refine (HLST.out gx _ (by rw [← HZ2.out 0]; exact HX.out.1)).mono ?_; rintro e w9 ⟨rfl, hr9, ho9⟩)
              all_goals have HA : Hid (TsdW w W m k u5 u7 w9 ∧ W.heap.size ≤ gx ∧ RowAt w9 gx 3 (rowN301 (tb m k))) := Lib.hid ⟨HKEEP.out w9 (by have := below_only ho9 (Nat.le_refl gx); exact HX.out.2.1.drew.trans (this.mono (Nat.le_refl _))), HX.out.2.2.2, by rw [HM1.out, tb_pos (Nat.le_refl 1)]; exact hr9⟩
              all_goals
                obtain ⟨⟨r7, hs7⟩, ht7, hb7⟩ := HA.out.1
                have hz7 := hb7.size
                have HV := Lib.hid (And.intro hs7 (And.intro ht7 hb7)); clear hs7 ht7 hb7
                go_wp2_with (at_builtin; refine wpList_append_own_at _ rfl _ _ 88 rfl W.heap.size 25 i0 (.slice none 0 0) 1 24 Try.underlying88 HI.out.1 HI.out.2.1 HI.out.2.2.1 HI.out.2.2.2 rfl (by decide) _ k (hdR r7 k) rfl (HV.out.1.1.alloc _) ⟨w9.heap.size, 0, none⟩ 1 1 [.slice (some ⟨gx, 0, none⟩) 301 301] rfl rfl (HN9.out w9 _ 25) ?_ ?_ ?_ ?_ ?_)
                · first | rfl | (intro u hu; simp at hu; subst hu; rfl)
                · unfold maxLen; omega
                · omega
                · first | omega | (simp; omega)
                intro v' w' hown' hgrow' _ _
                have hap := ApD.of HV.out.1.1 hown' hgrow'
                have H9 := Lib.hid (TsdW.more HV.out.1 HV.out.2.1 HV.out.2.2 HA.out.2.1 HA.out.2.2 hap HLOW.out); clear hap hown' hgrow'
                go_wp2_with fail
                go_roundw
                case rel => exact ⟨k + 1, by go_num, by omega, H9⟩
                case measure => simp [intOf]; omega
            · have e1 : ¬ ((m : Int) = 1) := by omega
              have e2 : (1 : Int) < (m : Int) := by omega
              obtain ⟨mp, hmp⟩ : ∃ mp, m = mp + 1 := ⟨m - 1, by omega⟩
              have hmp1 : 1 ≤ mp := by omega
              have hmp9 : mp ≤ 9 := by omega
              obtain ⟨bt, ct, cur, hu5, hbt, hall⟩ := TdW.tab (F := mp) (by rw [← hmp]; exact HLOW.out.1)
              rw [← hmp] at hu5
              subst hu5
              obtain ⟨hS, cS, rS, hc, hst⟩ := hall mp hmp1 (Nat.le_refl _)
              have hb3 : Below W.heap.size W w3 := HX.out.2.2.1.2.2
              have d2 : w3.cell? ⟨bt, mp, none⟩ = some (.slice (some ⟨hS, 0, none⟩) 4 cS) := by
                rw [cell_of_row _ _ _ _ _ _ (show w3.heap[bt]? = _ by rw [hb3.block bt (Array.getElem?_eq_some_iff.1 hbt).1]; exact hbt)]; exact hc
              have hstw := hst.keep hb3
              have hne : hS ≠ gx ∧ ∀ s, s ≤ 3 → rS s ≠ gx := by
                have hgw := HX.out.2.2.2
                have h1 := hst.lt
                refine ⟨by omega, fun s h3 => ?_⟩
                have := (hst.row h3).lt
                omega
              have HF2 := Lib.hid (And.intro (fun W' h0 hs => HFRM.out mp gx hS cS rS hmp1 hmp9 hne W' h0 hs) hstw)
              have ew0 : IntKind.i64.wrap ((m : Int) - 1) = (mp : Int) := by rw [IntKind.wrap_i64]; omega
              have b7 : (mp : Int) < (m : Int) := by omega
              have HMP := Lib.hid (And.intro hmp hmp1)
              clear hmp hmp1 hmp9 hbt hall hc hst hb3 hstw hne hm0 hm1
              go_wp2_with fail
              go_region_with (go_at_call 66; refine (HF2.out.1 w3.drew (by rw [← HZ2.out mp]; exact HX.out.1) HF2.out.2).mono ?_; rintro e w9 ⟨rfl, hr9, ho9⟩)
              all_goals have HA : Hid (TsdW w W m k (.slice (some ⟨bt, 0, none⟩) m ct) u7 w9 ∧ W.heap.size ≤ gx ∧ RowAt w9 gx 3 (rowN301 (tb m k))) := Lib.hid ⟨HKEEP.out w9 (by have := below_only ho9 (Nat.le_refl gx); exact HX.out.2.1.drew.trans (this.mono (Nat.le_refl _))), HX.out.2.2.2, by rw [HMP.out.1, tb_pos (by omega)]; exact hr9⟩
              all_goals
                obtain ⟨⟨r7, hs7⟩, ht7, hb7⟩ := HA.out.1
                have hz7 := hb7.size
                have HV := Lib.hid (And.intro hs7 (And.intro ht7 hb7)); clear hs7 ht7 hb7
                go_wp2_with (at_builtin; refine wpList_append_own_at _ rfl _ _ 88 rfl W.heap.size 25 i0 (.slice none 0 0) 1 24 Try.underlying88 HI.out.1 HI.out.2.1 HI.out.2.2.1 HI.out.2.2.2 rfl (by decide) _ k (hdR r7 k) rfl (HV.out.1.1.alloc _) ⟨w9.heap.size, 0, none⟩ 1 1 [.slice (some ⟨gx, 0, none⟩) 301 301] rfl rfl (HN9.out w9 _ 25) ?_ ?_ ?_ ?_ ?_)
                · first | rfl | (intro u hu; simp at hu; subst hu; rfl)
                · unfold maxLen; omega
                · omega
                · first | omega | (simp; omega)
                intro v' w' hown' hgrow' _ _
                have hap := ApD.of HV.out.1.1 hown' hgrow'
                have H9 := Lib.hid (TsdW.more HV.out.1 HV.out.2.1 HV.out.2.2 HA.out.2.1 HA.out.2.2 hap HLOW.out); clear hap hown' hgrow'
                go_wp2_with fail
                go_roundw
                case rel => exact ⟨k + 1, by go_num, by omega, H9⟩
                case measure => simp [intOf]; omega
        · obtain rfl : k = 4 := by omega
          obtain ⟨⟨r, hsd⟩, htb, hbw⟩ := hT.out
          obtain ⟨bs, cs, rfl, hst⟩ := hsd.st
          obtain ⟨⟨hs, ho, hall⟩, q1, q2, q3⟩ := htb
          have hz := q3.size
          have HV := Lib.hid (And.intro ho (And.intro hall (And.intro q1 (And.intro q2 (And.intro q3 hst))))); clear ho hall q1 q2 q3 hst hsd hbw hT
          have HN9 := Lib.hid cell_one
          go_wp2_with (at_builtin; refine wpList_append_own_at _ rfl _ _ 47 rfl w.heap.size 88 i2 (.slice none 0 0) 1 24 Try.underlying47 HI2.out.1 HI2.out.2.1 HI2.out.2.2.1 HI2.out.2.2.2 rfl (by decide) _ m hs rfl (HV.out.1.alloc _) ⟨wr.heap.size, 0, none⟩ 1 1 [.slice (some ⟨bs, 0, none⟩) 4 cs] rfl rfl (HN9.out wr _ 88) ?_ ?_ ?_ ?_ ?_)
          · first | rfl | (intro u hu; simp at hu; subst hu; rfl)
          · unfold maxLen; omega
          · omega
          · first | omega | (simp; omega)
          intro v' w' hown' hgrow' _ _
          have hap := ApD.of HV.out.1 hown' hgrow'
          have H9 := Lib.hid (TbW.more HV.out.1 HV.out.2.1 HV.out.2.2.1 HV.out.2.2.2.1 HV.out.2.2.2.2.1 HV.out.2.2.2.2.2 hap); clear hap hown' hgrow'
          go_wp2_with fail
          go_roundw
          case rel => exact ⟨m + 1, by go_num, by omega, H9⟩
          case measure => simp [intOf]; omega
    · obtain rfl : m = F + 1 := by omega
      go_wp2_with fail
      go_ret
      exact ⟨_, rfl, hH.out.1.tab, hH.out.2.2.2⟩
end Go.Proofs.Ythbkclgdoopbpaa
