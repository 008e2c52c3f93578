/-
  Goals: the scores of a game, off the channel: the program's.
-/
import Derived.Test.YthbhhcpkilckkaaGoGame
import Derived.Test.YthbhhcpkilckkaaGoLawS
namespace Go.Proofs.Ythbhhcpkilckkaa
open Go.RowKit Go.Conc
set_option linter.unusedVariables false
set_option linter.unusedSimpArgs false

def prs (l : List (Int × Int)) : List Value := l.flatMap fun d => [.int .i64 d.1, .int .i64 d.2]
theorem prs_len (l : List (Int × Int)) : (prs l).length = 2 * l.length := by
  induction l with
  | nil => rfl
  | cons d l ih => simp only [prs, List.flatMap_cons, List.length_append] at *; simp at *; omega
theorem prs_append (l m : List (Int × Int)) : prs (l ++ m) = prs l ++ prs m := by simp [prs]
theorem prs_get : ∀ (l : List (Int × Int)) (j : Nat), j < l.length → (prs l)[j * 2]? = some (.int .i64 (l.getD j (0, 0)).1) ∧ (prs l)[j * 2 + 1]? = some (.int .i64 (l.getD j (0, 0)).2)
  | d :: l, 0, _ => by simp [prs]
  | d :: l, j + 1, h => by
    have := prs_get l j (by simpa using h)
    simp only [prs, List.flatMap_cons] at *
    rw [show (j + 1) * 2 = j * 2 + 1 + 1 from by omega]
    simpa using this

/-- A pair in a block of its own. -/
def NowAt (w : World) (g : Nat) (x : Int × Int) : Prop := w.heap[g]? = some (.cells #[.int .i64 x.1, .int .i64 x.2] 62 (0, 0))
theorem NowAt.new (w : World) (x y : Int) : NowAt (w.alloc (.cells #[.int .i64 x, .int .i64 y] 62)) w.heap.size (x, y) := heap_alloc_last w _
theorem NowAt.lt {w : World} {g : Nat} {x : Int × Int} (h : NowAt w g x) : g < w.heap.size := (Array.getElem?_eq_some_iff.1 h).1
theorem NowAt.keep {w w' : World} {g : Nat} {x : Int × Int} (h : NowAt w g x) (hb : Below w.heap.size w w') : NowAt w' g x := by
  unfold NowAt at *; rw [hb.block _ (Array.getElem?_eq_some_iff.1 h).1]; exact h
theorem NowAt.other {w w' : World} {g : Nat} {x : Int × Int} (h : NowAt w g x) (hb : w'.heap[g]? = w.heap[g]?) : NowAt w' g x := by unfold NowAt at *; rw [hb]; exact h
theorem NowAt.cells {w : World} {g : Nat} {x : Int × Int} (h : NowAt w g x) : w.cell? ⟨g, 0, none⟩ = some (.int .i64 x.1) ∧ w.cell? ⟨g, 1, none⟩ = some (.int .i64 x.2) ∧ w.frozen? ⟨g, 0, none⟩ = false ∧ w.frozen? ⟨g, 1, none⟩ = false :=
  ⟨cell_of_row _ _ 0 _ _ _ h, cell_of_row _ _ 1 _ _ _ h, frozen_of_row _ _ 0 _ _ h, frozen_of_row _ _ 1 _ _ h⟩
theorem NowAt.stored {w : World} {g : Nat} {x : Int × Int} (h : NowAt w g x) (a b : Int) : NowAt ((w.setCell ⟨g, 0, none⟩ (.int .i64 a)).setCell ⟨g, 1, none⟩ (.int .i64 b)) g (a, b) := by
  unfold NowAt at *
  have h0 := setRow_heap w g _ (#[.int .i64 x.1, .int .i64 x.2].setIfInBounds 0 (.int .i64 a)) _ _ h
  rw [← setCell_eq_setRow w g 0 _ _ _ _ h] at h0
  have h1 := setRow_heap _ g _ ((#[.int .i64 x.1, .int .i64 x.2].setIfInBounds 0 (.int .i64 a)).setIfInBounds 1 (.int .i64 b)) _ _ h0
  rw [← setCell_eq_setRow _ g 1 _ _ _ _ h0] at h1
  exact h1
theorem two_heap (w : World) (g : Nat) (u v : Value) (k : Nat) (h : k ≠ g) : ((w.setCell ⟨g, 0, none⟩ u).setCell ⟨g, 1, none⟩ v).heap[k]? = w.heap[k]? := by
  rw [Below.heap_setCell _ _ _ _ h, Below.heap_setCell _ _ _ _ h]

theorem sides_head {L : List (Int × Int)} {k : Nat} (h : k < L.length) : (sides (L.drop k)).getD 0 undef = sideV (L.getD k (0, 0)) ∧ (sides (L.drop k)).extract 1 (sides (L.drop k)).size = sides (L.drop (k + 1)) := by
  rw [List.drop_eq_getElem_cons h]
  constructor
  · simp [sides, h]
  · apply Array.toList_inj.1
    simp [sides]
    rw [List.take_of_length_le (by simp; omega)]

/-- Goals of which k have been received. -/
def RecvAt (w : World) (g : Nat) (L : List (Int × Int)) (k : Nat) : Prop := w.heap[g]? = some (.chan 60 (sides (L.drop k)) true L.length k false)
theorem RecvAt.keep {w w' : World} {g : Nat} {L : List (Int × Int)} {k : Nat} (h : RecvAt w g L k) (hb : Below w.heap.size w w') : RecvAt w' g L k := by
  unfold RecvAt at *; rw [hb.block _ (Array.getElem?_eq_some_iff.1 h).1]; exact h
theorem RecvAt.other {w w' : World} {g : Nat} {L : List (Int × Int)} {k : Nat} (h : RecvAt w g L k) (hb : w'.heap[g]? = w.heap[g]?) : RecvAt w' g L k := by unfold RecvAt at *; rw [hb]; exact h
theorem RecvAt.lt {w : World} {g : Nat} {L : List (Int × Int)} {k : Nat} (h : RecvAt w g L k) : g < w.heap.size := (Array.getElem?_eq_some_iff.1 h).1
theorem RecvAt.recv {w : World} {g : Nat} {L : List (Int × Int)} {k : Nat} (h : RecvAt w g L k) (hk : k < L.length) : RecvAt (w.setChan g 60 ((sides (L.drop k)).extract 1 (sides (L.drop k)).size) true L.length (k + 1) false) g L (k + 1) := by
  unfold RecvAt
  rw [heap_setChan _ _ _ _ _ _ _ _ h.lt, (sides_head hk).2]

/-- What is known at the loop's head. -/
def RunAt (w : World) (g n : Nat) (L : List (Int × Int)) (k : Nat) (v : Value) (wr : World) : Prop :=
  RecvAt wr g L k ∧ NowAt wr n (sumG (0, 0) (L.take k)) ∧ wr.ownsRow (n + 1) 62 2 v (k + 1) (prs (runG (0, 0) (L.take k))) ∧ Below w.heap.size w wr

/-- What scoresOf hands back. -/
def ScoresR (o : Option (List (Int × Int))) (w : World) (e : Ending) (w' : World) : Prop :=
  (∀ L, o = some L → ∃ v, e = .returned (.tuple #[v, .bool true]) ∧ w'.ownsRow w.heap.size 62 2 v (L.length + 1) (prs (scoresG L))) ∧ (o = none → e = .returned (.tuple #[.slice none 0 0, .bool false])) ∧ Below w.heap.size w w'

theorem owns_two (w : World) (e : TypeId) (x y : Value) : (w.alloc (.cells #[x, y] e)).ownsRow w.heap.size e 2 (.slice (some ⟨w.heap.size, 0, none⟩) 1 1) 1 [x, y] :=
  ⟨by simp, .inr ⟨w.heap.size, 1, #[x, y], rfl, Nat.le_refl _, heap_alloc_last w _, Nat.le_refl _, by decide, by simp, by simp⟩⟩
theorem owns_block {w : World} {base : Nat} {T : TypeId} {k n : Nat} {v : Value} {xs : List Value} (h : w.ownsRow base T k v n xs) : ∀ b, v.ownBlock = some b → base ≤ b := by
  intro b e
  obtain ⟨_, h | ⟨g', cap, cur, hv, hb', _⟩⟩ := h
  · rw [h.1] at e; cases e
  · rw [hv] at e; simp [Value.ownBlock] at e; omega

def lenV : Value → Nat
  | .slice _ n _ => n
  | _ => 0
theorem new_pair (w : World) (x y : Int) (t : TypeId) : ∀ j' u, ([.int .i64 x, .int .i64 y] : List Value)[j']? = some u → (w.alloc (.cells #[.int .i64 x, .int .i64 y] t)).cell? ((⟨w.heap.size, 0, none⟩ : Addr).add j') = some u := by
  intro j' u hu
  have e0 : j' < 2 := by have := (List.getElem?_eq_some_iff.1 hu).1; simpa using this
  rw [show (⟨w.heap.size, 0, none⟩ : Addr).add j' = ⟨w.heap.size, j', none⟩ by unfold Addr.add; split <;> simp_all, cell_of_row _ _ j' _ _ _ (heap_alloc_last w _)]
  simpa using hu
theorem row_grown2 {B : Nat} {w w2 w3 : World} {T : TypeId} {v : Value} {n : Nat} {xs : List Value} {o : Obj} (h : w2.ownsRow B T 2 v n xs) (hB : B ≤ w2.heap.size) {C : Nat} (hCB : C ≤ B) (hbel : Below C w w2) (hg : (w2.alloc o).grownBy w3 v.ownBlock) : Below C w w3 :=
  (hbel.alloc (by omega) _).grown hg (by simp; omega) (fun g hg => by have := owns_block h g hg; omega)

set_option maxHeartbeats 6400000 in
theorem scoresOf_any (ks : List Int) (game : ByteArray) (a : Option Addr) (c : Nat) (w : World) (hl : (ks.length : Int) ≤ 1000000000000) (hs : (game.size : Int) ≤ 1048576) (h : Reads w a (ints ks)) :
    Calls Try.prog 78 #[.slice a ks.length c, .string game] w fun e w' => ScoresR (playG ks game.data.toList) w e w' := by
  have HGO := Lib.hid (goalsOf_any ks game a c w hl hs h); clear h
  cases hp : playG ks game.data.toList with
  | none =>
    have HP := Lib.hid hp; clear hp
    go_enter Try.func78, Try.ntmps78
    go_wp2_with fail
    refine HGO.out.mono ?_; rintro e w1 ⟨-, hn, b1⟩
    obtain rfl := hn HP.out
    clear hn
    go_wp2_with fail
    refine bodyPost_ret (v := .tuple #[.slice none 0 0, .bool false]) (by simp [results, Try.results78, go_sem]) rfl ⟨fun L e => (by cases e), fun _ => rfl, b1⟩
  | some L =>
    have hL60 : L.length ≤ 60 := by
      have : gameG ks game.data.toList = some L := by
        unfold playG at hp; split at hp
        · exact hp
        · cases hp
      obtain ⟨h1, h2⟩ := gameG_some this
      rw [goalsG_len h2]; exact h1
    have hbd : ∀ x ∈ L, 0 ≤ x.1 ∧ x.1 ≤ 20 ∧ 0 ≤ x.2 ∧ x.2 ≤ 20 := by
      unfold playG at hp; split at hp
      · rename_i hg
        exact goalsG_bd (good_mem hg) (gameG_some hp).2
      · cases hp
    have HBD := Lib.hid hbd; clear hbd
    have HP := Lib.hid hp; clear hp
    obtain ⟨i0, hi, hz0, hz1, hz2⟩ := info_parts infoSide
    have HI := Lib.hid (And.intro hi (And.intro hz0 (And.intro hz1 hz2))); clear hi hz0 hz1 hz2
    go_enter Try.func78, Try.ntmps78
    go_wp2_with fail
    refine HGO.out.mono ?_; rintro e w1 ⟨hn, -, b1⟩
    obtain ⟨g, rfl, hgw, hsent⟩ := hn L HP.out
    have hz1 := b1.size
    have hA := NowAt.new w1 0 0
    have hA2 := hA.keep (below_new (w1.alloc (.cells #[.int .i64 0, .int .i64 0] 62)) (.cells #[.int .i64 0, .int .i64 0] 62))
    have hB2 := ((b1.alloc hz1 (.cells #[.int .i64 0, .int .i64 0] 62)).alloc (by simp; omega) (.cells #[.int .i64 0, .int .i64 0] 62))
    have hR2 : RecvAt ((w1.alloc (.cells #[.int .i64 0, .int .i64 0] 62)).alloc (.cells #[.int .i64 0, .int .i64 0] 62)) g L 0 := by
      have h1 := (hsent.keep (below_new w1 (.cells #[.int .i64 0, .int .i64 0] 62))).keep (below_new _ (.cells #[.int .i64 0, .int .i64 0] 62))
      exact h1
    have hO2 := owns_two (w1.alloc (.cells #[.int .i64 0, .int .i64 0] 62)) 62 (.int .i64 0) (.int .i64 0)
    rw [show (w1.alloc (.cells #[.int .i64 0, .int .i64 0] 62)).heap.size = w1.heap.size + 1 by simp] at hO2
    have H0 : Hid (RunAt w g w1.heap.size L 0 (.slice (some ⟨w1.heap.size + 1, 0, none⟩) 1 1) ((w1.alloc (.cells #[.int .i64 0, .int .i64 0] 62)).alloc (.cells #[.int .i64 0, .int .i64 0] 62))) := ⟨hR2, hA2, hO2, hB2⟩
    have HGW := Lib.hid (And.intro hgw (And.intro hsent.lt hz1))
    obtain ⟨r0, r1⟩ := two_new w1 (.int .i64 0) (.int .i64 0) 62
    clear hA hA2 hB2 hR2 hO2 hsent b1 hn
    go_wp2_with fail
    generalize ((w1.alloc (.cells #[.int .i64 0, .int .i64 0] 62)).alloc (.cells #[.int .i64 0, .int .i64 0] 62)) = W0 at *
    clear r0 r1 hz1 hgw
    generalize w1.heap.size = n at *
    go_loopw [9] (fun v wr => ∃ (k : Nat) (vv : Value), vv = v ∧ k ≤ L.length ∧ lenV vv = k + 1 ∧ Hid (RunAt w g n L k vv wr)) (fun v _ => L.length + 1 - lenV v)
    case atStart => exact ⟨0, _, rfl, by omega, rfl, H0⟩
    case round =>
      clear H0
      obtain ⟨k, vv, hvv, hkl, hlv, hR⟩ := hrel
      subst hvv
      generalize hR7 : Code.region 7 _ false = R7
      generalize hR9 : Code.region 9 _ false = R9
      go_wp2_with fail
      subst hR7
      refine RegK.region ?_
      change RegK _ _ _ [0, 1] _ _
      have hrc : wr.heap[g]? = some (.chan 60 (sides (L.drop k)) true L.length k false) := hR.out.1
      by_cases hlt : k < L.length
      · have hh := sides_head hlt
        refine RegK.recv_buf (ok := true) (c := g) (cap := 60) (buf := sides (L.drop k)) (s := L.length) (r := k) (tm := false) (closed := true) (z := .agg #[.int .i64 0, .int .i64 0]) rfl (by kernel_rfl) (by simp [go_sem, execOp, rcase, Act.eval]) hrc (by rw [sides_size, List.length_drop]; omega) ?_
        have hx := HBD.out (L.getD k (0, 0)) (by simp [hlt])
        have hsb := sumG_bd (n := 0) (0, 0) (L.take k) (fun x hx => HBD.out x (List.mem_of_mem_take hx)) (by simp) (by simp) (by simp) (by simp)
        rw [show (L.take k).length = k by rw [List.length_take]; omega] at hsb
        have htk : L.take (k + 1) = L.take k ++ [L.getD k (0, 0)] := by rw [List.take_succ_eq_append_getElem hlt]; simp [hlt]
        have hsu : sumG (0, 0) (L.take (k + 1)) = ((sumG (0, 0) (L.take k)).1 + (L.getD k (0, 0)).1, (sumG (0, 0) (L.take k)).2 + (L.getD k (0, 0)).2) := by rw [htk, sumG_snoc]
        have hru : runG (0, 0) (L.take (k + 1)) = runG (0, 0) (L.take k) ++ [((sumG (0, 0) (L.take k)).1 + (L.getD k (0, 0)).1, (sumG (0, 0) (L.take k)).2 + (L.getD k (0, 0)).2)] := by rw [htk, runG_snoc]
        rw [hh.1]
        have r1 := RecvAt.recv hR.out.1 hlt
        have n1 : NowAt (wr.setChan g 60 ((sides (L.drop k)).extract 1 (sides (L.drop k)).size) true L.length (k + 1) false) n (sumG (0, 0) (L.take k)) :=
          hR.out.2.1.other (by simp only [World.setChan]; rw [Array.getElem?_setIfInBounds_ne (by have := HGW.out.2.1; omega)])
        have o1 : (wr.setChan g 60 ((sides (L.drop k)).extract 1 (sides (L.drop k)).size) true L.length (k + 1) false).ownsRow (n + 1) 62 2 vv (k + 1) (prs (runG (0, 0) (L.take k))) :=
          owns_heap hR.out.2.2.1 (fun b e => by simp only [World.setChan]; rw [Array.getElem?_setIfInBounds_ne (by have := HGW.out.2.1; have := owns_block hR.out.2.2.1 b e; omega)])
        have b1 : Below w.heap.size w (wr.setChan g 60 ((sides (L.drop k)).extract 1 (sides (L.drop k)).size) true L.length (k + 1) false) := below_setChan hR.out.2.2.2 HGW.out.1 _ _ _ _ _ _
        generalize wr.setChan g 60 ((sides (L.drop k)).extract 1 (sides (L.drop k)).size) true L.length (k + 1) false = W1 at *
        clear hrc hh htk hR
        have HSU := Lib.hid (And.intro hsu hru); clear hsu hru
        generalize sumG (0, 0) (L.take k) = s at *
        generalize L.getD k (0, 0) = x at *
        generalize runG (0, 0) (L.take k) = ru at *
        obtain ⟨s1, s2⟩ := s
        obtain ⟨x1, x2⟩ := x
        simp only at hx hsb HSU
        change RegK _ _ _ _ (Act.put _ _ (.tuple #[.agg #[.int .i64 x1, .int .i64 x2], .bool true])) _
        (try simp only [List.getElem_toArray, List.getElem_cons_succ, List.getElem_cons_zero, Act.put, List.setIfInBounds_toArray, List.set_cons_zero, List.set_cons_succ])
        refine RegK.pure (v := .bool true) rfl (by kernel_rfl) (by simp [go_sem, execOp, Act.eval]) ?_
        (try simp only [List.getElem_toArray, List.getElem_cons_succ, List.getElem_cons_zero, Act.put, List.setIfInBounds_toArray, List.set_cons_zero, List.set_cons_succ])
        refine RegK.end ?_
        go_wp2_with fail
        subst hR9
        -- the new pair, the sums, the row
        have n2 := n1.keep (below_new W1 (.cells #[.int .i64 x1, .int .i64 x2] 62))
        obtain ⟨p0, p1⟩ := two_new W1 (.int .i64 x1) (.int .i64 x2) 62
        have hnW := n1.lt
        have o2 := o1.alloc (.cells #[.int .i64 x1, .int .i64 x2] 62)
        have r2 := r1.keep (below_new W1 (.cells #[.int .i64 x1, .int .i64 x2] 62))
        have b2 := b1.alloc b1.size (.cells #[.int .i64 x1, .int .i64 x2] 62)
        clear n1 o1 r1 b1
        generalize W1.alloc (.cells #[.int .i64 x1, .int .i64 x2] 62) = W2 at *
        generalize W1.heap.size = pn at *
        obtain ⟨c0, c1, f0, f1⟩ := n2.cells
        have n3 := n2.stored (s1 + x1) (s2 + x2)
        have o3 : ((W2.setCell ⟨n, 0, none⟩ (.int .i64 (s1 + x1))).setCell ⟨n, 1, none⟩ (.int .i64 (s2 + x2))).ownsRow (n + 1) 62 2 vv (k + 1) (prs ru) :=
          owns_heap o2 (fun b e => two_heap _ _ _ _ _ (by have := owns_block o2 b e; omega))
        have r3 := r2.other (two_heap _ n (.int .i64 (s1 + x1)) (.int .i64 (s2 + x2)) g (by have := HGW.out.2.1; omega))
        have b3 : Below w.heap.size w ((W2.setCell ⟨n, 0, none⟩ (.int .i64 (s1 + x1))).setCell ⟨n, 1, none⟩ (.int .i64 (s2 + x2))) :=
          (b2.setCell (p := ⟨n, 0, none⟩) HGW.out.2.2 _).setCell (p := ⟨n, 1, none⟩) HGW.out.2.2 _
        have H3 := Lib.hid (And.intro r3 (And.intro n3 (And.intro o3 b3)))
        have hsz : ((W2.setCell ⟨n, 0, none⟩ (.int .i64 (s1 + x1))).setCell ⟨n, 1, none⟩ (.int .i64 (s2 + x2))).heap.size = W2.heap.size := by simp
        have hnp := (new_pair ((W2.setCell ⟨n, 0, none⟩ (.int .i64 (s1 + x1))).setCell ⟨n, 1, none⟩ (.int .i64 (s2 + x2))) (s1 + x1) (s2 + x2) 62)
        rw [hsz] at hnp
        have HN := Lib.hid hnp; clear hnp
        have hn3 : n + 1 ≤ ((W2.setCell ⟨n, 0, none⟩ (.int .i64 (s1 + x1))).setCell ⟨n, 1, none⟩ (.int .i64 (s2 + x2))).heap.size := by have := n3.lt; omega
        obtain ⟨d0, d1, -, -⟩ := n3.cells
        clear n2 n3 o2 o3 r2 r3 b2 b3
        simp only at c0 c1 d0 d1
        rw [hsz] at hn3
        have hW2 : n < W2.heap.size := by omega
        clear hsz
        go_wp2_with (at_builtin; refine wpList_append_own_at _ rfl _ _ 58 rfl (n + 1) 62 i0 (.agg #[.int .i64 0, .int .i64 0]) 2 16 Try.underlying58 HI.out.1 HI.out.2.1 HI.out.2.2.1 HI.out.2.2.2 rfl (by decide) _ _ _ rfl (H3.out.2.2.1.alloc _) ⟨W2.heap.size, 0, none⟩ 1 1 [.int .i64 (s1 + x1), .int .i64 (s2 + x2)] rfl rfl HN.out ?_ ?_ ?_ ?_ ?_)
        · intro u hu; simp at hu; rcases hu with rfl | rfl <;> rfl
        · unfold maxLen; omega
        · omega
        · simp; omega
        intro v' w5 hown5 hgrow _ _
        have hb5 := row_grown2 H3.out.2.2.1 (by simp; omega) (by have := HGW.out.2.2; omega) H3.out.2.2.2 hgrow
        have hgr : ∀ q, q ≤ n → w5.heap[q]? = ((W2.setCell ⟨n, 0, none⟩ (.int .i64 (s1 + x1))).setCell ⟨n, 1, none⟩ (.int .i64 (s2 + x2))).heap[q]? := fun q hq => by
          rw [hgrow.block q (by simp; omega) (fun e => by have := owns_block H3.out.2.2.1 q e.symm; omega)]
          rw [Below.heap_alloc _ _ _ (by simp; omega)]
        have n5 := H3.out.2.1.other (hgr n (Nat.le_refl _))
        have r5 := H3.out.1.other (hgr g (by have := HGW.out.2.1; omega))
        have H5 : Hid (RunAt w g n L (k + 1) v' w5) := ⟨r5, by rw [HSU.out.1]; exact n5, by rw [HSU.out.2, prs_append]; exact hown5, hb5⟩
        obtain ⟨a5, c5, rfl, -⟩ := own_cap hown5
        clear hown5 hgrow hb5 hgr n5 r5 H3 HN
        go_wp2_with fail
        go_roundw
        case rel => exact ⟨k + 1, _, rfl, by omega, rfl, H5⟩
        case measure => simp [lenV] at hlv ⊢; omega
      · obtain rfl : k = L.length := by omega
        rw [show sides (L.drop L.length) = #[] by rw [List.drop_length]; rfl] at hrc
        refine RegK.recv_shut (ok := true) (c := g) (cap := 60) (s := L.length) (r := L.length) (tm := false) (z := .agg #[.int .i64 0, .int .i64 0]) rfl (by kernel_rfl) (by simp [go_sem, execOp, rcase, Act.eval]) hrc ?_
        have hrow : wr.ownsRow w.heap.size 62 2 vv (L.length + 1) (prs (scoresG L)) := by
          have := owns_base hR.out.2.2.1 (B := w.heap.size) (by have := HGW.out.2.2; omega)
          rwa [List.take_length] at this
        have HE := Lib.hid (And.intro hrow hR.out.2.2.2); clear hrow hR hrc
        change RegK _ _ _ _ (Act.put _ _ (.tuple #[.agg #[.int .i64 0, .int .i64 0], .bool false])) _
        (try simp only [List.getElem_toArray, List.getElem_cons_succ, List.getElem_cons_zero, Act.put, List.setIfInBounds_toArray, List.set_cons_zero, List.set_cons_succ])
        refine RegK.pure (v := .bool false) rfl (by kernel_rfl) (by simp [go_sem, execOp, Act.eval]) ?_
        (try simp only [List.getElem_toArray, List.getElem_cons_succ, List.getElem_cons_zero, Act.put, List.setIfInBounds_toArray, List.set_cons_zero, List.set_cons_succ])
        refine RegK.end ?_
        subst hR9
        go_wp2_with fail
        refine bodyPost_ret (v := .tuple #[vv, .bool true]) (by simp [results, Try.results78, go_sem]) rfl ⟨fun M e => (by cases e; exact ⟨vv, rfl, HE.out.1⟩), fun e => (by cases e), HE.out.2⟩
end Go.Proofs.Ythbhhcpkilckkaa
