/-
  Leagues as lists of results: what is a league, the games of a team, points. Plain facts.
-/
import Derived.Test.YtgkkjlpfkoplhaaGreatDoorBase
namespace Go.Proofs.YtgkkjlpfkoplhaaGreatDoor.Lg

/-- Home, Away, HomeGoals, AwayGoals. -/
abbrev Rs := Int × Int × Int × Int
abbrev zR : Rs := (0, 0, 0, 0)
def inR (n a b : Int) : Bool := decide (a ≤ n) && decide (n ≤ b)
def pairR (r : Rs) (h a : Int) : Bool := decide (r.1 = h) && decide (r.2.1 = a)
def hasG (l : List Rs) (h a : Int) : Bool := l.any fun r => pairR r h a
def goodR (t : Int) (r : Rs) : Bool := inR r.1 0 (t - 1) && (inR r.2.1 0 (t - 1) && (decide (r.1 ≠ r.2.1) && (inR r.2.2.1 0 20 && inR r.2.2.2 0 20)))
def okAt (t : Int) (l : List Rs) (i : Nat) : Bool := goodR t (l.getD i zR) && !hasG (l.take i) (l.getD i zR).1 (l.getD i zR).2.1
def okTo (t : Int) (l : List Rs) (k : Nat) : Bool := (List.range k).all fun i => okAt t l i
def headL (t wn : Int) (n : Nat) : Bool := inR t 2 8 && (inR wn 2 3 && decide ((n : Int) ≤ 56))
def goodL (t wn : Int) (l : List Rs) : Bool := headL t wn l.length && okTo t l l.length

theorem okTo_zero (t : Int) (l : List Rs) : okTo t l 0 = true := rfl
theorem okTo_succ (t : Int) (l : List Rs) (k : Nat) : okTo t l (k + 1) = (okTo t l k && okAt t l k) := by
  simp [okTo, List.range_succ]
theorem okTo_not {t : Int} {l : List Rs} {k n : Nat} (h : k < n) (e : okAt t l k = false) : okTo t l n = false := by
  cases hh : okTo t l n with
  | false => rfl
  | true => rw [okTo, List.all_eq_true] at hh; rw [hh k (List.mem_range.2 h)] at e; cases e
theorem goodL_not {t wn : Int} {l : List Rs} {k : Nat} (h : k < l.length) (e : okAt t l k = false) : goodL t wn l = false := by
  simp [goodL, okTo_not h e]
theorem goodL_head {t wn : Int} {l : List Rs} (h : headL t wn l.length = false) : goodL t wn l = false := by simp [goodL, h]
theorem goodL_of {t wn : Int} {l : List Rs} (h : headL t wn l.length = true) (e : okTo t l l.length = true) : goodL t wn l = true := by simp [goodL, h, e]

theorem goodL_bd {t wn : Int} {l : List Rs} (h : goodL t wn l = true) : 2 ≤ t ∧ t ≤ 8 ∧ 2 ≤ wn ∧ wn ≤ 3 ∧ l.length ≤ 56 := by
  simp [goodL, headL, inR] at h
  omega
theorem goodL_ok {t wn : Int} {l : List Rs} (h : goodL t wn l = true) (k : Nat) (hk : k < l.length) : okAt t l k = true := by
  simp only [goodL, Bool.and_eq_true, okTo, List.all_eq_true] at h
  exact h.2 k (List.mem_range.2 hk)
theorem goodL_get {t wn : Int} {l : List Rs} (h : goodL t wn l = true) (k : Nat) (hk : k < l.length) : goodR t (l.getD k zR) = true := by
  have := goodL_ok h k hk
  simp only [okAt, Bool.and_eq_true] at this
  exact this.1
theorem goodR_bd {t : Int} {r : Rs} (h : goodR t r = true) : (0 ≤ r.1 ∧ r.1 < t) ∧ (0 ≤ r.2.1 ∧ r.2.1 < t) ∧ r.1 ≠ r.2.1 ∧ (0 ≤ r.2.2.1 ∧ r.2.2.1 ≤ 20) ∧ (0 ≤ r.2.2.2 ∧ r.2.2.2 ≤ 20) := by
  simp [goodR, inR] at h
  obtain ⟨⟨h1, h2⟩, ⟨h3, h4⟩, h5, ⟨h6, h7⟩, h8, h9⟩ := h
  exact ⟨⟨h1, by omega⟩, ⟨h3, by omega⟩, h5, ⟨h6, h7⟩, ⟨h8, h9⟩⟩

theorem take_snoc {α : Type} (z : α) (l : List α) (k : Nat) (h : k < l.length) : l.take (k + 1) = l.take k ++ [l.getD k z] := by
  rw [List.take_succ_eq_append_getElem h]; simp [h]
theorem hasG_snoc (l : List Rs) (k : Nat) (hk : k < l.length) (h a : Int) : hasG (l.take (k + 1)) h a = (hasG (l.take k) h a || pairR (l.getD k zR) h a) := by
  rw [take_snoc zR l k hk]; simp [hasG]
theorem hasG_hit {l : List Rs} {k n : Nat} (hk : k < l.length) (hn : k < n) {h a : Int} (e : pairR (l.getD k zR) h a = true) : hasG (l.take n) h a = true := by
  simp only [hasG, List.any_eq_true]
  refine ⟨l[k], ?_, by simpa [hk] using e⟩
  rw [List.mem_take_iff_getElem]
  exact ⟨k, by omega, rfl⟩

/-- A game as a team has played it: the other team, the goals, the goals against. -/
abbrev Gm := Int × Int × Int
abbrev zG : Gm := (0, 0, 0)
def ownG (team : Int) (r : Rs) : Option Gm := if team = r.1 then some (r.2.1, r.2.2.1, r.2.2.2) else if team = r.2.1 then some (r.1, r.2.2.2, r.2.2.1) else none
def gamesL (l : List Rs) (team : Int) : List Gm := l.filterMap (ownG team)
theorem gamesL_snoc (l : List Rs) (team : Int) (k : Nat) (hk : k < l.length) : gamesL (l.take (k + 1)) team = gamesL (l.take k) team ++ (ownG team (l.getD k zR)).toList := by
  rw [take_snoc zR l k hk]
  simp only [gamesL, List.filterMap_append, List.filterMap_cons, List.filterMap_nil]
  cases ownG team (l.getD k zR) <;> rfl
theorem gamesL_len (l : List Rs) (team : Int) : (gamesL l team).length ≤ l.length := List.length_filterMap_le _ _
theorem gamesL_take_len (l : List Rs) (team : Int) (k : Nat) : (gamesL (l.take k) team).length ≤ k := by
  have := gamesL_len (l.take k) team; rw [List.length_take] at this; omega

def goodG (t : Int) (g : Gm) : Prop := (0 ≤ g.1 ∧ g.1 < t) ∧ (0 ≤ g.2.1 ∧ g.2.1 ≤ 20) ∧ (0 ≤ g.2.2 ∧ g.2.2 ≤ 20)
theorem ownG_good {t team : Int} {r : Rs} (h : goodR t r = true) {g : Gm} (e : ownG team r = some g) : goodG t g := by
  obtain ⟨h1, h2, -, h3, h4⟩ := goodR_bd h
  unfold ownG at e
  split at e
  · cases e; exact ⟨h2, h3, h4⟩
  · split at e
    · cases e; exact ⟨h1, h4, h3⟩
    · cases e
theorem gamesL_good {t wn : Int} {l : List Rs} (h : goodL t wn l = true) (team : Int) (g : Gm) (hg : g ∈ gamesL l team) : goodG t g := by
  simp only [gamesL, List.mem_filterMap] at hg
  obtain ⟨r, hr, e⟩ := hg
  obtain ⟨k, hk, rfl⟩ := List.getElem_of_mem hr
  have := goodL_get h k hk
  simp [hk] at this
  exact ownG_good this e
theorem gamesL_getD {t wn : Int} {l : List Rs} (h : goodL t wn l = true) (team : Int) (j : Nat) (hj : j < (gamesL l team).length) : goodG t ((gamesL l team).getD j zG) := by
  have := gamesL_good h team ((gamesL l team)[j]) (List.getElem_mem hj)
  simpa [hj] using this

def ptsG (wn : Int) (g : Gm) : Int := if g.2.1 > g.2.2 then wn else if g.2.1 < g.2.2 then 0 else 1
def ptsL (wn : Int) (gs : List Gm) : Int := (gs.map (ptsG wn)).sum
def forL (gs : List Gm) : Int := (gs.map fun g => g.2.1).sum
def agL (gs : List Gm) : Int := (gs.map fun g => g.2.2).sum
def wonL (gs : List Gm) : Int := ((gs.countP fun g => decide (g.2.1 > g.2.2)) : Nat)
def lostL (gs : List Gm) : Int := ((gs.countP fun g => decide (g.2.1 < g.2.2)) : Nat)
def drawL (gs : List Gm) : Int := ((gs.countP fun g => decide (g.2.1 = g.2.2)) : Nat)
/-- the longest run, the run under way -/
def unbS (s : Int × Int) (g : Gm) : Int × Int := (max s.1 (if g.2.1 < g.2.2 then 0 else s.2 + 1), if g.2.1 < g.2.2 then 0 else s.2 + 1)
def unbL (gs : List Gm) : Int × Int := gs.foldl unbS (0, 0)

theorem ptsL_snoc (wn : Int) (gs : List Gm) (g : Gm) : ptsL wn (gs ++ [g]) = ptsL wn gs + ptsG wn g := by simp [ptsL]
theorem forL_snoc (gs : List Gm) (g : Gm) : forL (gs ++ [g]) = forL gs + g.2.1 := by simp [forL]
theorem agL_snoc (gs : List Gm) (g : Gm) : agL (gs ++ [g]) = agL gs + g.2.2 := by simp [agL]
theorem wonL_snoc (gs : List Gm) (g : Gm) : wonL (gs ++ [g]) = wonL gs + (if g.2.1 > g.2.2 then 1 else 0) := by
  simp only [wonL, List.countP_append, List.countP_cons, List.countP_nil, decide_eq_true_eq]; split <;> simp
theorem lostL_snoc (gs : List Gm) (g : Gm) : lostL (gs ++ [g]) = lostL gs + (if g.2.1 < g.2.2 then 1 else 0) := by
  simp only [lostL, List.countP_append, List.countP_cons, List.countP_nil, decide_eq_true_eq]; split <;> simp
theorem drawL_snoc (gs : List Gm) (g : Gm) : drawL (gs ++ [g]) = drawL gs + (if g.2.1 = g.2.2 then 1 else 0) := by
  simp only [drawL, List.countP_append, List.countP_cons, List.countP_nil, decide_eq_true_eq]; split <;> simp
theorem unbL_snoc (gs : List Gm) (g : Gm) : unbL (gs ++ [g]) = unbS (unbL gs) g := by simp [unbL, List.foldl_append]
theorem wonL_bd (gs : List Gm) : 0 ≤ wonL gs ∧ wonL gs ≤ gs.length := by
  unfold wonL; have := List.countP_le_length (p := fun g : Gm => decide (g.2.1 > g.2.2)) (l := gs); omega
theorem lostL_bd (gs : List Gm) : 0 ≤ lostL gs ∧ lostL gs ≤ gs.length := by
  unfold lostL; have := List.countP_le_length (p := fun g : Gm => decide (g.2.1 < g.2.2)) (l := gs); omega
theorem drawL_bd (gs : List Gm) : 0 ≤ drawL gs ∧ drawL gs ≤ gs.length := by
  unfold drawL; have := List.countP_le_length (p := fun g : Gm => decide (g.2.1 = g.2.2)) (l := gs); omega
theorem ptsG_bd {wn : Int} (h : 2 ≤ wn ∧ wn ≤ 3) (g : Gm) : 0 ≤ ptsG wn g ∧ ptsG wn g ≤ 3 := by unfold ptsG; split <;> (try split) <;> omega
theorem ptsL_bd {wn : Int} (h : 2 ≤ wn ∧ wn ≤ 3) : ∀ gs : List Gm, 0 ≤ ptsL wn gs ∧ ptsL wn gs ≤ 3 * gs.length
  | [] => by simp [ptsL]
  | g :: gs => by
    have h1 := ptsL_bd h gs
    have h2 := ptsG_bd h g
    simp only [ptsL, List.map_cons, List.sum_cons, List.length_cons] at *
    omega
theorem unbS_bd {s : Int × Int} {n : Int} (h : 0 ≤ s.1 ∧ s.1 ≤ n ∧ 0 ≤ s.2 ∧ s.2 ≤ n) (g : Gm) : 0 ≤ (unbS s g).1 ∧ (unbS s g).1 ≤ n + 1 ∧ 0 ≤ (unbS s g).2 ∧ (unbS s g).2 ≤ n + 1 := by
  simp only [unbS]; split <;> omega
theorem unbF_bd : ∀ (gs : List Gm) (s : Int × Int) (n : Int), (0 ≤ s.1 ∧ s.1 ≤ n ∧ 0 ≤ s.2 ∧ s.2 ≤ n) → 0 ≤ (gs.foldl unbS s).1 ∧ (gs.foldl unbS s).1 ≤ n + gs.length ∧ 0 ≤ (gs.foldl unbS s).2 ∧ (gs.foldl unbS s).2 ≤ n + gs.length
  | [], s, n, h => by simpa using h
  | g :: gs, s, n, h => by
    have := unbF_bd gs (unbS s g) (n + 1) (unbS_bd h g)
    simp only [List.foldl_cons, List.length_cons]
    omega
theorem unbL_bd (gs : List Gm) : 0 ≤ (unbL gs).1 ∧ (unbL gs).1 ≤ gs.length ∧ 0 ≤ (unbL gs).2 ∧ (unbL gs).2 ≤ gs.length := by
  have := unbF_bd gs (0, 0) 0 (by simp)
  simpa [unbL] using this

end Go.Proofs.YtgkkjlpfkoplhaaGreatDoor.Lg
