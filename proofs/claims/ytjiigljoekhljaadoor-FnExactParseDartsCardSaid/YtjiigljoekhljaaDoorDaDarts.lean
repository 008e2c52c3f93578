/-
  The model reads darts out of a text.
-/
import Derived.Test.YtjiigljoekhljaaDoorWkParseDart
import Derived.Test.YtjiigljoekhljaaDoorDaSplit
namespace Go.Proofs.YtjiigljoekhljaaDoor
open Go.RowKit
open ExParseDart
set_option linter.unusedVariables false

theorem cut_size (s : ByteArray) (b : UInt8) : ∀ n f, ∀ p ∈ cutS s b n f, p.size ≤ s.size
  | 0, f, p, hp => by
    simp only [cutS, List.mem_singleton] at hp; subst hp; rw [ByteArray.size_extract]; omega
  | n + 1, f, p, hp => by
    unfold cutS at hp
    split at hp
    · rcases List.mem_cons.1 hp with rfl | h
      · rw [ByteArray.size_extract]; omega
      · exact cut_size s b n _ p h
    · exact cut_size s b n _ p hp
theorem cut_len (s : ByteArray) (b : UInt8) : ∀ n f, (cutS s b n f).length ≤ n + 1
  | 0, f => by simp [cutS]
  | n + 1, f => by
    unfold cutS
    split
    · have := cut_len s b n (s.size - (n + 1) + 1); simp; omega
    · have := cut_len s b n f; omega

def allOf : List ByteArray → Option (List (Int × Int))
  | [] => some []
  | p :: r => if okL p.data.toList then (allOf r).map (srcD p.data.toList :: ·) else none
def dartsOf (s : ByteArray) : Option (List (Int × Int)) := if 9 < (cutS s 45 s.size 0).length then none else allOf (cutS s 45 s.size 0)
def GotD (w : World) (o : Option (List (Int × Int))) (e : Ending) (w' : World) : Prop :=
  Below w.heap.size w w' ∧ match o with
    | none => e = .returned (.tuple #[.slice none 0 0, .bool false])
    | some l => ∃ v, e = .returned (.tuple #[v, .bool true]) ∧ w'.ownsRow w.heap.size 69 2 v l.length (darts l)
theorem owns_mono {B C : Nat} {e : TypeId} {k : Nat} {v : Value} {n : Nat} {xs : List Value} {w : World} (h : w.ownsRow B e k v n xs) (hb : C ≤ B) : w.ownsRow C e k v n xs := by
  obtain ⟨h1, h2⟩ := h
  refine ⟨h1, ?_⟩
  rcases h2 with h2 | ⟨g, cap, cur, hv, hg, hh, r⟩
  · exact Or.inl h2
  · exact Or.inr ⟨g, cap, cur, hv, Nat.le_trans hb hg, hh, r⟩
def DsAt (ps : List ByteArray) (w1 : World) (k : Nat) (v : Value) (wr : World) : Prop :=
  ∃ xs : List (Int × Int), xs.length = k ∧ allOf ps = (allOf (ps.drop k)).map (xs ++ ·) ∧ wr.ownsRow w1.heap.size 69 2 v xs.length (darts xs) ∧ Below w1.heap.size w1 wr

set_option maxHeartbeats 3200000 in
set_option maxRecDepth 100000 in
theorem specDarts_any (s : ByteArray) (hz : (s.size : Int) ≤ 1048576) (w : World) :
    Calls Tryd.prog 17 #[.string s] w fun e w' => GotD w (dartsOf s) e w' := by
  have hsp := fun w => l1Split_any s 45 hz w
  rw [show (((45 : UInt8).toNat : Nat) : Int) = 45 from rfl] at hsp
  have hps := cut_size s 45 s.size 0
  have hpl := cut_len s 45 s.size 0
  have hd : dartsOf s = if 9 < (cutS s 45 s.size 0).length then none else allOf (cutS s 45 s.size 0) := rfl
  rw [hd]; clear hd
  generalize cutS s 45 s.size 0 = ps at *
  have HSP := Lib.hid hsp; clear hsp
  have hdp : ∀ p ∈ ps, ExParseDart.Ends p := fun p hp => daParse_any p (by have := hps p hp; omega)
  clear hps
  have hlb : (ps.length : Int) ≤ 1048577 := by omega
  clear hpl
  have HDP := Lib.hid hdp; clear hdp
  obtain ⟨i0, hi, hz0, hz1, hz2⟩ := info_parts infoD
  have HI := Lib.hid (And.intro hi (And.intro hz0 (And.intro hz1 hz2))); clear hi hz0 hz1 hz2
  by_cases h9 : (9 : Int) < (ps.length : Int)
  · rw [if_pos (by omega)]
    go_enter Tryd.func17, Tryd.ntmps17
    go_wp2_with fail
    refine (HSP.out _).mono ?_; rintro e w1 ⟨v, rfl, hown, hbel⟩
    obtain ⟨a, c, rfl, hrd, -, -, -⟩ := Reads.own hown
    clear hown
    have HB := Lib.hid hbel; clear hbel
    have HR := Lib.hid hrd; clear hrd
    go_wp2_with fail
    refine bodyPost_ret (v := .tuple #[.slice none 0 0, .bool false]) (by simp [results, Tryd.results17, go_sem]) rfl ⟨HB.out, rfl⟩
  · rw [if_neg (by omega)]
    go_enter Tryd.func17, Tryd.ntmps17
    go_wp2_with fail
    refine (HSP.out _).mono ?_; rintro e w1 ⟨v, rfl, hown, hbel⟩
    obtain ⟨a, c, rfl, hrd, -, -, -⟩ := Reads.own hown
    clear hown
    have HB := Lib.hid hbel; clear hbel
    have HR := Lib.hid hrd; clear hrd
    have h0 : DsAt ps w1 0 (.slice none 0 0) w1 := ⟨[], rfl, by rw [List.drop_zero]; simp, ⟨rfl, .inl ⟨rfl, rfl⟩⟩, Below.refl _ _⟩
    have H0 := Lib.hid h0; clear h0
    go_wp2_with fail
    go_loopw [5, 17] (fun v i wr => ∃ k : Nat, i = .int .i64 k ∧ k ≤ ps.length ∧ Hid (DsAt ps w1 k v wr)) (fun _ i _ => ps.length - (intOf i).toNat)
    case atStart => exact ⟨0, rfl, Nat.zero_le _, H0⟩
    case round =>
      clear H0
      obtain ⟨k, rfl, hk, hH⟩ := hrel
      by_cases hlt : k < ps.length
      · have hb : (k : Int) < (ps.length : Int) := by omega
        obtain ⟨xs, hxl, hal, hown, hbel⟩ := hH.out
        rcases HR.out.old hbel with hr | ⟨b, off, rfl, hlb2, hc⟩
        · have := congrArg List.length hr; simp [strS] at this; rw [this] at hlt; simp at hlt
        have hdrop : ps.drop k = ps[k] :: ps.drop (k + 1) := List.drop_eq_getElem_cons hlt
        have c0 := hc k (by simp [strS]; omega)
        rw [show (strS ps)[k]? = some (.string ps[k]) from by simp [strS, hlt]] at c0
        clear hc
        rw [hdrop] at hal
        obtain ⟨x, t, hv, hcl⟩ := HDP.out ps[k] (List.getElem_mem hlt)
        clear hH hdrop
        generalize ps[k] = p at *
        have hbase := hbel.size
        cases hok : okL p.data.toList
        · have hal : allOf ps = none := by rw [hal, allOf, if_neg (by rw [hok]; simp)]; rfl
          rw [hok] at hcl
          have HC := Lib.hid hcl; clear hcl
          have HH := Lib.hid (And.intro hal hbel); clear hal hown hbel hv hok
          go_wp2_with fail
          refine (HC.out _).mono ?_; rintro e w2 ⟨rfl, b2⟩
          have hbW : Below w.heap.size w w2 := HB.out.trans ((HH.out.2.trans (b2.mono hbase)).mono HB.out.size)
          have HW := Lib.hid hbW; clear hbW b2
          go_wp2_with fail
          refine bodyPost_ret (v := .tuple #[.slice none 0 0, .bool false]) (by simp [results, Tryd.results17, go_sem]) rfl ⟨HW.out.alloc HW.out.size _, ?_⟩
          rw [HH.out.1]
        · rw [allOf, if_pos hok] at hal
          rw [← hv hok] at hal
          rw [hok] at hcl
          have HC := Lib.hid hcl; clear hcl
          have HH := Lib.hid (And.intro hal (And.intro hown hbel)); clear hal hown hbel hv hok
          have hxn : xs.length ≤ 1048577 := by omega
          go_wp2_with fail
          refine (HC.out _).mono ?_; rintro e w2 ⟨rfl, b2⟩
          have hown2 := owns_below HH.out.2.1 b2
          have hbel2 := HH.out.2.2.trans (b2.mono hbase)
          have hb2 := hbel2.size
          have hsz : (w2.alloc (.cells #[.int .i64 x, .int .i64 t] 69)).heap.size = w2.heap.size + 1 := by simp
          have hcells := cell_two_new (w2.alloc (.cells #[.int .i64 x, .int .i64 t] 69)) (.int .i64 x) (.int .i64 t) 69
          rw [hsz] at hcells
          have HCL := Lib.hid hcells; clear hcells hsz
          have H2 := Lib.hid (And.intro hown2 hbel2); clear hown2 hbel2 b2
          go_wp2_with (at_builtin; refine wpList_append_own_at _ rfl _ _ 32 rfl w1.heap.size 69 i0 (.agg #[.int .i64 0, .int .i64 0]) 2 16 Tryd.underlying32 HI.out.1 HI.out.2.1 HI.out.2.2.1 HI.out.2.2.2 rfl (by decide) _ _ _ rfl ((H2.out.1.alloc _).alloc _) ⟨w2.heap.size + 1, 0, none⟩ 1 1 [.int .i64 x, .int .i64 t] rfl rfl HCL.out ?_ ?_ ?_ ?_ ?_)
          · intro u hu; simp at hu; rcases hu with rfl | rfl <;> rfl
          · unfold maxLen; omega
          · omega
          · simp; omega
          intro v' w3 hown3 hgrow _ _
          have hbel3 : Below w1.heap.size w1 w3 := ((H2.out.2.alloc H2.out.2.size _).alloc (by simp; omega) _).grown hgrow (by simp; omega) (fun g hg => by
            obtain ⟨_, h | ⟨g', cap, cur, hv, hb', _⟩⟩ := H2.out.1
            · rw [h.1] at hg; cases hg
            · rw [hv] at hg; simp [Value.ownBlock] at hg; omega)
          have hown4 : w3.ownsRow w1.heap.size 69 2 v' (xs ++ [(x, t)]).length (darts (xs ++ [(x, t)])) := by
            rw [darts_append, List.length_append, hxl]; exact hown3
          have hal4 : allOf ps = (allOf (ps.drop (k + 1))).map ((xs ++ [(x, t)]) ++ ·) := by
            rw [HH.out.1]; cases allOf (ps.drop (k + 1)) <;> simp
          have H3 := Lib.hid (And.intro hal4 (And.intro hown4 hbel3)); clear hown3 hgrow hown4 hbel3 hal4
          go_wp2
          go_roundw
          case rel => exact ⟨k + 1, by go_num, by omega, Lib.hid ⟨_, by simp; omega, H3.out.1, H3.out.2.1, H3.out.2.2⟩⟩
          case measure => simp [intOf]; omega
      · obtain rfl : k = ps.length := by omega
        obtain ⟨xs, hxl, hal, hown, hbel⟩ := hH.out
        rw [List.drop_length] at hal
        have hal : allOf ps = some xs := by rw [hal]; simp [allOf]
        obtain ⟨a2, c2, rfl, -⟩ := Reads.own hown
        have HH := Lib.hid (And.intro hal (And.intro hown hbel)); clear hown hbel hal hH hxl
        go_wp2_with fail
        refine bodyPost_ret (v := .tuple #[.slice a2 xs.length c2, .bool true]) (by simp [results, Tryd.results17, go_sem]) rfl ⟨HB.out.trans (HH.out.2.2.mono HB.out.size), ?_⟩
        rw [HH.out.1]
        exact ⟨_, rfl, owns_mono HH.out.2.1 HB.out.size⟩
end Go.Proofs.YtjiigljoekhljaaDoor
