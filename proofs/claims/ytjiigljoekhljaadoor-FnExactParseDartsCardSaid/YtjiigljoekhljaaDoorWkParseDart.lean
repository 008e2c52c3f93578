/- What the exact law of ParseDart does, step by step. -/
import Derived.Test.YtjiigljoekhljaaDoorDaParse
namespace Go.Proofs.YtjiigljoekhljaaDoor.ExParseDart
open Go.RowKit
set_option linter.unusedVariables false

theorem eqDart_same (x y : Int) (w : World) :
    Calls Tryd.prog 46 #[.agg #[.int .i64 x, .int .i64 y], .agg #[.int .i64 x, .int .i64 y]] w fun r w' => r = .returned (.bool true) ∧ Below w.heap.size w w' := by
  have q0 : ((x : Int) != x) = false := by simp
  have q1 : ((y : Int) != y) = false := by simp
  go_enter Tryd.func46, Tryd.ntmps46
  go_wp2
  go_ret
  refine ⟨rfl, ?_⟩
  (repeat (first | exact Below.refl _ _ | exact ‹Below _ _ _› | refine Below.drew ?_ | refine Below.alloc ?_ (by first | omega | (simp; done) | (simp; omega)) _ | refine Below.setCell ?_ (by first | omega | (simp; done) | (simp; omega)) _ | refine Below.trans ?_ (Below.mono ‹Below _ _ _› (by first | omega | (simp; done) | (simp; omega)))))

/-- The dart that a text asks for, and whether there is one. -/
def srcD (l : List UInt8) : Int × Int := if l.head? = some 100 then (readL (l.drop 1), 2) else if l.head? = some 116 then (readL (l.drop 1), 3) else (readL l, 1)
def okL (l : List UInt8) : Bool := (decide (1 ≤ l.length) && decide (l.length ≤ 3)) && (goodB (srcD l).1 (srcD l).2 && decide (textD (srcD l).1.toNat (srcD l).2 = l))
def specV (l : List UInt8) : Value := if okL l then .tuple #[dartW (srcD l), .bool true] else .tuple #[dartW (0, 0), .bool false]

theorem txt_eq (l : List UInt8) (s : ByteArray) : (ByteArray.toList ⟨l.toArray⟩ == s.toList) = decide (l = s.data.toList) := by
  rw [ByteArray.toList_mk, ByteArray.toList_eq, Bool.eq_iff_iff]; simp

theorem all_back : ∀ d ∈ allD, okL (textD d.1.toNat d.2) = true ∧ srcD (textD d.1.toNat d.2) = d := by decide +kernel
theorem good_in : ∀ m : Nat, m < 100 → ∀ t ∈ [(1 : Int), 2, 3], goodB (m : Int) t = true → ((m : Int), t) ∈ allD := by decide +kernel

theorem picked_eq (s : ByteArray) : picked s allD = specV s.data.toList := by
  unfold picked specV
  have he : (fun d : Int × Int => (txt d).toList == s.toList) = fun d => decide (textD d.1.toNat d.2 = s.data.toList) := by
    funext d; exact txt_eq _ s
  rw [he]
  cases hf : allD.find? (fun d => decide (textD d.1.toNat d.2 = s.data.toList)) with
  | some d =>
    have hm := List.mem_of_find?_eq_some hf
    have ht := List.find?_some hf
    have ht : textD d.1.toNat d.2 = s.data.toList := by simpa using ht
    obtain ⟨b1, b2⟩ := all_back d hm
    rw [ht] at b1 b2
    rw [b1, b2]; rfl
  | none =>
    have hn := List.find?_eq_none.1 hf
    cases hok : okL s.data.toList
    · rfl
    · exfalso
      unfold okL at hok
      simp only [Bool.and_eq_true, decide_eq_true_eq] at hok
      obtain ⟨-, hg, ht⟩ := hok
      obtain ⟨m, hm, hlt, h3⟩ := good_dart hg
      have := good_in m hlt (srcD s.data.toList).2 (by simpa using h3) (by rw [← hm]; exact hg)
      have := hn _ this
      rw [← hm] at this
      simp at this
      exact this ht

set_option maxHeartbeats 800000 in
theorem daParse_out (s : ByteArray) (h : ¬ (1 ≤ s.size ∧ s.size ≤ 3)) (hz : (s.size : Int) ≤ 1048576) (w : World) :
    Calls Tryd.prog 44 #[.string s] w fun e w' => e = .returned (.tuple #[.agg #[.int .i64 0, .int .i64 0], .bool false]) ∧ Below w.heap.size w w' := by
  have HI := Lib.hid (show inR (s.size : Int) 1 3 = false by unfold inR; simp; omega)
  clear h
  go_enter Tryd.func44, Tryd.ntmps44
  go_wp2_with fail
  refine (l1In_any _ _ _ _).mono ?_; rintro e w' ⟨rfl, rfl⟩
  rw [HI.out]
  go_wp2_with fail
  refine bodyPost_ret (v := .tuple #[.agg #[.int .i64 0, .int .i64 0], .bool false]) (by simp [results, Tryd.results44, go_sem]) rfl ⟨rfl, ?_⟩
  (repeat (first | exact Below.refl _ _ | exact ‹Below _ _ _› | refine Below.drew ?_ | refine Below.alloc ?_ (by first | omega | (simp; done) | (simp; omega)) _ | refine Below.setCell ?_ (by first | omega | (simp; done) | (simp; omega)) _ | refine Below.trans ?_ (Below.mono ‹Below _ _ _› (by first | omega | (simp; done) | (simp; omega)))))

def Ends (s : ByteArray) : Prop :=
  ∃ x t : Int, (okL s.data.toList = true → (x, t) = srcD s.data.toList) ∧
    ∀ w : World, Calls Tryd.prog 44 #[.string s] w fun e w' => e = .returned (.tuple #[.agg #[.int .i64 x, .int .i64 t], .bool (okL s.data.toList)]) ∧ Below w.heap.size w w'

theorem ends_of (s : ByteArray) (h1 : 1 ≤ s.size) (h3 : s.size ≤ 3) (x t : Int) (hs : srcD s.data.toList = (x, t))
    (hb : goodB x t = false → ∀ w : World, Calls Tryd.prog 44 #[.string s] w fun e w' => e = .returned (.tuple #[.agg #[.int .i64 x, .int .i64 t], .bool false]) ∧ Below w.heap.size w w')
    (hg : goodB x t = true → ∀ T : ByteArray, (∀ w : World, Calls Tryd.prog 85 #[.agg #[.int .i64 x, .int .i64 t]] w fun e w' => e = .returned (.string T) ∧ Below w.heap.size w w') →
      ∀ w : World, Calls Tryd.prog 44 #[.string s] w fun e w' => e = .returned (.tuple #[.agg #[.int .i64 x, .int .i64 t], .bool (T.toList == s.toList)]) ∧ Below w.heap.size w w') : Ends s := by
  have hok : okL s.data.toList = (goodB x t && decide (textD x.toNat t = s.data.toList)) := by
    unfold okL
    rw [hs, rlen, decide_eq_true h1, decide_eq_true h3]; rfl
  refine ⟨x, t, fun _ => hs.symm, ?_⟩
  rw [hok]
  cases hgd : goodB x t
  · exact hb hgd
  · obtain ⟨m, rfl, hm, ht⟩ := good_dart hgd
    have := hg hgd _ (daText_any m hm t ht)
    rw [txt_eq] at this
    exact this

theorem daParse_any (s : ByteArray) (hz : (s.size : Int) ≤ 1048576) : Ends s := by
  by_cases h : 1 ≤ s.size ∧ s.size ≤ 3
  · obtain ⟨h1, h3⟩ := h
    have hh := rhead s (by omega)
    have hx : (s.extract 1 s.size).data.toList = s.data.toList.drop 1 := by
      rw [Lib.extract_data]; apply List.take_of_length_le; simp
    have hsz : ((s.extract 1 s.size).size : Int) ≤ 1000000000 := by rw [ByteArray.size_extract]; omega
    by_cases h100 : s[0]'(by omega) = 100
    · have hs : srcD s.data.toList = (readL (s.extract 1 s.size).data.toList, 2) := by unfold srcD; rw [hh, h100, if_pos rfl, hx]
      have hr := fun w => l1Read_any (s.extract 1 s.size) hsz w
      exact ends_of s h1 h3 _ _ hs (daP_d_bad s h1 h3 h100 _ hr) (daP_d_good s h1 h3 h100 _ hr)
    · by_cases h116 : s[0]'(by omega) = 116
      · have hs : srcD s.data.toList = (readL (s.extract 1 s.size).data.toList, 3) := by unfold srcD; rw [hh, h116, if_neg (by decide), if_pos rfl, hx]
        have hr := fun w => l1Read_any (s.extract 1 s.size) hsz w
        exact ends_of s h1 h3 _ _ hs (daP_t_bad s h1 h3 h116 _ hr) (daP_t_good s h1 h3 h116 _ hr)
      · have hs : srcD s.data.toList = (readL s.data.toList, 1) := by
          unfold srcD; rw [hh, if_neg (fun e => h100 (Option.some.inj e)), if_neg (fun e => h116 (Option.some.inj e))]
        have hr := fun w => l1Read_any s (by omega) w
        exact ends_of s h1 h3 _ _ hs (daP_o_bad s h1 h3 ⟨h100, h116⟩ _ hr) (daP_o_good s h1 h3 ⟨h100, h116⟩ _ hr)
  · have hok : okL s.data.toList = false := by
      unfold okL
      have : (decide (1 ≤ s.data.toList.length) && decide (s.data.toList.length ≤ 3)) = false := by rw [rlen]; simp; omega
      rw [this]; rfl
    refine ⟨0, 0, fun hh => by (rw [hok] at hh; cases hh), ?_⟩
    rw [hok]
    exact daParse_out s h hz

end Go.Proofs.YtjiigljoekhljaaDoor.ExParseDart
