/-
  The program reads numbers: strconv.Atoi at every text, strings.Cut; what they lean on in the world.
-/
import Derived.Test.YtgkkjlpfkoplhaaDoorLqPieces
import Derived.Test.YtgkkjlpfkoplhaaDoorShelf
namespace Go.Proofs.YtgkkjlpfkoplhaaDoor
open Go.RowKit
set_option linter.unusedVariables false
set_option linter.unusedSimpArgs false

/-- What strconv.Atoi hands back, whatever the text. -/
def atoiV (l : List UInt8) : Int := match Lib.atoiAll l with
  | .ok v => v
  | .«syntax» => 0
  | .range => Lib.atoiSat l
/-- What the library's variables hold. -/
structure Door (w : World) : Prop where
  m : ∃ m, w.cell? ⟨2, 0, none⟩ = some (.int .i64 m)
  s : ∃ ev, w.cell? ⟨3, 0, none⟩ = some ev ∧ (ev = .nilIface ∨ ∃ te pe, ev = .iface te pe)
  r : ∃ ev, w.cell? ⟨4, 0, none⟩ = some ev ∧ (ev = .nilIface ∨ ∃ te pe, ev = .iface te pe)
theorem Door.keep {w w' : World} (h : Door w) (hb : Below w.heap.size w w') : Door w' := by
  obtain ⟨⟨m, hm⟩, ⟨s, hs, hs2⟩, ⟨r, hr, hr2⟩⟩ := h
  exact ⟨⟨m, (hb.cell (Lib.lt_of_cell hm)).trans hm⟩, ⟨s, (hb.cell (Lib.lt_of_cell hs)).trans hs, hs2⟩, ⟨r, (hb.cell (Lib.lt_of_cell hr)).trans hr, hr2⟩⟩

set_option maxHeartbeats 800000 in
theorem readNum_any (s : ByteArray) (hs : s.size ≤ 1048576) (w : World) (hd : Door w) :
    Calls Tryd.prog 74 #[.string s] w fun e w' => e = .returned (.int .i64 (atoiV s.data.toList)) ∧ Below w.heap.size w w' := by
  obtain ⟨_, ⟨es, hes, hes2⟩, ⟨er, her, her2⟩⟩ := hd
  cases h : Lib.atoiAll s.data.toList with
  | ok v =>
    have hv : atoiV s.data.toList = v := by simp [atoiV, h]
    rw [hv]
    have HC := Lib.hid (fun w => Tryd.strconv_Atoi_ok s (by omega) v h w); clear h hv
    clear hes her
    go_enter Tryd.func74, Tryd.ntmps74
    go_wp2_with fail
    refine (HC.out _).mono ?_; rintro e w1 ⟨rfl, hw⟩
    have hb : Below w.heap.size w w1 := by
      rcases hw with rfl | ⟨t, rfl⟩
      · exact Below.refl _ _
      · exact Lib.bytesWorld_below _ _ _
    have HB := Lib.hid hb; clear hb hw
    go_wp2_with fail
    go_ret
    exact ⟨rfl, HB.out⟩
  | «syntax» =>
    have hv : atoiV s.data.toList = 0 := by simp [atoiV, h]
    rw [hv]
    have HC := Lib.hid (fun w hv => Tryd.strconv_Atoi_syntax s (by omega) h es w hv hes2); clear h hv
    have HE := Lib.hid hes; clear hes her
    go_enter Tryd.func74, Tryd.ntmps74
    go_wp2_with fail
    refine (HC.out _ HE.out).mono ?_; rintro e w1 ⟨N, rfl, -, -, hb⟩
    have HB := Lib.hid hb; clear hb
    go_wp2_with fail
    go_ret
    exact ⟨rfl, HB.out⟩
  | range =>
    have hv : atoiV s.data.toList = Lib.atoiSat s.data.toList := by simp [atoiV, h]
    rw [hv]
    have HC := Lib.hid (fun w hv => Tryd.strconv_Atoi_range s (by omega) h er w hv her2); clear h hv
    generalize Lib.atoiSat s.data.toList = v at *
    have HE := Lib.hid her; clear hes her
    go_enter Tryd.func74, Tryd.ntmps74
    go_wp2_with fail
    refine (HC.out _ HE.out).mono ?_; rintro e w1 ⟨N, rfl, -, -, hb⟩
    have HB := Lib.hid hb; clear hb
    go_wp2_with fail
    go_ret
    exact ⟨rfl, HB.out⟩

theorem cut_len1 (l sep : List UInt8) : (Lib.cut l sep).1.length ≤ l.length := by
  unfold Lib.cut; split <;> simp <;> omega
theorem cut_len2 (l sep : List UInt8) : (Lib.cut l sep).2.1.length ≤ l.length := by
  unfold Lib.cut; split <;> simp <;> omega

set_option maxHeartbeats 800000 in
theorem readPair_any (s m : ByteArray) (hs : s.size ≤ 1048576) (w : World) (hd : Door w) :
    Calls Tryd.prog 50 #[.string s, .string m] w fun e w' => e = .returned (.tuple #[.int .i64 (atoiV (Lib.cut s.data.toList m.data.toList).1), .int .i64 (atoiV (Lib.cut s.data.toList m.data.toList).2.1)]) ∧ Below w.heap.size w w' := by
  have l1 := cut_len1 s.data.toList m.data.toList
  have l2 := cut_len2 s.data.toList m.data.toList
  have hl : s.data.toList.length = s.size := by simp
  obtain ⟨mm, hm⟩ := hd.m
  have hc := Tryd.strings_Cut s m mm w (by omega) hm
  generalize (Lib.cut s.data.toList m.data.toList).1 = X at *
  generalize (Lib.cut s.data.toList m.data.toList).2.1 = Y at *
  generalize (Lib.cut s.data.toList m.data.toList).2.2 = Z at *
  have rx := fun w hd => readNum_any ⟨X.toArray⟩ (by show X.toArray.size ≤ _; simp; omega) w hd
  have ry := fun w hd => readNum_any ⟨Y.toArray⟩ (by show Y.toArray.size ≤ _; simp; omega) w hd
  rw [show (⟨X.toArray⟩ : ByteArray).data.toList = X from by simp] at rx
  rw [show (⟨Y.toArray⟩ : ByteArray).data.toList = Y from by simp] at ry
  have HX := Lib.hid rx; clear rx
  have HY := Lib.hid ry; clear ry
  have HC := Lib.hid hc; clear hc
  have HD := Lib.hid hd; clear hd hm l1 l2 hl
  go_enter Tryd.func50, Tryd.ntmps50
  go_wp2_with fail
  refine HC.out.mono ?_; rintro e w1 ⟨rfl, n, rfl⟩
  have hd1 : Door (w.drewN n) := HD.out.keep (below_drewN (Below.refl _ _) _)
  have HD1 := Lib.hid hd1; clear hd1
  go_wp2_with fail
  refine (HX.out _ HD1.out).mono ?_; rintro e w2 ⟨rfl, b2⟩
  have HD2 := Lib.hid (HD1.out.keep b2)
  have HB2 := Lib.hid b2; clear b2
  go_wp2_with fail
  refine (HY.out _ HD2.out).mono ?_; rintro e w3 ⟨rfl, b3⟩
  have hb : Below w.heap.size w w3 := (below_drewN (Below.refl _ _) n).trans ((HB2.out.trans (b3.mono HB2.out.size)))
  have HB := Lib.hid hb; clear hb b3
  go_wp2_with fail
  refine bodyPost_ret (v := .tuple #[.int .i64 (atoiV X), .int .i64 (atoiV Y)]) (by simp [results, Tryd.results50, go_sem]) rfl ⟨rfl, HB.out⟩
end Go.Proofs.YtgkkjlpfkoplhaaDoor
