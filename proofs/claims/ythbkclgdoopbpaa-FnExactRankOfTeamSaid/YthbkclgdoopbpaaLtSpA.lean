/-
  Leagues: the model's table: each team is put behind all that it is not ahead of.
-/
import Derived.Test.YthbkclgdoopbpaaLtTab
import Derived.Test.YthbkclgdoopbpaaLtAhead
import Derived.Deep.AppendSrc
import Derived.Deep.DeepAppendWide
namespace Go.Proofs.Ythbkclgdoopbpaa
open Go.RowKit
set_option linter.unusedVariables false
set_option linter.unusedSimpArgs false

theorem ints_one {l : List Int} : ∀ u ∈ ints l, u.oneCell' = true := by
  intro u hu
  obtain ⟨x, _, rfl⟩ := List.mem_map.1 hu
  rfl
theorem wpList_append_none {P : Program} {w : World} {ops : Array Oper} {rest : List Oper} {o : Oper} {a : Act} {Q : Exit → Act → World → Prop} (hgd : o.guard = none) (s x : Operand) (t : TypeId)
    (ho : o.op = .call { callee := .builtin .append, args := #[s, x], argTypes := #[t, t] }) (e : TypeId) (i : TypeInfo) (ht : P.underlying t = some (.slice e)) (hi : P.info? e = some i)
    (b off n cap : Nat) (hcap : n ≤ cap) (hs : a.eval s = .slice (some ⟨b, off, none⟩) n cap) (ad : Option Addr) (c : Nat) (hx : a.eval x = .slice ad 0 c)
    (h : wpList P ops Q rest (a.put o.dst (.slice (some ⟨b, off, none⟩) n cap)) w) : wpList P ops Q (o :: rest) a w := by
  refine wpList_plain hgd fun K hK => ?_
  have hsrc : Src P i.size t (.slice ad 0 c) 0 [] w := by
    cases ad with
    | none => exact Src.ofNil w ht c
    | some ad => exact Src.ofSlice w ht ad 0 c [] (by simp) (fun j u hu => by simp at hu) (fun u hu => by cases hu)
  have hrun := run_append_room_src (P := P) w t t o.type e i ht hi b off n cap (.slice ad 0 c) 0 [] hsrc (by omega) (fun j hj => by simp at hj) (fun j hj => by simp at hj)
  unfold Oper.wp execOp
  simp only [ho, resolve, invoke, builtin, Sem.run_bind, Sem.run_pure, Result.andThen_ok, List.map_toArray, List.map_cons, List.map_nil, hs, hx, hrun, Nat.add_zero, World.setCells]
  exact hK _ _ h

theorem owns_fresh (w : World) (e : TypeId) (size : Nat) : (w.alloc (.cells #[] e)).ownsRow w.heap.size e size (.slice (some ⟨w.heap.size, 0, none⟩) 0 0) 0 [] :=
  ⟨by simp, .inr ⟨w.heap.size, 0, #[], rfl, Nat.le_refl _, heap_alloc_last w _, Nat.le_refl _, by decide, by simp, by simp⟩⟩

set_option maxHeartbeats 1600000 in
theorem l1Own_any (l : List Int) (a : Option Addr) (c : Nat) (w : World) (hl : l.length ≤ 1048576) (h : Reads w a (ints l)) :
    Calls Try.prog 39 #[.slice a l.length c] w fun e w' => ∃ v, e = .returned v ∧ w'.ownsRow w.heap.size 3 1 v l.length (ints l) ∧ Below w.heap.size w w' := by
  obtain ⟨i0, hi, hz0, hz1, hz2⟩ := info_parts infoInt
  have hbel : Below w.heap.size w (w.alloc (.cells #[] 3)) := by (repeat (first | exact Below.refl _ _ | exact ‹Below _ _ _› | refine Below.drew ?_ | refine Below.alloc ?_ (by first | omega | (simp; done) | (simp; omega)) _ | refine Below.setCell ?_ (by first | omega | (simp; done) | (simp; omega)) _ | refine Below.trans ?_ (Below.mono ‹Below _ _ _› (by first | omega | (simp; done) | (simp; omega)))))
  have how := owns_fresh w 3 1
  by_cases hz : l = []
  · subst hz
    have HB := Lib.hid (And.intro hbel how); clear hbel how h
    have HI := Lib.hid hi; clear hi hz0 hz1 hz2
    go_enter Try.func39, Try.ntmps39
    go_wp2_with (at_builtin; refine wpList_append_none rfl _ _ 25 rfl 3 i0 Try.underlying25 HI.out w.heap.size 0 0 0 (Nat.le_refl _) rfl a c rfl ?_)
    go_wp2
    go_ret
    exact ⟨_, rfl, HB.out.2, HB.out.1⟩
  · have hpos : 0 < l.length := by cases l with | nil => exact absurd rfl hz | cons _ _ => simp
    obtain ⟨b, off, rfl, hlt, hc⟩ := cells_of_reads h hpos
    have hnews : ∀ j u, (ints l)[j]? = some u → (w.alloc (.cells #[] 3)).cell? ((⟨b, off, none⟩ : Addr).add j) = some u := by
      intro j u hj
      have hjl : j < l.length := by have := (List.getElem?_eq_some_iff.1 hj).1; rwa [ints_len] at this
      have e : (⟨b, off, none⟩ : Addr).add j = ⟨b, off + j, none⟩ := by unfold Addr.add; split <;> simp_all
      rw [e, hbel.cell (p := ⟨b, off + j, none⟩) hlt, hc j hjl, ← hj, ints_get l j hjl]
    have HN := Lib.hid hnews; clear hnews
    have HB := Lib.hid hbel; clear hbel
    have HO := Lib.hid how; clear how
    clear h hz hc
    go_enter Try.func39, Try.ntmps39
    go_wp2_with (at_builtin; refine wpList_append_own_at _ rfl _ _ 25 rfl w.heap.size 3 i0 (.int .i64 0) 1 8 Try.underlying25 hi hz0 hz1 hz2 rfl (by decide) _ _ _ rfl HO.out ⟨b, off, none⟩ l.length c (ints l) rfl (by simp [ints]) HN.out ints_one ?_ ?_ ?_ ?_)
    · unfold maxLen; omega
    · omega
    · simp
    intro v' w3 hown3 hgrow _ _
    have hbel3 : Below w.heap.size w w3 := HB.out.grown hgrow (by simp) (fun g hg => by simp [Value.ownBlock] at hg; omega)
    have H3 := Lib.hid (And.intro hown3 hbel3); clear hown3 hgrow hbel3
    go_wp2
    go_ret
    exact ⟨_, rfl, H3.out.1, H3.out.2⟩


def cutI (ad : Option Addr) (i j : Nat) : Option Addr := if j = i then ad else ad.map (·.add i)
theorem run_uptoI (ad : Option Addr) (n c k : Nat) (hk : k ≤ c) (W : World) : (Instr.slice 25 (.slice ad n c) none (some (.int .i64 (k : Int))) none).run Try.prog W = .ok (.slice ad k c) W := by
  obtain ⟨i0, hi0, -, -, -⟩ := info_parts infoInt
  have h1 := run_sizeOf (P := Try.prog) (w := W) hi0
  have e1 : (0 : Int) ≤ (k : Int) := by omega
  have e2 : (k : Int) ≤ (c : Int) := by omega
  have e3 : (if c = 0 then ad else ad.map (·.add 0)) = ad := by
    split
    · rfl
    · cases ad with
      | none => rfl
      | some a => simp [Addr.add]
  have e4 : (Instr.slice 25 (.slice ad n c) none (some (.int .i64 (k : Int))) none).run Try.prog W = .ok (.slice (if c = 0 then ad else ad.map (·.add 0)) k c) W := by
    clear e3
    simp [Instr.slice, run_underlying Try.underlying25, Instr.sliceBounds, run_sliceBound, h1, e1, e2, hk]
  rw [e4, e3]
theorem run_fromI (ad : Option Addr) (n c k : Nat) (hk : k ≤ n) (W : World) : (Instr.slice 25 (.slice ad n c) (some (.int .i64 (k : Int))) none none).run Try.prog W = .ok (.slice (cutI ad k c) (n - k) (c - k)) W := by
  obtain ⟨i0, hi0, -, -, -⟩ := info_parts infoInt
  have h1 := run_sizeOf (P := Try.prog) (w := W) hi0
  rw [show Try.prog.cellsOf 3 = 1 from by kernel_rfl] at h1
  have e1 : (0 : Int) ≤ (k : Int) := by omega
  have e2 : (k : Int) ≤ (n : Int) := by omega
  simp [Instr.slice, run_underlying Try.underlying25, Instr.sliceBounds, run_sliceBound, h1, e1, e2, hk, cutI]
theorem reads_fromI {w : World} {ad : Option Addr} {l : List Int} (h : Reads w ad (ints l)) {k c : Nat} (hk : k ≤ l.length) (hc : l.length ≤ c) : Reads w (cutI ad k c) (ints (l.drop k)) := by
  by_cases e : c = k
  · left; rw [List.drop_of_length_le (by omega)]; rfl
  · rcases h with h | ⟨b, off, rfl, hlt, hcs⟩
    · left
      have hl : l.length = 0 := by rw [← ints_len l, h]; rfl
      rw [List.length_eq_zero_iff.1 hl]; simp [ints]
    · right
      refine ⟨b, off + k, ?_, hlt, fun j hj => ?_⟩
      · simp only [cutI, e, if_false, Option.map_some, Option.some.injEq]
        unfold Addr.add; split <;> simp_all
      · rw [ints_len, List.length_drop] at hj
        rw [show off + k + j = off + (k + j) by omega, hcs (k + j) (by rw [ints_len]; omega)]
        simp [ints]
theorem reads_uptoI {w : World} {ad : Option Addr} {l : List Int} (h : Reads w ad (ints l)) (k : Nat) : Reads w ad (ints (l.take k)) := by
  rcases h with h | ⟨b, off, rfl, hlt, hcs⟩
  · left
    have hl : l.length = 0 := by rw [← ints_len l, h]; rfl
    rw [List.length_eq_zero_iff.1 hl]; simp [ints]
  · refine .inr ⟨b, off, rfl, hlt, fun j hj => ?_⟩
    rw [ints_len, List.length_take] at hj
    rw [hcs j (by rw [ints_len]; omega), show ints (l.take k) = (ints l).take k from by simp [ints, List.map_take], List.getElem?_take_of_lt (by omega)]
/-- A row that is read is put behind a row of the call's own. -/
theorem append_reads {ops : Array Oper} {rest : List Oper} {o : Oper} {a : Act} {Q : Exit → Act → World → Prop} {w w0 : World} {B : Nat} {L M : List Int} (hgd : o.guard = none) (s x : Operand)
    (ho : o.op = .call { callee := .builtin .append, args := #[s, x], argTypes := #[25, 25] }) (v : Value) (a' : Option Addr) (c' : Nat) (hs : a.eval s = v) (hx : a.eval x = .slice a' M.length c')
    (h1 : w.ownsRow B 3 1 v L.length (ints L)) (hne : 0 < L.length) (h2 : Reads w a' (ints M)) (hB : B ≤ w.heap.size) (hbel : Below B w0 w) (hL : L.length + M.length ≤ 100000)
    (h : ∀ v' w', w'.ownsRow B 3 1 v' (L ++ M).length (ints (L ++ M)) → Below B w0 w' → wpList Try.prog ops Q rest (a.put o.dst v') w') :
    wpList Try.prog ops Q (o :: rest) a w := by
  obtain ⟨i0, hi, hz0, hz1, hz2⟩ := info_parts infoInt
  by_cases hM : M = []
  · subst hM
    rw [List.append_nil] at h
    have h1' := h1
    obtain ⟨-, ⟨-, hn⟩ | ⟨g, cap, cur, rfl, hg, hh, hn, -⟩⟩ := h1
    · omega
    · exact wpList_append_none hgd s x 25 ho 3 i0 Try.underlying25 hi g 0 L.length cap hn hs a' c' hx (h _ _ h1' hbel)
  · have hpos : 0 < M.length := by cases M with | nil => exact absurd rfl hM | cons _ _ => simp
    obtain ⟨b, off, rfl, hlt, hc⟩ := cells_of_reads h2 hpos
    refine wpList_append_own_at w hgd s x 25 ho B 3 i0 (.int .i64 0) 1 8 Try.underlying25 hi hz0 hz1 hz2 rfl (by decide) v L.length (ints L) hs h1 ⟨b, off, none⟩ M.length c' (ints M) hx (by rw [ints_len, Nat.mul_one]) (fun j u hu => ?_) ints_one (by unfold maxLen; omega) (by omega) hB (fun v' w' ho' hgr _ _ => ?_)
    · have hj : j < M.length := by
        have := (List.getElem?_eq_some_iff.1 hu).1
        rwa [ints_len] at this
      have he : ((⟨b, off, none⟩ : Addr).add j) = ⟨b, off + j, none⟩ := by unfold Addr.add; split <;> simp_all
      rw [he, hc j hj, ← hu, ints_get M j hj]
    · refine h v' w' ?_ (hbel.grown hgr hB (fun k e => (owns_ge h1 e).1))
      rw [List.length_append, show ints (L ++ M) = ints L ++ ints M by simp [ints]]; exact ho'
theorem ints_app (a b : List Int) : ints (a ++ b) = ints a ++ ints b := by simp [ints]
end Go.Proofs.Ythbkclgdoopbpaa
