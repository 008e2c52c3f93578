/- IsDesk: the row's statement. -/
import Derived.Test.YtgkkjlpfkoplhaaGreatDoorWkIsDesk
import Derived.Test.YtgkkjlpfkoplhaaGreatDoorTnLaidH
import Derived.Test.YtgkkjlpfkoplhaaGreatDoorFrClosed
namespace Go.Proofs.YtgkkjlpfkoplhaaGreatDoor.ExIsDesk
open Go.ChangeShapes Go.WideShapes Go.ChangeAt Go.RowKit Go.Joins
open Go.ChangeMaps (open_string shut_string)
set_option linter.unusedVariables false

theorem own : ownKnob Tryz.prog.godebug = none := by kernel_rfl
theorem laidOut : laidOutB Tryz.prog = true := by kernel_rfl

set_option maxRecDepth 100000 in
theorem lifted (os : Os) (started : os.Started) (H : Type) (enc : TypeId × Value → H) :
    ReturnsInHanded {} Tryz.checked os 3 .any (fun w args => (Rows.fnExactIsDeskSpec.pre enc Tryz.prog Tryz.f3 [] false w args ∧ laidMetH Tryz.prog laidHL w) ∧ sizedMet enc Tryz.prog Tryz.f3 (OpenSpec.ofChange Rows.fnExactIsDeskSpec) false w args)
      (Rows.fnExactIsDeskSpec.post enc Tryz.prog Tryz.f3 false true false false) := by
  refine returnsInHanded_of_change_and (C := Tryz.checked) (X := fun w _ => laidMetH Tryz.prog laidHL w) (fun _ _ _ hh h => h.of_heap hh) own started (by kernel_rfl) Tryz.func3
    (ChangeSpec.witness_at (enc := enc) (C := Tryz.checked) (os := os) (X := fun w _ => laidMetH Tryz.prog laidHL w) false (laidHWorld os) #[.agg #[.int .i64 0, .string ByteArray.empty, .int .i64 0, .slice none 0 0, .int .i64 0, .int .i64 0, .slice none 0 0]] 8 rfl (by kernel_rfl) (by kernel_rfl) (by kernel_rfl) (by kernel_rfl) (by kernel_rfl) (laidHWorld_met os _)) ?_
  intro W base args ds gs before hval0 hW _ _ hL _
  have hH := handle_of_laid hL
  have hL := errors_of_laid hL
  have hval : ∀ (j : Nat) t v, Tryz.f3.params[j]? = some t → args[j]? = some v → Value.okWide Tryz.prog W .any base t v := hval0
  have hW' := hW
  obtain ⟨p, q, hA0, hV0, rfl, hfz, hnd⟩ := hW
  have hA : DataW.TrodAll enc Tryz.prog W 0 (fun _ => true) true Tryz.f3.params.toList args.toList ds p := hA0
  have hV : DataW.TrodVars enc Tryz.prog W (fun _ => true) ["loop.example/g01368/impl.errBehindEnd", "loop.example/g01368/impl.errNoPoint"] gs q := hV0
  rw [Tryz.params3] at hA hval
  obtain ⟨v0, vs0, d0, ds0, p0, q0, hargs, rfl, rfl, h0, r0⟩ := trodAll_cons hA
  obtain ⟨rfl, rfl, rfl⟩ := trodAll_nil r0
  obtain rfl : args = #[v0] := by cases args; simp_all
  obtain ⟨e0, e1, c0, c1, t0, t1, hv0, hv1, hne, hb0, hb1⟩ := sentinels hL
  obtain ⟨rfl, rfl⟩ := hV.unique (varsR_read enc hv1 hv0 trivial trivial _)
  have k0 := h0
  have lt0 : ∀ x ∈ p0, x.block < W.heap.size := by obtain ⟨m, hm⟩ := k0; exact DataW.trod_lt m _ _ _ hm
  obtain ⟨zl0, zs0, zf0, za0, zn0, zc0, zt0, zw0, zb0, zm0, zd0, zL0, zR0, rfl, ws0, wf0, wg0⟩ := open_desk (hval 0 27 v0 rfl rfl) h0
  clear hA0 hV0 hval0
  have hg0 : W.cell? ⟨3, 0, none⟩ = some (errV e0) := by simpa using World.var?_cell gNo hv0 0
  have hg1 : W.cell? ⟨0, 0, none⟩ = some (errV e1) := by simpa using World.var?_cell gEnd hv1 0
  refine (walk zl0 zs0 zf0 za0 zn0 zc0 zt0 zw0 zb0 zm0 zd0 zL0 zR0 e0 e1 W ws0 wf0 wg0 ⟨hg0, hg1, hH, hne, ⟨_, _, hb0⟩, ⟨_, _, hb1⟩⟩).mono fun e W' ⟨he, bel⟩ => ?_
  subst he
  exact ⟨_, rfl, _, _, _, [], _, _, hW', trodAll_mk1 (shut_bool Tryz.underlying4 _), (trodAll_cons_mk (Below.trod laidOut (by kernel_rfl) (of_decide_eq_true (by kernel_rfl)) k0 bel lt0) trodAll_mk0), varsR_read enc (var_below hv1 bel) (var_below hv0 bel) trivial trivial _, bel.frame _, fun h => by cases h⟩

set_option maxRecDepth 100000 in
theorem closed : joinedFacts Tryz.prog 3 Tryz.f3 Rows.fnExactIsDeskSpec Rows.fnExactIsDeskRow = true := by
  unfold joinedFacts
  rw [mayEnterC, liftsC, makeC]
  kernel_rfl

theorem said : Rows.FnExactIsDeskSaid :=
  OpenClaim.holds_of_wide 3 Tryz.f3 rfl rfl rfl rfl rfl rfl rfl ⟨rfl, rfl, rfl, rfl, rfl⟩ rfl rfl rfl rfl rfl (by kernel_rfl) Tryz.func3 closed
    (of_decide_eq_true (by kernel_rfl)) (by unfold Func.isWrapper; first | (rw [if_pos (by decide +kernel)]; kernel_rfl) | (rw [if_neg (by decide +kernel)]; exact ⟨rfl, rfl⟩))
    (fun os started H enc _ => lifted os started H enc)
end Go.Proofs.YtgkkjlpfkoplhaaGreatDoor.ExIsDesk
