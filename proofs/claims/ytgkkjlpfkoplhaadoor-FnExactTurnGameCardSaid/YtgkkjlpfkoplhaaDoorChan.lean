/-
  Channels in one goroutine, for the plain walk: a region that holds a send, a receive or a select at which nothing waits.
-/
import Derived.Test.YtgkkjlpfkoplhaaDoorBase
import Derived.Conc.LoneSelect
namespace Go.Proofs.YtgkkjlpfkoplhaaDoor
open Go.RowKit Go.Conc
set_option linter.unusedVariables false
set_option linter.unusedSimpArgs false

/-- From within a region, some of whose operations are still to come. -/
def RegK (P : Program) (ops : Array Oper) (Q : Exit → Act → World → Prop) (l : List Nat) (a : Act) (w : World) : Prop :=
  ∀ (b : Frame) (k : List Item) (cs : List Frame), ∃ e a' w', Q e a' w' ∧ Arrives P (lone (b.at a (.inRegion ops l :: k)) cs w) b k cs e a' w'

section
variable {P : Program} {ops : Array Oper} {Q : Exit → Act → World → Prop} {i : Nat} {rest : List Nat} {a : Act} {w : World} {o : Oper}

theorem RegK.region {id : Nat} (h : RegK P ops Q (List.range ops.size) a w) : (Code.region id ops false).wp P Q a w :=
  fun b k cs => let ⟨e, a', w', q, r⟩ := h b k cs; ⟨e, a', w', q, .of_steps (.one step_region) r⟩
theorem RegK.end (h : Q .normal a w) : RegK P ops Q [] a w :=
  fun b k cs => ⟨.normal, a, w, h, .one step_region_end⟩
theorem RegK.value {v : Value} {w' : World} (ho : ops[i]? = some o) (hw : Region.wanted o (yielded ops a.tmps) = true) (hr : (execOp a.eval o).run P w = .ok (.value v) w')
    (h : RegK P ops Q rest (a.put o.dst v) w') : RegK P ops Q (i :: rest) a w := by
  intro b k cs
  obtain ⟨e, a', w'', q, r⟩ := h b k cs
  refine ⟨e, a', w'', q, .of_steps (.one (step_lone_go ?_)) r⟩
  have hfin : (b.at a (.inRegion ops (i :: rest) :: k)).finish v = b.at (a.put o.dst v) (.inRegion ops rest :: k) := by rw [Frame.finish_at, ho]; rfl
  rw [stepG_op ho hw, ← hfin]
  simp [stepG.apply, hr]

theorem RegK.pure {v : Value} (ho : ops[i]? = some o) (hw : Region.wanted o (yielded ops a.tmps) = true) (hr : (execOp a.eval o).run P w = .ok (.value v) w)
    (h : RegK P ops Q rest (a.put o.dst v) w) : RegK P ops Q (i :: rest) a w := RegK.value ho hw hr h

/-- The step of a communication, in whatever frame. -/
theorem comm_step {b : Frame} {k : List Item} {cs : List Frame} {cases : Array CommCase} {blocking : Bool} {shape : CommShape} {w' : World} (ho : ops[i]? = some o) (hw : Region.wanted o (yielded ops a.tmps) = true)
    (hr : (execOp a.eval o).run P w = .ok (.comm cases blocking shape) w') :
    ∃ es, stepG P true (G (b.at a (.inRegion ops (i :: rest) :: k)) cs) w = .comm (G (b.at a (.inRegion ops (i :: rest) :: k)) cs) cases blocking shape w' es := by
  rw [stepG_oper ho hw]
  simp only [stepG.apply, Sem.runT_eq, hr, G, GStep.after, if_true]
  exact ⟨_, rfl⟩

theorem RegK.comm {v : Value} {w' : World} (ho : ops[i]? = some o) (hs : ∀ (b : Frame) (k : List Item) (cs : List Frame), step P (solo (G (b.at a (.inRegion ops (i :: rest) :: k)) cs) w) = .next (solo (G ((b.at a (.inRegion ops (i :: rest) :: k)).finish v) cs) w'))
    (h : RegK P ops Q rest (a.put o.dst v) w') : RegK P ops Q (i :: rest) a w := by
  intro b k cs
  obtain ⟨e, a', w'', q, r⟩ := h b k cs
  refine ⟨e, a', w'', q, .of_steps (.one ?_) r⟩
  have hfin : (b.at a (.inRegion ops (i :: rest) :: k)).finish v = b.at (a.put o.dst v) (.inRegion ops rest :: k) := by rw [Frame.finish_at, ho]; rfl
  have := hs b k cs
  rw [hfin] at this
  exact this

variable {c cap s r : Nat} {buf : Array Value} {z v : Value} {tm closed : Bool}
theorem RegK.sel_send_room (ho : ops[i]? = some o) (hw : Region.wanted o (yielded ops a.tmps) = true) (hr : (execOp a.eval o).run P w = .ok (.comm #[scase c v z] false .select) w)
    (hc : w.heap[c]? = some (.chan cap buf false s r tm)) (hroom : buf.size < cap) (h : RegK P ops Q rest (a.put o.dst (.tuple #[goInt 0, .bool false])) (w.setChan c cap (buf.push v) false (s + 1) r tm)) :
    RegK P ops Q (i :: rest) a w :=
  RegK.comm ho (fun b k cs => let ⟨_, h'⟩ := comm_step (b := b) (k := k) (cs := cs) (rest := rest) ho hw hr; step_lone_select_send_room h' hc hroom) h
theorem RegK.sel_send_full (ho : ops[i]? = some o) (hw : Region.wanted o (yielded ops a.tmps) = true) (hr : (execOp a.eval o).run P w = .ok (.comm #[scase c v z] false .select) w)
    (hc : w.heap[c]? = some (.chan cap buf false s r tm)) (hfull : cap ≤ buf.size) (h : RegK P ops Q rest (a.put o.dst (.tuple #[goInt (-1), .bool false])) w) :
    RegK P ops Q (i :: rest) a w :=
  RegK.comm ho (fun b k cs => let ⟨_, h'⟩ := comm_step (b := b) (k := k) (cs := cs) (rest := rest) ho hw hr; step_lone_select_send_full h' hc hfull) h
theorem RegK.recv_buf (ok : Bool) (ho : ops[i]? = some o) (hw : Region.wanted o (yielded ops a.tmps) = true) (hr : (execOp a.eval o).run P w = .ok (.comm #[rcase c z] true (.recv ok)) w)
    (hc : w.heap[c]? = some (.chan cap buf closed s r tm)) (hsome : 0 < buf.size) (h : RegK P ops Q rest (a.put o.dst (got ok (buf.getD 0 undef) true)) (w.setChan c cap (buf.extract 1 buf.size) closed s (r + 1) tm)) :
    RegK P ops Q (i :: rest) a w :=
  RegK.comm ho (fun b k cs => let ⟨_, h'⟩ := comm_step (b := b) (k := k) (cs := cs) (rest := rest) ho hw hr; step_lone_recv_buf ok h' hc hsome) h
theorem RegK.recv_shut (ok : Bool) (ho : ops[i]? = some o) (hw : Region.wanted o (yielded ops a.tmps) = true) (hr : (execOp a.eval o).run P w = .ok (.comm #[rcase c z] true (.recv ok)) w)
    (hc : w.heap[c]? = some (.chan cap #[] true s r tm)) (h : RegK P ops Q rest (a.put o.dst (got ok z false)) w) :
    RegK P ops Q (i :: rest) a w :=
  RegK.comm ho (fun b k cs => let ⟨_, h'⟩ := comm_step (b := b) (k := k) (cs := cs) (rest := rest) ho hw hr; step_lone_recv_shut ok h' hc) h
end
end Go.Proofs.YtgkkjlpfkoplhaaDoor
