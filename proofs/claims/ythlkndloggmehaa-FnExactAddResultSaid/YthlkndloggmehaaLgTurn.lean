/-
  Leagues: a league with other results; all games turned (the program's).
-/
import Derived.Test.YthlkndloggmehaaLgCf
import Derived.Test.YthlkndloggmehaaLgSetM
namespace Go.Proofs.Ythlkndloggmehaa
open Go.RowKit
set_option linter.unusedVariables false
set_option linter.unusedSimpArgs false

theorem infoRes : (Try.prog.info? 66).map (fun i => (i.zero, i.size, i.bytes)) = some (some (.agg #[.int .i64 0, .int .i64 0, .int .i64 0, .int .i64 0]), 4, 32) := infoResult
/-- A league that is handed back, its results the call's own. -/
def LgR (t wn : Int) (l : List Rs) (o : Bool) (w : World) (e : Ending) (w' : World) : Prop :=
  ∃ a c, e = .returned (.tuple #[.agg #[.int .i64 t, .int .i64 wn, .slice a l.length c], .bool o]) ∧ w'.ownsRow w.heap.size 66 4 (.slice a l.length c) l.length (ress l) ∧ Below w.heap.size w w'
theorem owns_nil4 (w : World) (B : Nat) (T : TypeId) : w.ownsRow B T 4 (.slice none 0 0) 0 [] := ⟨rfl, .inl ⟨rfl, rfl⟩⟩

set_option maxHeartbeats 1600000 in
theorem leagueWith_any (t wn : Int) (v0 : Value) (l : List Rs) (hgd : goodL t wn l = true) (a : Option Addr) (c : Nat) (hlc : l.length ≤ c) (w : World) (hr : Reads w a (ress l)) :
    Calls Try.prog 115 #[.agg #[.int .i64 t, .int .i64 wn, v0], .slice a l.length c] w fun e w' => e = .returned (.tuple #[.agg #[.int .i64 t, .int .i64 wn, .slice a l.length c], .bool true]) ∧ Below w.heap.size w w' := by
  have h56 := (goodL_bd hgd).2.2.2.2
  have HB0 : Hid (∀ x y : Obj, Below w.heap.size w ((w.alloc x).alloc y)) := fun x y => by (repeat (first | exact Below.refl _ _ | exact ‹Below _ _ _› | refine Below.drew ?_ | refine Below.alloc ?_ (by first | omega | (simp; done) | (simp; omega)) _ | refine Below.setCell ?_ (by first | omega | (simp; done) | (simp; omega)) _ | refine Below.trans ?_ (Below.mono ‹Below _ _ _› (by first | omega | (simp; done) | (simp; omega)))))
  have HIS := Lib.hid (fun W (hb : Below w.heap.size w W) => isLeague_any t wn l a c W (by omega) hlc (hr.old hb))
  rw [hgd] at HIS
  clear hr hgd
  go_enter Try.func115, Try.ntmps115
  go_wp2_with fail
  have A1 := Lib.hid ((ObAt.new w 62 #[.int .i64 t, .int .i64 wn, .slice a l.length c]).old (.cells #[.int .i64 0, .int .i64 0, .slice none 0 0] 62))
  have A2 := ObAt.new (w.alloc (.cells #[.int .i64 t, .int .i64 wn, .slice a l.length c] 62)) 62 #[.int .i64 0, .int .i64 0, .slice none 0 0]
  rw [World.size_alloc] at A2
  have A2 := Lib.hid A2
  refine (HIS.out _ (HB0.out _ _)).mono ?_; rintro e w1 ⟨rfl, b1⟩
  have H1 := Lib.hid (And.intro (A1.out.keep b1) (And.intro (A2.out.keep b1) ((HB0.out _ _).trans (b1.mono (HB0.out _ _).size)))); clear b1 A1 A2
  obtain ⟨p0, p1, p2, -, -, -⟩ := H1.out.1.three
  obtain ⟨q0, q1, q2, f0, f1, f2⟩ := H1.out.2.1.three
  have HF := Lib.hid (fun u0 u1 u2 : Value => ((H1.out.2.2.setCell (p := ⟨w.heap.size + 1, 0, none⟩) (by simp only; omega) u0).setCell (p := ⟨w.heap.size + 1, 1, none⟩) (by simp only; omega) u1).setCell (p := ⟨w.heap.size + 1, 2, none⟩) (by simp only; omega) u2)
  go_wp2_with fail
  refine bodyPost_ret (v := .tuple #[.agg #[.int .i64 t, .int .i64 wn, .slice a l.length c], .bool true]) ?_ rfl ⟨rfl, HF.out _ _ _⟩
  simp [results, Try.results115, go_sem, *]

/-- What holds at the head of each round. -/
def TuAt (w : World) (t wn : Int) (l : List Rs) (ad : Option Addr) (c k : Nat) (v : Value) (wr : World) : Prop :=
  ObAt wr w.heap.size 62 #[.int .i64 t, .int .i64 wn, .slice ad l.length c] ∧ ObAt wr (w.heap.size + 1) 62 #[.int .i64 0, .int .i64 0, .slice none 0 0] ∧ wr.ownsRow w.heap.size 66 4 v k (ress ((l.take k).map turnR)) ∧ Below w.heap.size w wr

end Go.Proofs.Ythlkndloggmehaa
