/-
  The model's numbers as texts.
-/
import Derived.Test.YtgkkjlpfkoplhaaGreatDoorBase
import Derived.Deep.RegionWith
import Derived.IntWalk
import Derived.Deep.WholeRow
import Derived.Laws.BytesString
namespace Go.Proofs.YtgkkjlpfkoplhaaGreatDoor
open Go.RowKit

def dig (n : Nat) : UInt8 := UInt8.ofNat (48 + n)
def numF : Nat → Nat → List UInt8
  | 0, n => [dig n]
  | k + 1, n => if n < 10 then [dig n] else numF k (n / 10) ++ [dig (n % 10)]

theorem one_byte {W : World} {b : Nat} {x : Int} (h : W.cell? ⟨b, 0, none⟩ = some (.int .u8 x)) : (convert 148 9 (.slice (some ⟨b, 0, none⟩) 1 1)).run Tryz.prog W = .ok (.string ⟨#[UInt8.ofNat x.toNat]⟩) W := by
  rw [run_convert_bytes_string _ 148 9 5 _ _ _ Tryz.underlying148 Tryz.underlying5 Tryz.underlying9]
  have h := run_loadCells_list (P := Tryz.prog) W ⟨b, 0, none⟩ [.int .u8 x] (fun j v hv => by
    match j with
    | 0 => simp at hv; subst hv; simpa [Addr.add] using h
    | j + 1 => simp at hv)
  rw [run_bytesToString _ _ _ _ [x] (by simpa using h)]
  rfl

theorem numF_len : ∀ (k n : Nat), 1 ≤ (numF k n).length ∧ (numF k n).length ≤ k + 1
  | 0, n => by simp [numF]
  | k + 1, n => by
    have := numF_len k (n / 10)
    unfold numF
    split
    · simp
    · simp; omega

def numV (k n : Nat) : Value := .string ⟨(numF k n).toArray⟩

set_option maxHeartbeats 800000 in
theorem l1Num_lt (n : Nat) (h : n < 10) (w : World) :
    Calls Tryz.prog 77 #[.int .i64 n] w fun e w' => e = .returned (.string ⟨[dig n].toArray⟩) ∧ Below w.heap.size w w' := by
  have hb : (n : Int) < 10 := by omega
  have h0 : (0 : Int) ≤ n := by omega
  have hk : ∀ W : World, (convert 148 9 (.slice (some ⟨W.heap.size, 0, none⟩) 1 1)).run Tryz.prog (W.alloc (.cells #[.int .u8 (48 + (n : Int))] 5)) = .ok (.string ⟨#[UInt8.ofNat (48 + (n : Int)).toNat]⟩) (W.alloc (.cells #[.int .u8 (48 + (n : Int))] 5)) :=
    fun W => one_byte (cell_of_row _ _ 0 #[.int .u8 (48 + (n : Int))] _ _ (heap_alloc_last W _))
  go_enter Tryz.func77, Tryz.ntmps77
  go_wp2_with fail
  go_ret
  refine ⟨rfl, ?_⟩
  (repeat (first | exact Below.refl _ _ | exact ‹Below _ _ _› | refine Below.drew ?_ | refine Below.alloc ?_ (by first | omega | (simp; done) | (simp; omega)) _ | refine Below.setCell ?_ (by first | omega | (simp; done) | (simp; omega)) _ | refine Below.trans ?_ (Below.mono ‹Below _ _ _› (by first | omega | (simp; done) | (simp; omega)))))

set_option maxHeartbeats 1600000 in
set_option maxRecDepth 100000 in
theorem l1Num_any : ∀ (k n : Nat) (w : World), n < 10 ^ (k + 1) → k ≤ 6 →
    Calls Tryz.prog 77 #[.int .i64 n] w fun e w' => e = .returned (numV k n) ∧ Below w.heap.size w w'
  | 0, n, w, h, _ => l1Num_lt n (by simpa using h) w
  | k + 1, n, w, h, hk6 => by
    by_cases hlt : n < 10
    · rw [show numV (k + 1) n = .string ⟨[dig n].toArray⟩ from by simp [numV, numF, hlt]]
      exact l1Num_lt n hlt w
    · have hv : numV (k + 1) n = .string ⟨(numF k (n / 10) ++ [dig (n % 10)]).toArray⟩ := by simp [numV, numF, hlt]
      have hpow : 10 ^ (k + 1 + 1) ≤ 100000000 := Nat.le_trans (Nat.pow_le_pow_right (by omega) (show k + 2 ≤ 8 by omega)) (by decide)
      have ih := fun w => l1Num_any k (n / 10) w (by rw [Nat.pow_succ] at h; omega) (by omega)
      have IH := Lib.hid ih; clear ih
      have hn : (n : Int) ≤ 100000000 := by omega
      have hb : (10 : Int) ≤ n := by omega
      have hlt' : ¬ (n : Int) < 10 := by omega
      have e1 : ((n : Int)).tdiv 10 = ((n / 10 : Nat) : Int) := by rw [Int.tdiv_eq_ediv_of_nonneg (by omega)]; omega
      have e2 : ((n : Int)) / 10 = ((n / 10 : Nat) : Int) := by omega
      have e7 : IntKind.i64.wrap ((n / 10 : Nat) : Int) = ((n / 10 : Nat) : Int) := IntWalk.i64_in _ (by omega)
      have e3 : ((n : Int)).tmod 10 = ((n % 10 : Nat) : Int) := by rw [Int.tmod_eq_emod_of_nonneg (by omega)]; omega
      have e4 : ((n : Int)) % 10 = ((n % 10 : Nat) : Int) := by omega
      have hm : n % 10 < 10 := by omega
      have e5 : IntKind.i64.wrap (48 + ((n % 10 : Nat) : Int)) = 48 + ((n % 10 : Nat) : Int) := IntWalk.i64_in _ (by omega)
      have e6 : IntKind.u8.wrap (48 + ((n % 10 : Nat) : Int)) = 48 + ((n % 10 : Nat) : Int) := by
        have : ∀ r : Fin 10, IntKind.u8.wrap (48 + ((r.val : Nat) : Int)) = 48 + ((r.val : Nat) : Int) := by decide
        exact this ⟨n % 10, hm⟩
      have hc : ∀ W : World, (convert 148 9 (.slice (some ⟨W.heap.size, 0, none⟩) 1 1)).run Tryz.prog (W.alloc (.cells #[.int .u8 (48 + ((n % 10 : Nat) : Int))] 5)) = .ok (.string ⟨#[dig (n % 10)]⟩) (W.alloc (.cells #[.int .u8 (48 + ((n % 10 : Nat) : Int))] 5)) :=
        fun W => one_byte (cell_of_row _ _ 0 #[.int .u8 (48 + ((n % 10 : Nat) : Int))] _ _ (heap_alloc_last W _))
      have hc2 : ∀ W : World, (convert 148 9 (.slice (some ⟨W.heap.size, 0, none⟩) 1 1)).run Tryz.prog (W.alloc (.cells #[.int .u8 (48 + ((n % 10 : Nat) : Int))] 5)).drew = .ok (.string ⟨#[dig (n % 10)]⟩) (W.alloc (.cells #[.int .u8 (48 + ((n % 10 : Nat) : Int))] 5)).drew :=
        fun W => one_byte (W := (W.alloc (.cells #[.int .u8 (48 + ((n % 10 : Nat) : Int))] 5)).drew) (x := 48 + ((n % 10 : Nat) : Int)) (cell_of_row _ _ 0 #[.int .u8 (48 + ((n % 10 : Nat) : Int))] _ _ (heap_alloc_last W _))
      rw [hv]
      have hlen := (numF_len k (n / 10)).2
      have hadd : ∀ W : World, (Op.stringOp .add ⟨(numF k (n / 10)).toArray⟩ ⟨#[dig (n % 10)]⟩).run Tryz.prog W = .ok (.string ⟨(numF k (n / 10) ++ [dig (n % 10)]).toArray⟩) W := fun W =>
        run_string_add_lists W (numF k (n / 10)) [dig (n % 10)] (by omega) (by simp)
      clear hlen
      generalize n % 10 = r at *
      generalize n / 10 = q at *
      clear h hk6 hpow hlt hv
      go_enter Tryz.func77, Tryz.ntmps77
      go_wp2_with fail
      go_region_with (go_at_call 77; refine (IH.out _).mono ?_; rintro e w' ⟨rfl, bd⟩; obtain ⟨cc, ff⟩ := bcell bd; have zz := bd.size; (try simp only [World.size_drew, World.size_alloc] at zz); unfold numV; (first | (have hcv : (convert 148 9 (.slice (some ⟨w.heap.size, 0, none⟩) 1 1)).run Tryz.prog w' = .ok (.string ⟨#[dig r]⟩) w' := one_byte (x := 48 + (r : Int)) (by rw [cc _ _ (by simp)]; exact cell_of_row _ _ 0 #[.int .u8 (48 + (r : Int))] _ _ (heap_alloc_last w _))) | skip))
      all_goals
        go_wp2
        go_ret
        refine ⟨rfl, ?_⟩
        (repeat (first | exact Below.refl _ _ | exact ‹Below _ _ _› | refine Below.drew ?_ | refine Below.alloc ?_ (by first | omega | (simp; done) | (simp; omega)) _ | refine Below.setCell ?_ (by first | omega | (simp; done) | (simp; omega)) _ | refine Below.trans ?_ (Below.mono ‹Below _ _ _› (by first | omega | (simp; done) | (simp; omega)))))

end Go.Proofs.YtgkkjlpfkoplhaaGreatDoor
