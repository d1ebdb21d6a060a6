/- Equal arrays, equal clocks. (Made by gen/mkck.py.) -/
import Derived.Test.YtcemekianoehfaaDoorCkFns
import Derived.Laws.StructEq
namespace Go.Proofs.YtcemekianoehfaaDoor
open Go.RowKit Go.Lib Go.Sort

theorem two_eqd (d : Nat) (a b : Int) (W : World) : Sem.run Tryd.prog (Op.equalIn (d + 2) 22 (.agg #[.int .i64 a, .int .i64 b]) (.agg #[.int .i64 a, .int .i64 b])) W = .ok true W := by
  have hT : Tryd.prog.underlying 22 = some (.array 2 3) := by kernel_rfl
  have hI : Tryd.prog.underlying 3 = some (.int .i64) := by kernel_rfl
  have hS : (sizeOf 3).run Tryd.prog W = .ok 1 W := by kernel_rfl
  have h0 : ∀ (xs : Array Value) (i : Nat) (v : Value), xs[i]? = some v → (part 3 xs i).run Tryd.prog W = .ok v W := fun xs i v h => by
    simp [part, h]
  have hE : ∀ x : Int, (Op.equalIn (d + 1) 3 (.int .i64 x) (.int .i64 x)).run Tryd.prog W = .ok true W := fun x => by
    rw [run_equalIn_int W d 3 .i64 .i64 x x hI]; simp
  have p0 := h0 #[.int .i64 a, .int .i64 b] 0 _ rfl
  have p1 := h0 #[.int .i64 a, .int .i64 b] 1 _ rfl
  rw [show d + 2 = (d + 1) + 1 from rfl]
  generalize hd : d + 1 = m at hE ⊢
  simp only [Op.equalIn, Sem.run_bind, run_underlying hT, Result.andThen_ok, hS]
  simp [List.range', Sem.run_bind, p0, p1, hE]
theorem two_eq (a b : Int) (W : World) : Sem.run Tryd.prog (Op.equalIn 10000 22 (.agg #[.int .i64 a, .int .i64 b]) (.agg #[.int .i64 a, .int .i64 b])) W = .ok true W := two_eqd 9998 a b W

theorem ck_eq (a b m k : Int) (h : Nat) (on : Bool) (s : Int) (f : Nat) (w : World) : Sem.run Tryd.prog (Op.equalIn 10000 24 (ckV a b m k h on s f) (ckV a b m k h on s f)) w = .ok true w := by
  have hS : Tryd.prog.underlying 24 = some (.struct (Tryd.prog.fieldsOf 24)) := by kernel_rfl
  have hp : Tryd.prog.stoodInHeld 24 = false := by kernel_rfl
  have q := two_eqd 9997 a b w
  rw [show (10000 : Nat) = 9999 + 1 from rfl, run_equalIn_agg w 9999 24 _ _ hS hp]
  simp only [Program.fieldsOf, Tryd.underlying24]
  rw [show (9997 + 2 : Nat) = 9999 from rfl] at q
  have e3 : ∀ (x : Int) (W : World), (Op.equalIn 9999 3 (.int .i64 x) (.int .i64 x)).run Tryd.prog W = .ok true W := fun x W => by
    rw [show (9999 : Nat) = 9998 + 1 from rfl, run_equalIn_int W 9998 3 .i64 .i64 x x (by kernel_rfl)]; simp
  have e5 : ∀ (x : Int) (W : World), (Op.equalIn 9999 5 (.int .u8 x) (.int .u8 x)).run Tryd.prog W = .ok true W := fun x W => by
    rw [show (9999 : Nat) = 9998 + 1 from rfl, run_equalIn_int W 9998 5 .u8 .u8 x x (by kernel_rfl)]; simp
  have e4 : ∀ (x : Bool) (W : World), (Op.equalIn 9999 4 (.bool x) (.bool x)).run Tryd.prog W = .ok true W := fun x W => by
    rw [show (9999 : Nat) = 9998 + 1 from rfl, run_equalIn_bool W 9998 4 x x (by kernel_rfl)]; simp
  generalize (9999 : Nat) = D at q e3 e4 e5 ⊢
  go_simp
end Go.Proofs.YtcemekianoehfaaDoor
