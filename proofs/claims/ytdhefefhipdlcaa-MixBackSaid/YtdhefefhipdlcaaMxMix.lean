/- mix.Mix and the document's: a number mixed, walked. -/
import Derived.Test.YtdhefefhipdlcaaTbBase
import Derived.Test.YtdhefefhipdlcaaMxMath
namespace Go.Proofs.Ytdhefefhipdlcaa
open Go.RowKit Go.Lib

theorem mixA_lt (n : Nat) : mixA n < 18446744073709551616 := Nat.mod_lt _ (by decide)
theorem mixB_lt (n : Nat) : mixB n < 18446744073709551616 := Nat.mod_lt _ (by decide)
theorem mixC_lt (n : Nat) : mixC n < 18446744073709551616 := Nat.mod_lt _ (by decide)
theorem walkA (n : Nat) : IntKind.u64.wrap ((n : Int) + 11400714819323198485) = (mixA n : Nat) := by
  rw [IntKind.wrap_u64]; unfold mixA; omega
theorem walkB {a : Nat} (h : a < 18446744073709551616) : IntKind.u64.wrap (bits .xor .u64 (a : Int) ((a : Int) / 1073741824) * 13787848793156543929) = (mixB a : Nat) := mixStep_u64 a 1073741824 13787848793156543929 h
theorem walkC {a : Nat} (h : a < 18446744073709551616) : IntKind.u64.wrap (bits .xor .u64 (a : Int) ((a : Int) / 134217728) * 10723151780598845931) = (mixC a : Nat) := mixStep_u64 a 134217728 10723151780598845931 h
theorem walkD {a : Nat} (h : a < 18446744073709551616) : bits .xor .u64 (a : Int) ((a : Int) / 2147483648) = (mixD a : Nat) := xorShift_u64 a 2147483648 h
theorem walk_quo (a k : Nat) (h : a < 18446744073709551616) : IntKind.u64.wrap ((a : Int).tdiv (k : Int)) = (a : Int) / (k : Int) := by
  rw [Int.tdiv_eq_ediv_of_nonneg (by omega), ← Int.natCast_ediv, IntKind.wrap_u64]
  have := Nat.div_le_self a k
  generalize a / k = q at *
  omega
theorem ret_u64 {a b : Int} (h : a = b) : Ending.returned (.int .u64 a) = .returned (.int .u64 b) := by rw [h]

set_option maxHeartbeats 1000000 in
set_option maxRecDepth 100000 in
theorem mix_any (n : Nat) (w : World) : Calls Try.prog 13 #[.int .u64 (n : Int)] w fun e w' => e = .returned (.int .u64 (mixN n : Nat)) ∧ w' = w := by
  go_enter Try.func13, Try.ntmps13
  go_wp2
  go_ret
  refine ⟨ret_u64 ?_, rfl⟩
  rw [walkA, walkB (mixA_lt _), walkC (mixB_lt _), walkD (mixC_lt _)]
  rfl

set_option maxHeartbeats 1000000 in
set_option maxRecDepth 100000 in
theorem rmix_any (n : Nat) (w : World) : Calls Try.prog 14 #[.int .u64 (n : Int)] w fun e w' => e = .returned (.int .u64 (mixN n : Nat)) ∧ w' = w := by
  go_enter Try.func14, Try.ntmps14
  go_wp2
  go_ret
  refine ⟨ret_u64 ?_, rfl⟩
  rw [walkA, show IntKind.u64.wrap ((mixA n : Int).tdiv 1073741824) = (mixA n : Int) / 1073741824 from walk_quo _ 1073741824 (mixA_lt _), walkB (mixA_lt _),
    show IntKind.u64.wrap ((mixB (mixA n) : Int).tdiv 134217728) = (mixB (mixA n) : Int) / 134217728 from walk_quo _ 134217728 (mixB_lt _), walkC (mixB_lt _),
    show IntKind.u64.wrap ((mixC (mixB (mixA n)) : Int).tdiv 2147483648) = (mixC (mixB (mixA n)) : Int) / 2147483648 from walk_quo _ 2147483648 (mixC_lt _), walkD (mixC_lt _)]
  rfl
end Go.Proofs.Ytdhefefhipdlcaa
