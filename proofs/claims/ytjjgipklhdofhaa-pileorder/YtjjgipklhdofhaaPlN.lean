/-
  The generator's next number: of the program and of the document.
-/
import Derived.Test.YtjjgipklhdofhaaLOwn
import Derived.Test.YtjjgipklhdofhaaPlP
import Derived.Laws.Bits64
namespace Go.Proofs.Ytjjgipklhdofhaa
open Go.RowKit

def stp (s : Int) : Int := IntKind.u64.wrap (s + 11400714819323198485)
def mxA (z : Int) : Int := IntKind.u64.wrap (bits .xor .u64 z (z / 1073741824) * 13787848793156543929)
def mxB (z : Int) : Int := IntKind.u64.wrap (bits .xor .u64 z (z / 134217728) * 10723151780598845931)
def nx (s : Int) : Int := bits .xor .u64 (mxB (mxA (stp s))) (mxB (mxA (stp s)) / 2147483648)
def isU (z : Int) : Prop := 0 ≤ z ∧ z < 18446744073709551616
theorem wrap_isU (z : Int) : isU (IntKind.u64.wrap z) := by unfold isU; rw [IntKind.wrap_u64]; omega
theorem stp_isU (s : Int) : isU (stp s) := wrap_isU _
theorem bits_isU (a b : Int) : isU (bits .xor .u64 a b) := wrap_isU _
theorem nx_isU (s : Int) : isU (nx s) := bits_isU _ _
/-- The document's generator. -/
def gen : Gen := ⟨fun s => (nx s).toNat, stp⟩
set_option maxHeartbeats 1000000 in
theorem rnext_any (s : Int) (h : isU s) (w : World) : Calls Try.prog 8 #[.int .u64 s] w fun e w' => e = .returned (.tuple #[.int .u64 (nx s), .int .u64 (stp s)]) ∧ w' = w := by
  have h0 : 0 ≤ s := h.1
  have h1 : s < 18446744073709551616 := h.2
  go_enter Try.func8, Try.ntmps8
  go_wp2
  go_ret2
  exact ⟨rfl, rfl⟩
set_option maxHeartbeats 1000000 in
theorem pnext_any (s : Int) (h : isU s) (w : World) : Calls Try.prog 7 #[.int .u64 s] w fun e w' => e = .returned (.tuple #[.int .u64 (nx s), .int .u64 (stp s)]) ∧ w' = w := by
  have h0 : 0 ≤ s := h.1
  have h1 : s < 18446744073709551616 := h.2
  go_enter Try.func7, Try.ntmps7
  go_wp2
  go_ret2
  exact ⟨rfl, rfl⟩
end Go.Proofs.Ytjjgipklhdofhaa
