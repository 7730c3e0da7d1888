/-
  What effect's tests tell of every part: whom it may be about, whether Count, Suit, Trait, Mark and Name fit. Each touches nothing that was there.
-/
import Derived.Test.YtjjldjmcbmkkdaaUses
namespace Go.Proofs.Ytjjldjmcbmkkdaa
open Go.RowKit

/-- A part, as a value. -/
def pv (p : Pt) : Value := .agg #[.int .u8 p.wn, .int .u8 p.vb, .int .u8 p.wm, .int .i64 p.ct, .int .u8 p.su, .int .u8 p.tr, .int .u8 p.mr, .string p.nm]
/-- A part, in memory. -/
def PAt (w : World) (b : Nat) (p : Pt) : Prop := w.heap[b]? = some (.cells #[.int .u8 p.wn, .int .u8 p.vb, .int .u8 p.wm, .int .i64 p.ct, .int .u8 p.su, .int .u8 p.tr, .int .u8 p.mr, .string p.nm] 69 (0, 0))
theorem PAt.keep {w w' : World} {b : Nat} {p : Pt} (h : PAt w b p) (g : w.grownBy w' none) : PAt w' b p := grown_keep g h (by simp)
theorem PAt.new (w : World) (p : Pt) : PAt (w.alloc (.cells #[.int .u8 p.wn, .int .u8 p.vb, .int .u8 p.wm, .int .i64 p.ct, .int .u8 p.su, .int .u8 p.tr, .int .u8 p.mr, .string p.nm] 69)) w.heap.size p := alloc_at _ _ _
theorem beq_no {a b : Int} (h : ¬ a = b) : (a == b) = false := by simpa using h
theorem beq_yes {a b : Int} (h : a = b) : (a == b) = true := by simpa using h

def fitS (u g : Bool) (s : ByteArray) : Bool := if u then g else decide (s.data.toList = [])
end Go.Proofs.Ytjjldjmcbmkkdaa
