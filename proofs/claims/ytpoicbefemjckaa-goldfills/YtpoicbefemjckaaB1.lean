/-
  book.New; what is a book and what is none; the list of its cards, how many there are, whether it is sealed.
-/
import Derived.Test.YtpoicbefemjckaaBk
namespace Go.Proofs.Ytpoicbefemjckaa
open Go.RowKit

def plNew : Pl := ⟨false, List.replicate 9 ⟨#[]⟩, List.replicate 5 Mk.none⟩
def noCard : List Value := cvs Hd.none (.slice none 0 0)
def noCards : Nat → List Value
  | 0 => []
  | n + 1 => noCard ++ noCards n
def plA : Array Value := (plc 0 plNew).toArray
def bkA : Array Value := (bcells [] (noCards 64) plNew).toArray
theorem run_buildPl (w : World) : (Instr.build 89 #[(0, .bool true)]).run Try.prog w = .ok (.agg plA) w := by kernel_rfl
theorem run_buildBk (w : World) : (Instr.build 92 #[(1, .agg plA)]).run Try.prog w = .ok (.agg bkA) w := by kernel_rfl
theorem run_boxBk (cs : Array Value) (w : World) : (Instr.box 92 (.agg cs)).run Try.prog w = .ok (.pointer (some ⟨w.heap.size, 0, none⟩)) (w.alloc (.cells cs 92)) := rfl
set_option maxRecDepth 100000 in
theorem new_any (w : World) : Calls Try.prog 21 #[] w fun e w' => e = .returned (.pointer (some ⟨w.heap.size, 0, none⟩)) ∧ BkIn w' w.heap.size [] plNew ∧ w.grownBy w' none ∧ w'.heap.size = w.heap.size + 1 := by
  go_enter Try.func21, Try.ntmps21
  go_wp2_with (first | (refine wpl_build ?g 89 #[(0, .const (.bool true))] ?ho #[(0, .bool true)] ?hv (.agg plA) (run_buildPl _) ?_; (case g => rfl); (case ho => rfl); (case hv => simp [Act.eval])) | (refine wpl_build ?g 92 #[(1, .tmp 1)] ?ho #[(1, .agg plA)] ?hv (.agg bkA) (run_buildBk _) ?_; (case g => rfl); (case ho => rfl); (case hv => simp [Act.eval])) | (refine wpl_box ?g 92 (.tmp 2) ?ho (.agg bkA) ?hv _ (run_boxBk bkA _) ?_; (case g => rfl); (case ho => rfl); (case hv => simp [Act.eval])) | fail)
  go_ret
  refine ⟨rfl, ⟨noCards 64, ?_, rfl, rfl, rfl⟩, World.grownBy_alloc w _ none, by simp⟩
  exact alloc_at w bkA 92

/-- What is no book: nil, or one that nobody made. -/
def NoBk (w : World) (v : Value) : Prop := v = .pointer none ∨ ∃ b, v = .pointer (some ⟨b, 0, none⟩) ∧ w.cell? ⟨b, 576, none⟩ = some (.bool false)
theorem NoBk.keep {w w' : World} {v : Value} (h : NoBk w v) (g : w.grownBy w' none) : NoBk w' v := by
  rcases h with h | ⟨b, e, h⟩
  · exact Or.inl h
  · exact Or.inr ⟨b, e, g.cell h (by simp)⟩
theorem isBook_yes (b : Nat) (n : Nat) (p : Pl) (w : World) (F : Flags w b n p) : Calls Try.prog 66 #[.pointer (some ⟨b, 0, none⟩)] w fun e w' => e = .returned (.bool true) ∧ w' = w := by
  have c := F.made
  go_enter Try.func66, Try.ntmps66
  go_wp2
  go_ret
  exact ⟨rfl, rfl⟩
theorem isBook_no (v : Value) (w : World) (h : NoBk w v) : Calls Try.prog 66 #[v] w fun e w' => e = .returned (.bool false) ∧ w' = w := by
  rcases h with rfl | ⟨b, rfl, c⟩
  · go_enter Try.func66, Try.ntmps66
    go_wp2
    go_ret
    exact ⟨rfl, rfl⟩
  · go_enter Try.func66, Try.ntmps66
    go_wp2
    go_ret
    exact ⟨rfl, rfl⟩
theorem refusal_yes (b : Nat) (n : Nat) (p : Pl) (w : World) (F : Flags w b n p) : Calls Try.prog 51 #[.pointer (some ⟨b, 0, none⟩)] w fun e w' => e = .returned (.int .i64 (if p.shut then 7 else 0)) ∧ w' = w := by
  have c := F.shut
  have HF : Hid (Flags w b n p) := F
  cases hs : p.shut
  all_goals
    rw [hs] at c
    go_enter Try.func51, Try.ntmps51
    go_wp2_with (first | (go_at_call 66; refine (isBook_yes b n p _ HF.out).mono ?_; rintro e w1 ⟨rfl, h1⟩; obtain rfl : w = w1 := h1.symm) | fail)
    go_ret
    exact ⟨rfl, rfl⟩
theorem refusal_no (v : Value) (w : World) (h : NoBk w v) : Calls Try.prog 51 #[v] w fun e w' => e = .returned (.int .i64 1) ∧ w' = w := by
  go_enter Try.func51, Try.ntmps51
  go_wp2_with (first | (go_at_call 66; refine (isBook_no _ _ h).mono ?_; rintro e w1 ⟨rfl, h1⟩; obtain rfl : w = w1 := h1.symm) | fail)
  go_ret
  exact ⟨rfl, rfl⟩
theorem list_yes (b : Nat) (n : Nat) (hn : n ≤ 64) (p : Pl) (w : World) (F : Flags w b n p) : Calls Try.prog 59 #[.pointer (some ⟨b, 0, none⟩)] w fun e w' => e = .returned (.slice (some ⟨b, 0, none⟩) n 64) ∧ w.grownBy w' none ∧ w'.heap.size = w.heap.size := by
  have c := F.count
  have HF : Hid (Flags w b n p) := F
  have h0 : (0 : Int) ≤ (n : Int) := by omega
  have h1 : (n : Int) ≤ 64 := by omega
  go_enter Try.func59, Try.ntmps59
  go_wp2_with (first | (go_at_call 66; refine (isBook_yes b n p _ HF.out).mono ?_; rintro e w1 ⟨rfl, h1⟩; obtain rfl : w = w1 := h1.symm) | fail)
  go_quiet (fail)
  go_wp2
  go_ret
  exact ⟨rfl, grown_drewN _ _ _, rfl⟩
theorem list_no' (v : Value) (w : World) (h : NoBk w v) : Calls Try.prog 59 #[v] w fun e w' => e = .returned (.slice none 0 0) ∧ w' = w := by
  go_enter Try.func59, Try.ntmps59
  go_wp2_with (first | (go_at_call 66; refine (isBook_no _ _ h).mono ?_; rintro e w1 ⟨rfl, h1⟩; obtain rfl : w = w1 := h1.symm) | fail)
  go_ret
  exact ⟨rfl, rfl⟩
end Go.Proofs.Ytpoicbefemjckaa
