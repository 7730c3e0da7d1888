/-
  What the functions of package start answer, one contract a function: New, Note, Close, Closed, over the log's block of YtpoicbefemjckaaMem.
-/
import Derived.Test.YtpoicbefemjckaaLMem
namespace Go.Proofs.Ytpoicbefemjckaa
open Go.RowKit

/-- What is no log: nil, or a block that New did not make. -/
def NoLog (w : World) (p : Option Addr) : Prop := p = none ∨ ∃ b, p = some ⟨b, 0, none⟩ ∧ w.cell? ⟨b, 258, none⟩ = some (.bool false)

set_option maxHeartbeats 400000 in
theorem isLog_nil (w : World) : Calls Try.prog 67 #[.pointer none] w fun e w' => e = .returned (.bool false) ∧ w' = w := by
  go_enter Try.func67, Try.ntmps67
  go_wp2
  go_ret
  exact ⟨rfl, rfl⟩
set_option maxHeartbeats 400000 in
theorem isLog_made (b : Nat) (m : Bool) (w : World) (h : w.cell? ⟨b, 258, none⟩ = some (.bool m)) : Calls Try.prog 67 #[.pointer (some ⟨b, 0, none⟩)] w fun e w' => e = .returned (.bool m) ∧ w' = w := by
  go_enter Try.func67, Try.ntmps67
  go_wp2
  go_ret
  exact ⟨rfl, rfl⟩
theorem isLog_no (p : Option Addr) (w : World) (h : NoLog w p) : Calls Try.prog 67 #[.pointer p] w fun e w' => e = .returned (.bool false) ∧ w' = w := by
  rcases h with rfl | ⟨b, rfl, hc⟩
  · exact isLog_nil w
  · exact isLog_made b false w hc

theorem run_build43 (w : World) : (Instr.build 71 #[(3, .bool true)]).run Try.prog w = .ok (.agg newCells) w := by kernel_rfl
theorem run_box43 (cs : Array Value) (w : World) : (Instr.box 71 (.agg cs)).run Try.prog w = .ok (.pointer (some ⟨w.heap.size, 0, none⟩)) (w.alloc (.cells cs 71)) := by kernel_rfl
set_option maxRecDepth 100000 in
set_option maxHeartbeats 400000 in
theorem new_any (w : World) : Calls Try.prog 30 #[] w fun e w' => e = .returned (.pointer (some ⟨w.heap.size, 0, none⟩)) ∧ LogAt w' w.heap.size [] false ∧ w.grownBy w' none ∧ w'.heap.size = w.heap.size + 1 := by
  go_enter Try.func30, Try.ntmps30
  go_wp2_with (first | (refine wpl_build ?g 71 #[(3, .const (.bool true))] ?ho #[(3, .bool true)] ?hv (.agg newCells) (run_build43 _) ?_; (case g => rfl); (case ho => rfl); (case hv => simp [Act.eval])) | (refine wpl_box ?g 71 (.tmp 1) ?ho (.agg newCells) ?hv _ (run_box43 newCells _) ?_; (case g => rfl); (case ho => rfl); (case hv => simp [Act.eval])))
  go_ret
  refine ⟨rfl, ⟨List.replicate 256 0, by simp, by simp, rfl, ?_⟩, World.grownBy_alloc w _ none, by simp⟩
  show (w.heap.push _)[w.heap.size]? = _
  rw [Array.getElem?_push_size]; rfl

set_option maxRecDepth 100000 in
set_option maxHeartbeats 400000 in
theorem note_ok (b : Nat) (l : List Int) (n : Int) (w : World) (h : LogAt w b l false) (hl : l.length < 256) : Calls Try.prog 31 #[.pointer (some ⟨b, 0, none⟩), .int .i64 n] w fun e w' => e = .returned (.int .i64 l.length) ∧ LogAt w' b (l ++ [n]) false ∧ w.grownBy w' (some b) := by
  obtain ⟨Z, h1, h2, h3, h4⟩ := h
  have c0 := (block_cell h4 l.length).trans (log_note Z _ _ _ h2 _ hl)
  have c1 := (block_cell h4 256).trans (log_count Z _ _ _ h2)
  have c2 := (block_cell h4 257).trans (log_closed Z _ _ _ h2)
  have c3 := (block_cell h4 258).trans (log_made Z _ _ _ h2)
  have f := block_free h4
  have H : Hid (Z.take l.length = l) := h3
  have H4 : Hid (w.heap[b]? = some (.cells (logCells Z l.length false true) 71 (0, 0))) := h4
  clear h3 h4
  go_enter Try.func31, Try.ntmps31
  go_wp2_with (go_at_call 67; refine (isLog_made _ _ _ c3).mono ?_; rintro e w' ⟨rfl, rfl⟩)
  go_ret
  refine ⟨rfl, ⟨Z.set l.length n, by simp; omega, by simp [h2], take_set_snoc Z l n (by omega) H.out, ?_⟩, grown_trans (grown_set _ _ _ _) (grown_set _ _ _ _)⟩
  have e1 := block_set H4.out l.length (.int .i64 n)
  rw [set_note Z _ _ _ h2 _ hl] at e1
  have e2 := block_set e1 256 (.int .i64 ((l ++ [n]).length : Nat))
  rw [set_count (Z.set l.length n) _ _ _ _ (by simp [h2])] at e2
  simpa using e2
set_option maxRecDepth 100000 in
set_option maxHeartbeats 400000 in
theorem note_closed (b : Nat) (l : List Int) (n : Int) (w : World) (h : LogAt w b l true) : Calls Try.prog 31 #[.pointer (some ⟨b, 0, none⟩), .int .i64 n] w fun e w' => e = .returned (.int .i64 (-1)) ∧ w' = w := by
  obtain ⟨Z, h1, h2, h3, h4⟩ := h
  have c2 := (block_cell h4 257).trans (log_closed Z _ _ _ h2)
  have c3 := (block_cell h4 258).trans (log_made Z _ _ _ h2)
  clear h3 h4
  go_enter Try.func31, Try.ntmps31
  go_wp2_with (go_at_call 67; refine (isLog_made _ _ _ c3).mono ?_; rintro e w' ⟨rfl, rfl⟩)
  go_ret
  exact ⟨rfl, rfl⟩
set_option maxRecDepth 100000 in
set_option maxHeartbeats 400000 in
theorem note_full (b : Nat) (l : List Int) (c : Bool) (n : Int) (w : World) (h : LogAt w b l c) (hl : l.length = 256) : Calls Try.prog 31 #[.pointer (some ⟨b, 0, none⟩), .int .i64 n] w fun e w' => e = .returned (.int .i64 (-1)) ∧ w' = w := by
  cases c
  case true => exact note_closed b l n w h
  obtain ⟨Z, h1, h2, h3, h4⟩ := h
  rw [hl] at h4
  have c1 := (block_cell h4 256).trans (log_count Z _ _ _ h2)
  have c2 := (block_cell h4 257).trans (log_closed Z _ _ _ h2)
  have c3 := (block_cell h4 258).trans (log_made Z _ _ _ h2)
  clear h3 h4 hl h1
  go_enter Try.func31, Try.ntmps31
  go_wp2_with (go_at_call 67; refine (isLog_made _ _ _ c3).mono ?_; rintro e w' ⟨rfl, rfl⟩)
  go_ret
  exact ⟨rfl, rfl⟩
set_option maxHeartbeats 400000 in
theorem note_no (p : Option Addr) (n : Int) (w : World) (h : NoLog w p) : Calls Try.prog 31 #[.pointer p, .int .i64 n] w fun e w' => e = .returned (.int .i64 (-1)) ∧ w' = w := by
  go_enter Try.func31, Try.ntmps31
  go_wp2_with (go_at_call 67; refine (isLog_no _ _ h).mono ?_; rintro e w' ⟨rfl, rfl⟩)
  go_ret
  exact ⟨rfl, rfl⟩

set_option maxRecDepth 100000 in
set_option maxHeartbeats 400000 in
theorem close_log (b : Nat) (l : List Int) (c : Bool) (w : World) (h : LogAt w b l c) : Calls Try.prog 32 #[.pointer (some ⟨b, 0, none⟩)] w fun e w' => e = .returned (.tuple #[]) ∧ LogAt w' b l true ∧ w.grownBy w' (some b) := by
  obtain ⟨Z, h1, h2, h3, h4⟩ := h
  have c2 := (block_cell h4 257).trans (log_closed Z _ _ _ h2)
  have c3 := (block_cell h4 258).trans (log_made Z _ _ _ h2)
  have f := block_free h4
  have H : Hid (Z.take l.length = l) := h3
  have H4 : Hid (w.heap[b]? = some (.cells (logCells Z l.length c true) 71 (0, 0))) := h4
  clear h3 h4
  go_enter Try.func32, Try.ntmps32
  go_wp2_with (go_at_call 67; refine (isLog_made _ _ _ c3).mono ?_; rintro e w' ⟨rfl, rfl⟩)
  go_end0
  refine ⟨rfl, ⟨Z, h1, h2, H.out, ?_⟩, grown_set _ _ _ _⟩
  have e1 := block_set H4.out 257 (.bool true)
  rw [set_closed Z _ _ _ _ h2] at e1
  exact e1
set_option maxHeartbeats 400000 in
theorem close_no (p : Option Addr) (w : World) (h : NoLog w p) : Calls Try.prog 32 #[.pointer p] w fun e w' => e = .returned (.tuple #[]) ∧ w' = w := by
  go_enter Try.func32, Try.ntmps32
  go_wp2_with (go_at_call 67; refine (isLog_no _ _ h).mono ?_; rintro e w' ⟨rfl, rfl⟩)
  go_end0
  exact ⟨rfl, rfl⟩

set_option maxRecDepth 100000 in
set_option maxHeartbeats 400000 in
theorem closed_log (b : Nat) (l : List Int) (c : Bool) (w : World) (h : LogAt w b l c) : Calls Try.prog 36 #[.pointer (some ⟨b, 0, none⟩)] w fun e w' => e = .returned (.bool c) ∧ w' = w := by
  obtain ⟨Z, h1, h2, h3, h4⟩ := h
  have c2 := (block_cell h4 257).trans (log_closed Z _ _ _ h2)
  have c3 := (block_cell h4 258).trans (log_made Z _ _ _ h2)
  clear h3 h4
  go_enter Try.func36, Try.ntmps36
  go_wp2_with (go_at_call 67; refine (isLog_made _ _ _ c3).mono ?_; rintro e w' ⟨rfl, rfl⟩)
  go_ret
  exact ⟨rfl, rfl⟩
set_option maxHeartbeats 400000 in
theorem closed_no (p : Option Addr) (w : World) (h : NoLog w p) : Calls Try.prog 36 #[.pointer p] w fun e w' => e = .returned (.bool false) ∧ w' = w := by
  go_enter Try.func36, Try.ntmps36
  go_wp2_with (go_at_call 67; refine (isLog_no _ _ h).mono ?_; rintro e w' ⟨rfl, rfl⟩)
  go_ret
  exact ⟨rfl, rfl⟩

theorem getD_take (Z l : List Int) (h : Z.take l.length = l) (k : Nat) (hk : k < l.length) : Z.getD k 0 = l.getD k 0 := by
  have e : (Z.take l.length).getD k 0 = l.getD k 0 := by rw [h]
  rw [← e]
  simp [List.getD, hk]
set_option maxHeartbeats 400000 in
theorem list_no (p : Option Addr) (w : World) (h : NoLog w p) : Calls Try.prog 35 #[.pointer p] w fun e w' => e = .returned (.slice none 0 0) ∧ w' = w := by
  go_enter Try.func35, Try.ntmps35
  go_wp2_with (go_at_call 67; refine (isLog_no _ _ h).mono ?_; rintro e w' ⟨rfl, rfl⟩)
  go_ret
  exact ⟨rfl, rfl⟩

end Go.Proofs.Ytpoicbefemjckaa
