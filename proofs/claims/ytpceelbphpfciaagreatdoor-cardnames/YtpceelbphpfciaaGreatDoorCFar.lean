/-
  What a word behind the first four of a card's text is read as: readNumber, kindOf, readTrait, readForce, readFurther.
-/
import Derived.Test.YtpceelbphpfciaaGreatDoorTset
import Derived.Deep.QuietTactic
namespace Go.Proofs.YtpceelbphpfciaaGreatDoor
open Go.RowKit

def rnE (x : Lib.NumEnd Int) (e : Ending) : Prop := match x with
  | .ok v => e = .returned (.tuple #[.int .i64 v, .bool true])
  | _ => ∃ v : Int, e = .returned (.tuple #[.int .i64 v, .bool false])
theorem cut_any (s sep : ByteArray) (hs : s.size < 4294967281) (w : World) (L : LaidAt w) : Calls Tryz.prog 96 #[.string s, .string sep] w fun e w' => e = .returned (.tuple #[.string ⟨(Lib.cut s.data.toList sep.data.toList).1.toArray⟩, .string ⟨(Lib.cut s.data.toList sep.data.toList).2.1.toArray⟩, .bool (Lib.cut s.data.toList sep.data.toList).2.2]) ∧ w.grownBy w' none := by
  obtain ⟨m, hm⟩ := L.ml
  refine (Any.strings_Cut Tryz.lays145 s sep m w hs hm).mono ?_
  rintro e w' ⟨rfl, n, rfl⟩
  exact ⟨rfl, grown_drewN _ _ _⟩
theorem cutPrefix_any (s p : ByteArray) (w : World) : Calls Tryz.prog 164 #[.string s, .string p] w fun e w' => e = .returned (.tuple #[.string ⟨(Lib.trimPrefix s.data.toList p.data.toList).toArray⟩, .bool (Lib.hasPrefix s.data.toList p.data.toList)]) ∧ w' = w := Any.strings_CutPrefix Tryz.lays103 s p w
set_option maxHeartbeats 2000000 in
set_option maxRecDepth 100000 in
theorem rnum_any (s : ByteArray) (hs : s.size ≤ 1000) (w : World) (L : LaidAt w) : Calls Tryz.prog 139 #[.string s] w fun e w' => rnE (Lib.atoiAll s.data.toList) e ∧ w.grownBy w' none := by
  have c := atoi_any s (by omega) w L.er
  have iy := iface_yes
  have ino := iface_no
  clear hs L
  cases hx : Lib.atoiAll s.data.toList with
  | ok v =>
    rw [hx] at c
    go_enter Tryz.func139, Tryz.ntmps139
    go_wp2_with (first | (go_at_call 154; refine c.mono ?_; rintro e w1 ⟨he, g1⟩; have he : e = .returned (.tuple #[.int .i64 v, .nilIface]) := he; subst he) | fail)
    go_quiet (fail)
    go_wp2
    go_ret2
    exact ⟨rfl, grown_trans g1 (grown_drewN _ _ _)⟩
  | _ =>
    rw [hx] at c
    go_enter Tryz.func139, Tryz.ntmps139
    go_wp2_with (first | (go_at_call 154; refine c.mono ?_; rintro e w1 ⟨⟨v, te, pe, rfl⟩, g1⟩) | fail)
    go_quiet (fail)
    go_wp2
    go_ret2
    exact ⟨⟨v, rfl⟩, grown_trans g1 (grown_drewN _ _ _)⟩
theorem kindOf_any (s : ByteArray) (w : World) : Calls Tryz.prog 141 #[.string s] w fun e w' => e = .returned (.int .u8 (idx kindW s.data.toList : Nat)) ∧ w' = w := by
  have hd := Lib.toList_data s
  by_cases h1 : s.data.toList = [117, 110, 105, 116]
  · have k1 : (s.toList == [117, 110, 105, 116]) = true := by rw [hd, h1]; rfl
    have e : ((idx kindW s.data.toList : Nat) : Int) = 1 := by rw [h1]; decide
    rw [e]
    clear e h1 hd
    go_enter Tryz.func141, Tryz.ntmps141
    go_wp2
    go_ret
    exact ⟨rfl, rfl⟩
  have k1 : (s.toList == [117, 110, 105, 116]) = false := by rw [hd]; simpa using h1
  by_cases h2 : s.data.toList = [115, 112, 101, 108, 108]
  · have k2 : (s.toList == [115, 112, 101, 108, 108]) = true := by rw [hd, h2]; rfl
    have e : ((idx kindW s.data.toList : Nat) : Int) = 2 := by rw [h2]; decide
    rw [e]
    clear e h1 h2 hd
    go_enter Tryz.func141, Tryz.ntmps141
    go_wp2
    go_ret
    exact ⟨rfl, rfl⟩
  have k2 : (s.toList == [115, 112, 101, 108, 108]) = false := by rw [hd]; simpa using h2
  by_cases h3 : s.data.toList = [114, 101, 108, 105, 99]
  · have k3 : (s.toList == [114, 101, 108, 105, 99]) = true := by rw [hd, h3]; rfl
    have e : ((idx kindW s.data.toList : Nat) : Int) = 3 := by rw [h3]; decide
    rw [e]
    clear e h1 h2 h3 hd
    go_enter Tryz.func141, Tryz.ntmps141
    go_wp2
    go_ret
    exact ⟨rfl, rfl⟩
  have k3 : (s.toList == [114, 101, 108, 105, 99]) = false := by rw [hd]; simpa using h3
  have e : ((idx kindW s.data.toList : Nat) : Int) = 0 := by
    rw [idx_none]
    · rfl
    · simp [kindW, h1, h2, h3]
  rw [e]
  clear e h1 h2 h3 hd
  go_enter Tryz.func141, Tryz.ntmps141
  go_wp2
  go_ret
  exact ⟨rfl, rfl⟩
theorem CAt.po {w : World} {q : Nat} {h : Hd} {v : Value} (k : CAt w q h v) (x : Int) : CAt (w.setCell ⟨q, 4, none⟩ (.int .i64 x)) q { h with po := x } v := block_set k 4 _
theorem CAt.he {w : World} {q : Nat} {h : Hd} {v : Value} (k : CAt w q h v) (x : Int) : CAt (w.setCell ⟨q, 5, none⟩ (.int .i64 x)) q { h with he := x } v := block_set k 5 _
theorem CAt.tr {w : World} {q : Nat} {h : Hd} {v : Value} (k : CAt w q h v) (x : Int) : CAt (w.setCell ⟨q, 6, none⟩ (.int .u16 x)) q { h with tr := x } v := block_set k 6 _
theorem CAt.tk {w : World} {q : Nat} {h : Hd} {v : Value} (k : CAt w q h v) (x : Bool) : CAt (w.setCell ⟨q, 7, none⟩ (.bool x)) q { h with tk := x } v := block_set k 7 _
set_option maxHeartbeats 2000000 in
set_option maxRecDepth 100000 in
theorem rtrait_any (s : ByteArray) (q : Nat) (h : Hd) (v : Value) (w : World) (L : LaidAt w) (A : CAt w q h v) : Calls Tryz.prog 165 #[.pointer (some ⟨q, 0, none⟩), .string s] w fun e w' => e = .returned (.bool (!decide (idx traitW s.data.toList = 0))) ∧ CAt w' q { h with tr := tWith h.tr (idx traitW s.data.toList : Nat) } v ∧ w.grownBy w' (some q) := by
  have c := tof_any s w L.tr
  rw [Lib.toList_data, (trI_idx _).1, (trI_idx _).2] at c
  have f := A.free 6
  have c6 := A.cells.2.2.2.2.2.2.1
  have HA : Hid (CAt w q h v) := A
  clear L A
  go_enter Tryz.func165, Tryz.ntmps165
  go_wp2_with (first | (go_at_call 155; refine c.mono ?_; rintro e w1 ⟨rfl, h9⟩; obtain rfl : w = w1 := h9.symm) | (go_at_call 181; refine (with_any _ _ _).mono ?_; rintro e w1 ⟨rfl, h9⟩; obtain rfl : w = w1 := h9.symm) | fail)
  go_ret
  exact ⟨rfl, HA.out.tr _, grown_set _ _ _ _⟩
end Go.Proofs.YtpceelbphpfciaaGreatDoor
