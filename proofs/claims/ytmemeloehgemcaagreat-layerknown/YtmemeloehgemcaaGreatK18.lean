/-
  A card that was handed in, read as data: its fields, and where its parts lie.
  CopyParts: the same parts, in new memory.
  LentParts, SameParts, KeptParts: a list is lent with two more behind it; two lists are held against each other; a lent list is as it was.
  KeptParts: is a lent list as it was? LentCard: a card with its parts lent.
  What a book is filled with (cards, marks, whether it stays open), read as data.
  A thing, features, four numbers of marks, read as data.
  Layers in memory: things, features, standing effects, rows; the table.
-/
import Derived.Test.YtmemeloehgemcaaGreatK15
import Derived.ProofKit
import Derived.OpenShut
import Derived.ChangeOld
import Derived.Deep.Slices
import Derived.SizedLaws
import Derived.Test.YtmemeloehgemcaaGreatK4
import Derived.Test.YtmemeloehgemcaaGreatK9
import Derived.ChangeSlices
import Derived.Test.YtmemeloehgemcaaGreatK16
import Derived.Laws.IdiomArrays
import Derived.ChangeAt
import Derived.Test.YtmemeloehgemcaaGreatLyR
namespace Go.Proofs.YtmemeloehgemcaaGreat
open Go.ChangeShapes Go.WideShapes Go.ChangeAt Go.RowKit Go.Deep

end Go.Proofs.YtmemeloehgemcaaGreat
namespace Go.Proofs.YtmemeloehgemcaaGreat
open Go.RowKit

end Go.Proofs.YtmemeloehgemcaaGreat
namespace Go.Proofs.YtmemeloehgemcaaGreat
open Go.RowKit

end Go.Proofs.YtmemeloehgemcaaGreat
namespace Go.Proofs.YtmemeloehgemcaaGreat
open Go.RowKit

end Go.Proofs.YtmemeloehgemcaaGreat
namespace Go.Proofs.YtmemeloehgemcaaGreat
open Go.ChangeShapes Go.WideShapes Go.ChangeAt Go.RowKit Go.Deep

end Go.Proofs.YtmemeloehgemcaaGreat
namespace Go.Proofs.YtmemeloehgemcaaGreat
open Go.ChangeShapes Go.WideShapes Go.ChangeAt Go.RowKit Go.Deep

theorem Tryz.own : ownKnob Tryz.prog.godebug = none := by kernel_rfl
def thv (t : Th) : Value := .agg #[.int .i64 t.card, .int .i64 t.owner, .int .u8 t.place, .int .i64 t.stamp, .int .i64 t.hurt, .int .i64 t.m0, .int .i64 t.m1, .int .i64 t.m2, .int .i64 t.m3, .int .i64 t.done, .bool t.fresh]
end Go.Proofs.YtmemeloehgemcaaGreat
namespace Go.Proofs.YtmemeloehgemcaaGreat
open Go.RowKit

structure Rv where
  r : Rw
  pa : Option Addr
  ca : Nat
def Rv.u (x : Rv) : Value := .slice x.pa x.r.ps.length x.ca
def rws (X : List Rv) : List Rw := X.map Rv.r
theorem rws_len (X : List Rv) : (rws X).length = X.length := List.length_map _
theorem rws_get {X : List Rv} {i : Nat} (h : i < X.length) : (rws X).getD i Rw.none = X[i].r := by
  unfold rws
  rw [List.getD_eq_getElem?_getD, List.getElem?_map, List.getElem?_eq_getElem h]
  rfl
def thc (t : Th) : List Value := [.int .i64 t.card, .int .i64 t.owner, .int .u8 t.place, .int .i64 t.stamp, .int .i64 t.hurt, .int .i64 t.m0, .int .i64 t.m1, .int .i64 t.m2, .int .i64 t.m3, .int .i64 t.done, .bool t.fresh]
theorem thc_ones (t : Th) : ∀ v ∈ thc t, v.oneCell' = true := fun v h => by
  simp only [thc, List.mem_cons, List.not_mem_nil, or_false] at h
  rcases h with h | h | h | h | h | h | h | h | h | h | h <;> (subst h; rfl)
def thR : RecT Th := ⟨11, thc, fun _ => rfl, thc_ones, by decide⟩
theorem th_cells {w : World} {g o : Nat} {t : Th} (h : w.rangeAt g o (thc t)) : w.cell? ⟨g, o, none⟩ = some (.int .i64 t.card) ∧ w.cell? ⟨g, o + 1, none⟩ = some (.int .i64 t.owner) ∧ w.cell? ⟨g, o + 2, none⟩ = some (.int .u8 t.place) ∧ w.cell? ⟨g, o + 3, none⟩ = some (.int .i64 t.stamp) ∧ w.cell? ⟨g, o + 4, none⟩ = some (.int .i64 t.hurt) ∧ w.cell? ⟨g, o + 5, none⟩ = some (.int .i64 t.m0) ∧ w.cell? ⟨g, o + 6, none⟩ = some (.int .i64 t.m1) ∧ w.cell? ⟨g, o + 7, none⟩ = some (.int .i64 t.m2) ∧ w.cell? ⟨g, o + 8, none⟩ = some (.int .i64 t.m3) ∧ w.cell? ⟨g, o + 9, none⟩ = some (.int .i64 t.done) ∧ w.cell? ⟨g, o + 10, none⟩ = some (.bool t.fresh) :=
  ⟨h 0 _ rfl, h 1 _ rfl, h 2 _ rfl, h 3 _ rfl, h 4 _ rfl, h 5 _ rfl, h 6 _ rfl, h 7 _ rfl, h 8 _ rfl, h 9 _ rfl, h 10 _ rfl⟩
def ThB (w : World) (g : Nat) (t : Th) : Prop := w.heap[g]? = some (.cells #[.int .i64 t.card, .int .i64 t.owner, .int .u8 t.place, .int .i64 t.stamp, .int .i64 t.hurt, .int .i64 t.m0, .int .i64 t.m1, .int .i64 t.m2, .int .i64 t.m3, .int .i64 t.done, .bool t.fresh] 60 (0, 0))
theorem th_box {w : World} {g : Nat} {t : Th} (h : ThB w g t) : w.cell? ⟨g, 0, none⟩ = some (.int .i64 t.card) ∧ w.cell? ⟨g, 1, none⟩ = some (.int .i64 t.owner) ∧ w.cell? ⟨g, 2, none⟩ = some (.int .u8 t.place) ∧ w.cell? ⟨g, 3, none⟩ = some (.int .i64 t.stamp) ∧ w.cell? ⟨g, 4, none⟩ = some (.int .i64 t.hurt) ∧ w.cell? ⟨g, 5, none⟩ = some (.int .i64 t.m0) ∧ w.cell? ⟨g, 6, none⟩ = some (.int .i64 t.m1) ∧ w.cell? ⟨g, 7, none⟩ = some (.int .i64 t.m2) ∧ w.cell? ⟨g, 8, none⟩ = some (.int .i64 t.m3) ∧ w.cell? ⟨g, 9, none⟩ = some (.int .i64 t.done) ∧ w.cell? ⟨g, 10, none⟩ = some (.bool t.fresh) :=
  ⟨(block_cell h 0).trans rfl, (block_cell h 1).trans rfl, (block_cell h 2).trans rfl, (block_cell h 3).trans rfl, (block_cell h 4).trans rfl, (block_cell h 5).trans rfl, (block_cell h 6).trans rfl, (block_cell h 7).trans rfl, (block_cell h 8).trans rfl, (block_cell h 9).trans rfl, (block_cell h 10).trans rfl⟩
def fec (f : Fe) : List Value := [.int .i64 f.ho, .int .u8 f.su, .int .u16 f.tr, .int .i64 f.po, .int .i64 f.he]
theorem fec_ones (f : Fe) : ∀ v ∈ fec f, v.oneCell' = true := fun v h => by
  simp only [fec, List.mem_cons, List.not_mem_nil, or_false] at h
  rcases h with h | h | h | h | h <;> (subst h; rfl)
def feR : RecT Fe := ⟨5, fec, fun _ => rfl, fec_ones, by decide⟩
theorem fe_cells {w : World} {g o : Nat} {f : Fe} (h : w.rangeAt g o (fec f)) : w.cell? ⟨g, o, none⟩ = some (.int .i64 f.ho) ∧ w.cell? ⟨g, o + 1, none⟩ = some (.int .u8 f.su) ∧ w.cell? ⟨g, o + 2, none⟩ = some (.int .u16 f.tr) ∧ w.cell? ⟨g, o + 3, none⟩ = some (.int .i64 f.po) ∧ w.cell? ⟨g, o + 4, none⟩ = some (.int .i64 f.he) :=
  ⟨h 0 _ rfl, h 1 _ rfl, h 2 _ rfl, h 3 _ rfl, h 4 _ rfl⟩
def FeB (w : World) (g : Nat) (f : Fe) : Prop := w.heap[g]? = some (.cells #[.int .i64 f.ho, .int .u8 f.su, .int .u16 f.tr, .int .i64 f.po, .int .i64 f.he] 64 (0, 0))
theorem fe_box {w : World} {g : Nat} {f : Fe} (h : FeB w g f) : w.cell? ⟨g, 0, none⟩ = some (.int .i64 f.ho) ∧ w.cell? ⟨g, 1, none⟩ = some (.int .u8 f.su) ∧ w.cell? ⟨g, 2, none⟩ = some (.int .u16 f.tr) ∧ w.cell? ⟨g, 3, none⟩ = some (.int .i64 f.po) ∧ w.cell? ⟨g, 4, none⟩ = some (.int .i64 f.he) :=
  ⟨(block_cell h 0).trans rfl, (block_cell h 1).trans rfl, (block_cell h 2).trans rfl, (block_cell h 3).trans rfl, (block_cell h 4).trans rfl⟩
def sdc (s : Sd) : List Value := [.int .i64 s.th, .int .i64 s.pl, .int .u8 s.wh.wn, .int .u8 s.wh.vb, .int .u8 s.wh.wm, .int .i64 s.wh.ct, .int .u8 s.wh.su, .int .u8 s.wh.tr, .int .u8 s.wh.mr, .string s.wh.nm]
def sdv (s : Sd) : Value := .agg #[.int .i64 s.th, .int .i64 s.pl, .int .u8 s.wh.wn, .int .u8 s.wh.vb, .int .u8 s.wh.wm, .int .i64 s.wh.ct, .int .u8 s.wh.su, .int .u8 s.wh.tr, .int .u8 s.wh.mr, .string s.wh.nm]
theorem sdc_ones (s : Sd) : ∀ v ∈ sdc s, v.oneCell' = true := fun v h => by
  simp only [sdc, List.mem_cons, List.not_mem_nil, or_false] at h
  rcases h with h | h | h | h | h | h | h | h | h | h <;> (subst h; rfl)
def sdR : RecT Sd := ⟨10, sdc, fun _ => rfl, sdc_ones, by decide⟩
theorem sd_cells {w : World} {g o : Nat} {s : Sd} (h : w.rangeAt g o (sdc s)) : w.cell? ⟨g, o, none⟩ = some (.int .i64 s.th) ∧ w.cell? ⟨g, o + 1, none⟩ = some (.int .i64 s.pl) ∧ w.cell? ⟨g, o + 2, none⟩ = some (.int .u8 s.wh.wn) ∧ w.cell? ⟨g, o + 3, none⟩ = some (.int .u8 s.wh.vb) ∧ w.cell? ⟨g, o + 4, none⟩ = some (.int .u8 s.wh.wm) ∧ w.cell? ⟨g, o + 5, none⟩ = some (.int .i64 s.wh.ct) ∧ w.cell? ⟨g, o + 6, none⟩ = some (.int .u8 s.wh.su) ∧ w.cell? ⟨g, o + 7, none⟩ = some (.int .u8 s.wh.tr) ∧ w.cell? ⟨g, o + 8, none⟩ = some (.int .u8 s.wh.mr) ∧ w.cell? ⟨g, o + 9, none⟩ = some (.string s.wh.nm) :=
  ⟨h 0 _ rfl, h 1 _ rfl, h 2 _ rfl, h 3 _ rfl, h 4 _ rfl, h 5 _ rfl, h 6 _ rfl, h 7 _ rfl, h 8 _ rfl, h 9 _ rfl⟩
def SdB (w : World) (g : Nat) (s : Sd) : Prop := w.heap[g]? = some (.cells #[.int .i64 s.th, .int .i64 s.pl, .int .u8 s.wh.wn, .int .u8 s.wh.vb, .int .u8 s.wh.wm, .int .i64 s.wh.ct, .int .u8 s.wh.su, .int .u8 s.wh.tr, .int .u8 s.wh.mr, .string s.wh.nm] 49 (0, 0))
theorem sd_box {w : World} {g : Nat} {s : Sd} (h : SdB w g s) : w.cell? ⟨g, 0, none⟩ = some (.int .i64 s.th) ∧ w.cell? ⟨g, 1, none⟩ = some (.int .i64 s.pl) ∧ w.cell? ⟨g, 2, none⟩ = some (.int .u8 s.wh.wn) ∧ w.cell? ⟨g, 3, none⟩ = some (.int .u8 s.wh.vb) ∧ w.cell? ⟨g, 4, none⟩ = some (.int .u8 s.wh.wm) ∧ w.cell? ⟨g, 5, none⟩ = some (.int .i64 s.wh.ct) ∧ w.cell? ⟨g, 6, none⟩ = some (.int .u8 s.wh.su) ∧ w.cell? ⟨g, 7, none⟩ = some (.int .u8 s.wh.tr) ∧ w.cell? ⟨g, 8, none⟩ = some (.int .u8 s.wh.mr) ∧ w.cell? ⟨g, 9, none⟩ = some (.string s.wh.nm) :=
  ⟨(block_cell h 0).trans rfl, (block_cell h 1).trans rfl, (block_cell h 2).trans rfl, (block_cell h 3).trans rfl, (block_cell h 4).trans rfl, (block_cell h 5).trans rfl, (block_cell h 6).trans rfl, (block_cell h 7).trans rfl, (block_cell h 8).trans rfl, (block_cell h 9).trans rfl⟩
def sec (e : Se) : List Value := [.int .i64 e.s.th, .int .i64 e.s.pl, .int .u8 e.s.wh.wn, .int .u8 e.s.wh.vb, .int .u8 e.s.wh.wm, .int .i64 e.s.wh.ct, .int .u8 e.s.wh.su, .int .u8 e.s.wh.tr, .int .u8 e.s.wh.mr, .string e.s.wh.nm, .int .i64 (e.ro : Int)]
def sev (e : Se) : Value := .agg #[.int .i64 e.s.th, .int .i64 e.s.pl, .int .u8 e.s.wh.wn, .int .u8 e.s.wh.vb, .int .u8 e.s.wh.wm, .int .i64 e.s.wh.ct, .int .u8 e.s.wh.su, .int .u8 e.s.wh.tr, .int .u8 e.s.wh.mr, .string e.s.wh.nm, .int .i64 (e.ro : Int)]
theorem sec_ones (e : Se) : ∀ v ∈ sec e, v.oneCell' = true := fun v h => by
  simp only [sec, List.mem_cons, List.not_mem_nil, or_false] at h
  rcases h with h | h | h | h | h | h | h | h | h | h | h <;> (subst h; rfl)
def seR : RecT Se := ⟨11, sec, fun _ => rfl, sec_ones, by decide⟩
theorem se_cells {w : World} {g o : Nat} {e : Se} (h : w.rangeAt g o (sec e)) : w.cell? ⟨g, o, none⟩ = some (.int .i64 e.s.th) ∧ w.cell? ⟨g, o + 1, none⟩ = some (.int .i64 e.s.pl) ∧ w.cell? ⟨g, o + 2, none⟩ = some (.int .u8 e.s.wh.wn) ∧ w.cell? ⟨g, o + 3, none⟩ = some (.int .u8 e.s.wh.vb) ∧ w.cell? ⟨g, o + 4, none⟩ = some (.int .u8 e.s.wh.wm) ∧ w.cell? ⟨g, o + 5, none⟩ = some (.int .i64 e.s.wh.ct) ∧ w.cell? ⟨g, o + 6, none⟩ = some (.int .u8 e.s.wh.su) ∧ w.cell? ⟨g, o + 7, none⟩ = some (.int .u8 e.s.wh.tr) ∧ w.cell? ⟨g, o + 8, none⟩ = some (.int .u8 e.s.wh.mr) ∧ w.cell? ⟨g, o + 9, none⟩ = some (.string e.s.wh.nm) ∧ w.cell? ⟨g, o + 10, none⟩ = some (.int .i64 (e.ro : Int)) :=
  ⟨h 0 _ rfl, h 1 _ rfl, h 2 _ rfl, h 3 _ rfl, h 4 _ rfl, h 5 _ rfl, h 6 _ rfl, h 7 _ rfl, h 8 _ rfl, h 9 _ rfl, h 10 _ rfl⟩
def SeB (w : World) (g : Nat) (e : Se) : Prop := w.heap[g]? = some (.cells #[.int .i64 e.s.th, .int .i64 e.s.pl, .int .u8 e.s.wh.wn, .int .u8 e.s.wh.vb, .int .u8 e.s.wh.wm, .int .i64 e.s.wh.ct, .int .u8 e.s.wh.su, .int .u8 e.s.wh.tr, .int .u8 e.s.wh.mr, .string e.s.wh.nm, .int .i64 (e.ro : Int)] 123 (0, 0))
theorem se_box {w : World} {g : Nat} {e : Se} (h : SeB w g e) : w.cell? ⟨g, 0, none⟩ = some (.int .i64 e.s.th) ∧ w.cell? ⟨g, 1, none⟩ = some (.int .i64 e.s.pl) ∧ w.cell? ⟨g, 2, none⟩ = some (.int .u8 e.s.wh.wn) ∧ w.cell? ⟨g, 3, none⟩ = some (.int .u8 e.s.wh.vb) ∧ w.cell? ⟨g, 4, none⟩ = some (.int .u8 e.s.wh.wm) ∧ w.cell? ⟨g, 5, none⟩ = some (.int .i64 e.s.wh.ct) ∧ w.cell? ⟨g, 6, none⟩ = some (.int .u8 e.s.wh.su) ∧ w.cell? ⟨g, 7, none⟩ = some (.int .u8 e.s.wh.tr) ∧ w.cell? ⟨g, 8, none⟩ = some (.int .u8 e.s.wh.mr) ∧ w.cell? ⟨g, 9, none⟩ = some (.string e.s.wh.nm) ∧ w.cell? ⟨g, 10, none⟩ = some (.int .i64 (e.ro : Int)) :=
  ⟨(block_cell h 0).trans rfl, (block_cell h 1).trans rfl, (block_cell h 2).trans rfl, (block_cell h 3).trans rfl, (block_cell h 4).trans rfl, (block_cell h 5).trans rfl, (block_cell h 6).trans rfl, (block_cell h 7).trans rfl, (block_cell h 8).trans rfl, (block_cell h 9).trans rfl, (block_cell h 10).trans rfl⟩
def rvc (x : Rv) : List Value := [.int .i64 x.r.nu, .int .i64 x.r.st, .string x.r.h.nm, .int .u8 x.r.h.su, .int .u8 x.r.h.kd, .int .i64 x.r.h.co, .int .i64 x.r.h.po, .int .i64 x.r.h.he, .int .u16 x.r.h.tr, .bool x.r.h.tk, x.u]
theorem rvc_ones (x : Rv) : ∀ v ∈ rvc x, v.oneCell' = true := fun v h => by
  simp only [rvc, List.mem_cons, List.not_mem_nil, or_false] at h
  rcases h with h | h | h | h | h | h | h | h | h | h | h <;> (subst h; rfl)
def rvR : RecT Rv := ⟨11, rvc, fun _ => rfl, rvc_ones, by decide⟩
theorem rv_cells {w : World} {g o : Nat} {x : Rv} (h : w.rangeAt g o (rvc x)) : w.cell? ⟨g, o, none⟩ = some (.int .i64 x.r.nu) ∧ w.cell? ⟨g, o + 1, none⟩ = some (.int .i64 x.r.st) ∧ w.cell? ⟨g, o + 2, none⟩ = some (.string x.r.h.nm) ∧ w.cell? ⟨g, o + 3, none⟩ = some (.int .u8 x.r.h.su) ∧ w.cell? ⟨g, o + 4, none⟩ = some (.int .u8 x.r.h.kd) ∧ w.cell? ⟨g, o + 5, none⟩ = some (.int .i64 x.r.h.co) ∧ w.cell? ⟨g, o + 6, none⟩ = some (.int .i64 x.r.h.po) ∧ w.cell? ⟨g, o + 7, none⟩ = some (.int .i64 x.r.h.he) ∧ w.cell? ⟨g, o + 8, none⟩ = some (.int .u16 x.r.h.tr) ∧ w.cell? ⟨g, o + 9, none⟩ = some (.bool x.r.h.tk) ∧ w.cell? ⟨g, o + 10, none⟩ = some (x.u) :=
  ⟨h 0 _ rfl, h 1 _ rfl, h 2 _ rfl, h 3 _ rfl, h 4 _ rfl, h 5 _ rfl, h 6 _ rfl, h 7 _ rfl, h 8 _ rfl, h 9 _ rfl, h 10 _ rfl⟩
def tbv (vr vf : Value) : Value := .agg #[vr, vf]
def TbB (w : World) (g : Nat) (vr vf : Value) : Prop := w.heap[g]? = some (.cells #[vr, vf] 118 (0, 0))
theorem tb_box {w : World} {g : Nat} {vr vf : Value} (h : TbB w g vr vf) : w.cell? ⟨g, 0, none⟩ = some vr ∧ w.cell? ⟨g, 1, none⟩ = some vf := ⟨(block_cell h 0).trans rfl, (block_cell h 1).trans rfl⟩
structure TbAt (w : World) (vr vf : Value) (X : List Rv) (F : List Fe) : Prop where
  rows : rvR.At w vr X
  parts : ∀ x ∈ X, PsAt w x.u x.r.ps ∧ x.r.ps.length ≤ 4
  fs : feR.At w vf F
  len : F.length = X.length
  few : X.length ≤ 16
theorem TbAt.keep {w w' : World} {vr vf : Value} {X : List Rv} {F : List Fe} (h : TbAt w vr vf X F) (g : w.grownBy w' none) : TbAt w' vr vf X F := ⟨h.rows.keep g, fun x hx => ⟨(h.parts x hx).1.keep g, (h.parts x hx).2⟩, h.fs.keep g, h.len, h.few⟩
theorem TbAt.row {w : World} {vr vf : Value} {X : List Rv} {F : List Fe} (h : TbAt w vr vf X F) {i : Nat} (hi : i < X.length) : ∃ g off cap, vr = .slice (some ⟨g, off, none⟩) X.length cap ∧ w.rangeAt g (off + i * 11) (rvc X[i]) := h.rows.there hi
theorem TbAt.fe {w : World} {vr vf : Value} {X : List Rv} {F : List Fe} (h : TbAt w vr vf X F) {i : Nat} (hi : i < X.length) : ∃ g off cap, vf = .slice (some ⟨g, off, none⟩) F.length cap ∧ w.rangeAt g (off + i * 5) (fec (F.getD i Fe.none)) := by
  have hi' : i < F.length := by rw [h.len]; exact hi
  have := h.fs.there hi'
  rw [show F.getD i Fe.none = F[i] from by rw [List.getD_eq_getElem?_getD, List.getElem?_eq_getElem hi']; rfl]
  exact this
end Go.Proofs.YtmemeloehgemcaaGreat
