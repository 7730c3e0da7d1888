/-
  DERIVED: THE SHELF's CONTRACTS AT THIS DUMP, IN PLAIN WORDS (tools/lay-plain.mjs out of 'YtbcggjacjfcldaaGreatDoorLib0.lean', which tools/lay-shelf.mjs wrote): THE SAME DECLARATIONS UNDER THE SAME NAMES: 'import', 'namespace', 'open', 'def', 'theorem' AND NOTHING ELSE: no command of the shelf's: FOR A HAND-IN. Each laying: the table of numbers ('.._ren') and one theorem, a field a fact of the dump's own or the kernel's comparison; each contract: ONE APPLICATION.
  What the library's Itoa and Atoi do in this program; the variables that they read. Each touches nothing that was there.
  A deck's line, as the program reads it: the text up to the first blank, held against the number that it tells; and the name behind the blank.
-/
import Derived.Ground.NamesProg
import Derived.Ground.MpProg
import Derived.Shelf.LaysM
import Derived.Shelf.LaysC
import Derived.Shelf.Strconv.ErrVarAll
import Derived.Shelf.Strconv.Itoa3
import Derived.Test.YtbcggjacjfcldaaGreatDoorProg
import Derived.Test.YtbcggjacjfcldaaGreatDoorCheck
import Derived.Lib.AtoiErrMem
import Derived.Lib.AppendIntMem
import Derived.Test.YtbcggjacjfcldaaGreatDoorD0
import Derived.Lib.AtoiAll
import Derived.Lib.ItoaNum
namespace Go.Proofs
open Go.Shelf
def Tryz.lays172_ren : Go.Shelf.Ren := ⟨fun | 172 => 92 | 244 => 116 | 245 => 117 | 247 => 136 | 279 => 137 | 280 => 138 | 281 => 139 | 282 => 140 | 287 => 150 | 316 => 89 | 171 => 39 | 205 => 151 | 321 => 152 | 322 => 153 | 243 => 70 | 246 => 90 | 283 => 108 | 284 => 109 | 285 => 110 | 286 => 111 | 129 => 130 | 317 => 129 | 318 => 131 | 319 => 132 | 320 => 133 | 337 => 148 | 338 => 149 | n => n, fun | 9 => 9 | 3 => 3 | 75 => 128 | 76 => 129 | 4 => 4 | 5 => 5 | 167 => 166 | 37 => 111 | 0 => 0 | 85 => 167 | 2 => 2 | 168 => 169 | 53 => 145 | 175 => 178 | 46 => 133 | 210 => 181 | 127 => 143 | 145 => 188 | 143 => 186 | 21 => 21 | 171 => 144 | 173 => 148 | 212 => 160 | 51 => 161 | 20 => 20 | 213 => 162 | 232 => 183 | 233 => 184 | 80 => 189 | n => n, fun | 15 => 2 | 16 => 3 | 17 => 1 | 18 => 4 | 19 => 5 | n => n⟩
theorem Tryz.lays172 : Go.Proofs.LaysC.n172 Tryz.prog Tryz.lays172_ren := {
  mixed := by kernel_rfl
  f129 := Tryz.func130.trans (congrArg some (by kernel_rfl))
  f171 := Tryz.func39.trans (congrArg some (by kernel_rfl))
  f172 := Tryz.func92.trans (congrArg some (by kernel_rfl))
  f205 := Tryz.func151.trans (congrArg some (by kernel_rfl))
  f243 := Tryz.func70.trans (congrArg some (by kernel_rfl))
  f244 := Tryz.func116.trans (congrArg some (by kernel_rfl))
  f245 := Tryz.func117.trans (congrArg some (by kernel_rfl))
  f246 := Tryz.func90.trans (congrArg some (by kernel_rfl))
  f247 := Tryz.func136.trans (congrArg some (by kernel_rfl))
  f279 := Tryz.func137.trans (congrArg some (by kernel_rfl))
  f280 := Tryz.func138.trans (congrArg some (by kernel_rfl))
  f281 := Tryz.func139.trans (congrArg some (by kernel_rfl))
  f282 := Tryz.func140.trans (congrArg some (by kernel_rfl))
  f283 := Tryz.func108.trans (congrArg some (by kernel_rfl))
  f284 := Tryz.func109.trans (congrArg some (by kernel_rfl))
  f285 := Tryz.func110.trans (congrArg some (by kernel_rfl))
  f286 := Tryz.func111.trans (congrArg some (by kernel_rfl))
  f287 := Tryz.func150.trans (congrArg some (by kernel_rfl))
  f316 := Tryz.func89.trans (congrArg some (by kernel_rfl))
  f317 := Tryz.func129.trans (congrArg some (by kernel_rfl))
  f318 := Tryz.func131.trans (congrArg some (by kernel_rfl))
  f319 := Tryz.func132.trans (congrArg some (by kernel_rfl))
  f320 := Tryz.func133.trans (congrArg some (by kernel_rfl))
  f321 := Tryz.func152.trans (congrArg some (by kernel_rfl))
  f322 := Tryz.func153.trans (congrArg some (by kernel_rfl))
  f337 := Tryz.func148.trans (congrArg some (by kernel_rfl))
  f338 := Tryz.func149.trans (congrArg some (by kernel_rfl))
  t0 := Tryz.underlying0
  a0 := Tryz.isAgg0
  z0 := Tryz.sizeOf0
  v0 := Tryz.zeroValue0
  t2 := Tryz.underlying2
  a2 := Tryz.isAgg2
  z2 := Tryz.sizeOf2
  v2 := Tryz.zeroValue2
  t3 := Tryz.underlying3
  a3 := Tryz.isAgg3
  z3 := Tryz.sizeOf3
  v3 := Tryz.zeroValue3
  t4 := Tryz.underlying4
  a4 := Tryz.isAgg4
  z4 := Tryz.sizeOf4
  v4 := Tryz.zeroValue4
  t5 := Tryz.underlying5
  a5 := Tryz.isAgg5
  z5 := Tryz.sizeOf5
  v5 := Tryz.zeroValue5
  t9 := Tryz.underlying9
  a9 := Tryz.isAgg9
  z9 := Tryz.sizeOf9
  v9 := Tryz.zeroValue9
  t20 := Tryz.underlying20
  a20 := Tryz.isAgg20
  z20 := Tryz.sizeOf20
  v20 := Tryz.zeroValue20
  t21 := Tryz.underlying21
  a21 := Tryz.isAgg21
  z21 := Tryz.sizeOf21
  v21 := Tryz.zeroValue21
  t37 := Tryz.underlying111
  a37 := Tryz.isAgg111
  z37 := Tryz.sizeOf111
  v37 := Tryz.zeroValue111
  t46 := Tryz.underlying133
  a46 := Tryz.isAgg133
  z46 := Tryz.sizeOf133
  v46 := Tryz.zeroValue133
  t51 := Tryz.underlying161
  a51 := Tryz.isAgg161
  z51 := Tryz.sizeOf161
  v51 := Tryz.zeroValue161
  t53 := Tryz.underlying145
  a53 := Tryz.isAgg145
  z53 := Tryz.sizeOf145
  v53 := Tryz.zeroValue145
  t75 := Tryz.underlying128
  a75 := Tryz.isAgg128
  z75 := Tryz.sizeOf128
  v75 := Tryz.zeroValue128
  t76 := Tryz.underlying129
  a76 := Tryz.isAgg129
  z76 := Tryz.sizeOf129
  v76 := Tryz.zeroValue129
  t85 := Tryz.underlying167
  a85 := Tryz.isAgg167
  z85 := Tryz.sizeOf167
  v85 := Tryz.zeroValue167
  t127 := Tryz.underlying143
  a127 := Tryz.isAgg143
  z127 := Tryz.sizeOf143
  v127 := Tryz.zeroValue143
  t143 := Tryz.underlying186
  a143 := Tryz.isAgg186
  z143 := Tryz.sizeOf186
  v143 := Tryz.zeroValue186
  t145 := Tryz.underlying188
  a145 := Tryz.isAgg188
  z145 := Tryz.sizeOf188
  v145 := Tryz.zeroValue188
  t167 := Tryz.underlying166
  a167 := Tryz.isAgg166
  z167 := Tryz.sizeOf166
  v167 := Tryz.zeroValue166
  t168 := Tryz.underlying169
  a168 := Tryz.isAgg169
  z168 := Tryz.sizeOf169
  v168 := Tryz.zeroValue169
  t171 := Tryz.underlying144
  a171 := Tryz.isAgg144
  z171 := Tryz.sizeOf144
  v171 := Tryz.zeroValue144
  t173 := Tryz.underlying148
  a173 := Tryz.isAgg148
  z173 := Tryz.sizeOf148
  v173 := Tryz.zeroValue148
  t175 := Tryz.underlying178
  a175 := Tryz.isAgg178
  z175 := Tryz.sizeOf178
  v175 := Tryz.zeroValue178
  t210 := Tryz.underlying181
  a210 := Tryz.isAgg181
  z210 := Tryz.sizeOf181
  v210 := Tryz.zeroValue181
  t212 := Tryz.underlying160
  a212 := Tryz.isAgg160
  z212 := Tryz.sizeOf160
  v212 := Tryz.zeroValue160
  t213 := Tryz.underlying162
  a213 := Tryz.isAgg162
  z213 := Tryz.sizeOf162
  t232 := Tryz.underlying183
  a232 := Tryz.isAgg183
  z232 := Tryz.sizeOf183
  v232 := Tryz.zeroValue183
  t233 := Tryz.underlying184
  a233 := Tryz.isAgg184
  z233 := Tryz.sizeOf184
  v233 := Tryz.zeroValue184
  g15 := by kernel_rfl
  g16 := by kernel_rfl
  g17 := by kernel_rfl
  g18 := by kernel_rfl
  g19 := by kernel_rfl
  t80 := Tryz.underlying189
  a80 := Tryz.isAgg189
  z80 := Tryz.sizeOf189
  v80 := Tryz.zeroValue189
  i0 := by kernel_rfl
  i2 := by kernel_rfl
  i3 := by kernel_rfl
  i4 := by kernel_rfl
  i5 := by kernel_rfl
  i9 := by kernel_rfl
  i20 := by kernel_rfl
  i21 := by kernel_rfl
  i37 := by kernel_rfl
  i46 := by kernel_rfl
  i51 := by kernel_rfl
  i53 := by kernel_rfl
  i75 := by kernel_rfl
  i76 := by kernel_rfl
  i80 := by kernel_rfl
  i85 := by kernel_rfl
  i127 := by kernel_rfl
  i143 := by kernel_rfl
  i145 := by kernel_rfl
  i167 := by kernel_rfl
  i168 := by kernel_rfl
  i171 := by kernel_rfl
  i173 := by kernel_rfl
  i175 := by kernel_rfl
  i210 := by kernel_rfl
  i212 := by kernel_rfl
  i232 := by kernel_rfl
  i233 := by kernel_rfl
  m15 := by kernel_rfl
  m16 := by kernel_rfl
  m17 := by kernel_rfl
  m18 := by kernel_rfl
  m19 := by kernel_rfl
  c0 := by kernel_rfl
  c2 := by kernel_rfl
  c3 := by kernel_rfl
  c4 := by kernel_rfl
  c5 := by kernel_rfl
  c9 := by kernel_rfl
  c20 := by kernel_rfl
  c21 := by kernel_rfl
  c37 := by kernel_rfl
  c46 := by kernel_rfl
  c51 := by kernel_rfl
  c53 := by kernel_rfl
  c75 := by kernel_rfl
  c76 := by kernel_rfl
  c80 := by kernel_rfl
  c85 := by kernel_rfl
  c127 := by kernel_rfl
  c143 := by kernel_rfl
  c145 := by kernel_rfl
  c167 := by kernel_rfl
  c168 := by kernel_rfl
  c171 := by kernel_rfl
  c173 := by kernel_rfl
  c175 := by kernel_rfl
  c210 := by kernel_rfl
  c212 := by kernel_rfl
  c213 := by kernel_rfl
  c232 := by kernel_rfl
  c233 := by kernel_rfl }
def Tryz.lays171_ren : Go.Shelf.Ren := ⟨fun | 171 => 39 | 243 => 70 | 246 => 90 | 283 => 108 | 284 => 109 | 285 => 110 | 286 => 111 | 129 => 130 | 317 => 129 | 318 => 131 | 319 => 132 | 320 => 133 | 337 => 148 | 338 => 149 | n => n, fun | 3 => 3 | 9 => 9 | 2 => 2 | 4 => 4 | 171 => 144 | 0 => 0 | 53 => 145 | 37 => 111 | 5 => 5 | 173 => 148 | 212 => 160 | 51 => 161 | 20 => 20 | 213 => 162 | 46 => 133 | 232 => 183 | 233 => 184 | n => n, fun | 17 => 1 | 18 => 4 | 19 => 5 | n => n⟩
theorem Tryz.lays171 : Go.Proofs.LaysM.n171 Tryz.prog Tryz.lays171_ren := {
  mixed := by kernel_rfl
  f129 := Tryz.func130.trans (congrArg some (by kernel_rfl))
  f171 := Tryz.func39.trans (congrArg some (by kernel_rfl))
  f243 := Tryz.func70.trans (congrArg some (by kernel_rfl))
  f246 := Tryz.func90.trans (congrArg some (by kernel_rfl))
  f283 := Tryz.func108.trans (congrArg some (by kernel_rfl))
  f284 := Tryz.func109.trans (congrArg some (by kernel_rfl))
  f285 := Tryz.func110.trans (congrArg some (by kernel_rfl))
  f286 := Tryz.func111.trans (congrArg some (by kernel_rfl))
  f317 := Tryz.func129.trans (congrArg some (by kernel_rfl))
  f318 := Tryz.func131.trans (congrArg some (by kernel_rfl))
  f319 := Tryz.func132.trans (congrArg some (by kernel_rfl))
  f320 := Tryz.func133.trans (congrArg some (by kernel_rfl))
  f337 := Tryz.func148.trans (congrArg some (by kernel_rfl))
  f338 := Tryz.func149.trans (congrArg some (by kernel_rfl))
  t0 := Tryz.underlying0
  a0 := Tryz.isAgg0
  z0 := Tryz.sizeOf0
  v0 := Tryz.zeroValue0
  t2 := Tryz.underlying2
  a2 := Tryz.isAgg2
  z2 := Tryz.sizeOf2
  v2 := Tryz.zeroValue2
  t3 := Tryz.underlying3
  a3 := Tryz.isAgg3
  z3 := Tryz.sizeOf3
  v3 := Tryz.zeroValue3
  t4 := Tryz.underlying4
  a4 := Tryz.isAgg4
  z4 := Tryz.sizeOf4
  v4 := Tryz.zeroValue4
  t5 := Tryz.underlying5
  a5 := Tryz.isAgg5
  z5 := Tryz.sizeOf5
  v5 := Tryz.zeroValue5
  t9 := Tryz.underlying9
  a9 := Tryz.isAgg9
  z9 := Tryz.sizeOf9
  v9 := Tryz.zeroValue9
  t20 := Tryz.underlying20
  a20 := Tryz.isAgg20
  z20 := Tryz.sizeOf20
  v20 := Tryz.zeroValue20
  t37 := Tryz.underlying111
  a37 := Tryz.isAgg111
  z37 := Tryz.sizeOf111
  v37 := Tryz.zeroValue111
  t46 := Tryz.underlying133
  a46 := Tryz.isAgg133
  z46 := Tryz.sizeOf133
  v46 := Tryz.zeroValue133
  t51 := Tryz.underlying161
  a51 := Tryz.isAgg161
  z51 := Tryz.sizeOf161
  v51 := Tryz.zeroValue161
  t53 := Tryz.underlying145
  a53 := Tryz.isAgg145
  z53 := Tryz.sizeOf145
  v53 := Tryz.zeroValue145
  t171 := Tryz.underlying144
  a171 := Tryz.isAgg144
  z171 := Tryz.sizeOf144
  v171 := Tryz.zeroValue144
  t173 := Tryz.underlying148
  a173 := Tryz.isAgg148
  z173 := Tryz.sizeOf148
  v173 := Tryz.zeroValue148
  t212 := Tryz.underlying160
  a212 := Tryz.isAgg160
  z212 := Tryz.sizeOf160
  v212 := Tryz.zeroValue160
  t213 := Tryz.underlying162
  a213 := Tryz.isAgg162
  z213 := Tryz.sizeOf162
  t232 := Tryz.underlying183
  a232 := Tryz.isAgg183
  z232 := Tryz.sizeOf183
  v232 := Tryz.zeroValue183
  t233 := Tryz.underlying184
  a233 := Tryz.isAgg184
  z233 := Tryz.sizeOf184
  v233 := Tryz.zeroValue184
  g17 := by kernel_rfl
  g18 := by kernel_rfl
  g19 := by kernel_rfl
  i0 := by kernel_rfl
  i2 := by kernel_rfl
  i3 := by kernel_rfl
  i4 := by kernel_rfl
  i5 := by kernel_rfl
  i9 := by kernel_rfl
  i20 := by kernel_rfl
  i37 := by kernel_rfl
  i46 := by kernel_rfl
  i51 := by kernel_rfl
  i53 := by kernel_rfl
  i171 := by kernel_rfl
  i173 := by kernel_rfl
  i212 := by kernel_rfl
  i232 := by kernel_rfl
  i233 := by kernel_rfl
  m17 := by kernel_rfl
  m18 := by kernel_rfl
  m19 := by kernel_rfl }
end Go.Proofs
namespace Go.Proofs.YtbcggjacjfcldaaGreatDoor
open Go.RowKit

theorem below_grown {w w' : World} (h : Below w.heap.size w w') : w.grownBy w' none := ⟨h.os, h.tape, h.output, h.size, fun k hk _ => h.block k hk⟩
/-- The table of powers of ten. -/
def PowAt (w : World) : Prop := ∃ t z, w.heap[1]? = some (.cells (Lib.pow10Tab.map fun z => Value.int .u64 z).toArray t z)
theorem PowAt.keep {w w' : World} (h : PowAt w) (g : w.grownBy w' none) : PowAt w' := by
  obtain ⟨t, z, h⟩ := h
  exact ⟨t, z, grown_keep g h (by simp)⟩
/-- The two errors of strconv. -/
def ErrsAt (w : World) : Prop := (∃ te pe t z, w.heap[2]? = some (.cells #[.iface te pe] t z)) ∧ ∃ te pe t z, w.heap[3]? = some (.cells #[.iface te pe] t z)
theorem ErrsAt.keep {w w' : World} (h : ErrsAt w) (g : w.grownBy w' none) : ErrsAt w' := by
  obtain ⟨⟨te, pe, t, z, h⟩, ⟨te', pe', t', z', h'⟩⟩ := h
  exact ⟨⟨te, pe, t, z, grown_keep g h (by simp)⟩, ⟨te', pe', t', z', grown_keep g h' (by simp)⟩⟩
theorem errs_s {w : World} (h : ErrsAt w) : ∃ te pe, w.var? Tryz.prog "strconv.ErrSyntax" = some #[.iface te pe] := by
  obtain ⟨⟨te, pe, t, z, h⟩, _⟩ := h
  have hg : Tryz.prog.globalNamed "strconv.ErrSyntax" = some 2 := by kernel_rfl
  refine ⟨te, pe, ?_⟩
  unfold World.var?
  rw [hg]
  simp [h]
theorem errs_r {w : World} (h : ErrsAt w) : ∃ te pe, w.var? Tryz.prog "strconv.ErrRange" = some #[.iface te pe] := by
  obtain ⟨_, ⟨te, pe, t, z, h⟩⟩ := h
  have hg : Tryz.prog.globalNamed "strconv.ErrRange" = some 3 := by kernel_rfl
  refine ⟨te, pe, ?_⟩
  unfold World.var?
  rw [hg]
  simp [h]
/-- What deck's texts lean on. -/
structure LibAt (w : World) : Prop where
  pow : PowAt w
  errs : ErrsAt w
theorem LibAt.keep {w w' : World} (h : LibAt w) (g : w.grownBy w' none) : LibAt w' := ⟨h.pow.keep g, h.errs.keep g⟩
theorem itoa_any (n : Int) (h0 : -9223372036854775808 ≤ n) (h1 : n ≤ 9223372036854775807) (w : World) (T : PowAt w) :
    Calls Tryz.prog 39 #[.int .i64 n] w fun e w' => e = .returned (.string ⟨(Lib.itoa n).toArray⟩) ∧ w.grownBy w' none := by
  refine (Any.strconv_Itoa Tryz.lays171 n h0 h1 w ?_).mono ?_
  · obtain ⟨t, z, h⟩ := T
    have hg : Tryz.prog.globalNamed "internal/strconv.uint64pow10" = some 1 := by kernel_rfl
    unfold Lib.TabIs World.var?
    rw [hg]
    simp [h]
  · rintro e w' ⟨rfl, k, os, rfl⟩
    exact ⟨rfl, below_grown (Lib.below_grow _ _ (Nat.le_refl _) _ _)⟩
/-- How Atoi ends: the number, or an error that is none of nil. -/
def numEnd (x : Lib.NumEnd Int) (e : Ending) : Prop := match x with
  | .ok v => e = .returned (.tuple #[.int .i64 v, .nilIface])
  | _ => ∃ (v : Int) (te : TypeId) (pe : Value), e = .returned (.tuple #[.int .i64 v, .iface te pe])
theorem atoi_any (s : ByteArray) (hs : s.size ≤ 281474976710656) (w : World) (E : ErrsAt w) : Calls Tryz.prog 92 #[.string s] w fun e w' => numEnd (Lib.atoiAll s.data.toList) e ∧ w.grownBy w' none := by
  rcases h : Lib.atoiAll s.data.toList with v | _ | _
  · refine (Any.strconv_Atoi_ok Tryz.lays172 s (by omega) v h w).mono ?_
    rintro e w' ⟨rfl, hw⟩
    refine ⟨rfl, ?_⟩
    rcases hw with rfl | ⟨t, rfl⟩
    · exact grown_refl _ _
    · exact below_grown (Lib.bytesWorld_below _ _ _)
  · obtain ⟨te, pe, hv⟩ := errs_s E
    refine (Any.strconv_Atoi_syntax_var Tryz.lays172 s hs h te pe w hv).mono ?_
    rintro e w' ⟨N, rfl, _, _, hb⟩
    exact ⟨⟨_, _, _, rfl⟩, below_grown hb⟩
  · obtain ⟨te, pe, hv⟩ := errs_r E
    refine (Any.strconv_Atoi_range_var Tryz.lays172 s hs h te pe w hv).mono ?_
    rintro e w' ⟨N, rfl, _, _, hb⟩
    exact ⟨⟨_, _, _, rfl⟩, below_grown hb⟩
end Go.Proofs.YtbcggjacjfcldaaGreatDoor
namespace Go.Proofs.YtbcggjacjfcldaaGreatDoor

/-- A text, cut at the first byte b. -/
def cutL (b : UInt8) : List UInt8 → List UInt8 × List UInt8 × Bool
  | [] => ([], [], false)
  | c :: r => if c = b then ([], r, true) else (c :: (cutL b r).1, (cutL b r).2.1, (cutL b r).2.2)
theorem cutL_hit (b : UInt8) : ∀ (d t : List UInt8), b ∉ d → cutL b (d ++ b :: t) = (d, t, true)
  | [], t, _ => by simp [cutL]
  | c :: d, t, h => by
    simp at h
    rw [List.cons_append, cutL, if_neg (fun e => h.1 e.symm), cutL_hit b d t h.2]
theorem cutL_miss (b : UInt8) : ∀ d : List UInt8, b ∉ d → cutL b d = (d, [], false)
  | [], _ => rfl
  | c :: d, h => by
    simp at h
    rw [cutL, if_neg (fun e => h.1 e.symm), cutL_miss b d h.2]
theorem cutL_cases (b : UInt8) (l : List UInt8) : (b ∉ l ∧ cutL b l = (l, [], false)) ∨ ∃ d t, l = d ++ b :: t ∧ b ∉ d ∧ cutL b l = (d, t, true) := by
  induction l with
  | nil => exact Or.inl ⟨by simp, rfl⟩
  | cons c r ih =>
    by_cases hc : c = b
    · subst hc
      exact Or.inr ⟨[], r, rfl, by simp, by simp [cutL]⟩
    · rcases ih with ⟨h1, h2⟩ | ⟨d, t, h1, h2, h3⟩
      · refine Or.inl ⟨by simp [h1]; exact fun e => hc e.symm, ?_⟩
        rw [cutL, if_neg hc, h2]
      · refine Or.inr ⟨c :: d, t, by rw [h1]; rfl, by simp [h2]; exact fun e => hc e.symm, ?_⟩
        rw [cutL, if_neg hc, h3]
/-- The number of the digits: from 1 to 40, told as they stand there. -/
def timesB (d : List UInt8) : Bool := match Lib.atoiAll d with
  | .ok v => decide (1 ≤ v) && decide (v ≤ 40) && (Lib.itoa v == d)
  | _ => false
def timesN (d : List UInt8) : Int := match Lib.atoiAll d with
  | .ok v => v
  | _ => 0
theorem itoa_dec : ∀ k : Nat, k < 41 → Lib.itoa (k : Int) = dec k := by decide +kernel
theorem atoi_dec : ∀ k : Nat, k < 41 → (match Lib.atoiAll (dec k) with | .ok v => v == (k : Int) | _ => false) = true := by decide +kernel
theorem times_dec {k : Nat} (h1 : 1 ≤ k) (h2 : k ≤ 40) : timesB (dec k) = true ∧ timesN (dec k) = (k : Int) := by
  have h := atoi_dec k (by omega)
  unfold timesB timesN
  cases e : Lib.atoiAll (dec k) with
  | ok v =>
    rw [e] at h
    have hv : v = (k : Int) := beq_iff_eq.1 h
    subst hv
    refine ⟨?_, rfl⟩
    simp only [itoa_dec k (by omega)]
    rw [Bool.and_eq_true, Bool.and_eq_true, decide_eq_true_eq, decide_eq_true_eq]
    exact ⟨⟨by omega, by omega⟩, by simp⟩
  | _ => rw [e] at h; simp at h
theorem times_some {d : List UInt8} (h : timesB d = true) : ∃ k : Nat, 1 ≤ k ∧ k ≤ 40 ∧ timesN d = (k : Int) ∧ d = dec k := by
  unfold timesB at h
  unfold timesN
  cases e : Lib.atoiAll d with
  | ok v =>
    rw [e] at h
    simp only [Bool.and_eq_true, decide_eq_true_eq, beq_iff_eq] at h
    obtain ⟨⟨h1, h2⟩, h3⟩ := h
    refine ⟨v.toNat, by omega, by omega, by simp only; omega, ?_⟩
    rw [← itoa_dec v.toNat (by omega), ← h3]
    congr 1
    omega
  | _ => rw [e] at h; simp at h
/-- The program's line, and the document's. -/
theorem line_same (e : List UInt8) : (timesB (cutL 32 e).1 && nameOk (cutL 32 e).2.1) = (lineP e).isSome ∧ ∀ k nm, lineP e = some (k, nm) → timesN (cutL 32 e).1 = (k : Int) ∧ (cutL 32 e).2.1 = nm := by
  have key : ∀ k nm, lineP e = some (k, nm) → cutL 32 e = (dec k, nm, true) ∧ 1 ≤ k ∧ k ≤ 40 ∧ nameOk nm = true := fun k nm h => by
    obtain ⟨h1, h2, h3, h4⟩ := lineP_some h
    refine ⟨?_, h2, h3, h4⟩
    rw [h1]
    exact cutL_hit 32 _ _ (fun hm => (dec_chars k (by omega) 32 hm).1 rfl)
  refine ⟨?_, fun k nm h => ?_⟩
  · cases hl : lineP e with
    | some q =>
      obtain ⟨k, nm⟩ := q
      obtain ⟨h1, h2, h3, h4⟩ := key k nm hl
      rw [h1]
      simp [(times_dec h2 h3).1, h4]
    | none =>
      rcases cutL_cases 32 e with ⟨_, h2⟩ | ⟨d, t, h1, h2, h3⟩
      · rw [h2]; simp [nameOk]
      · rw [h3]
        cases ht : timesB d with
        | false => simp
        | true =>
          cases hn : nameOk t with
          | false => simp
          | true =>
            obtain ⟨k, k1, k2, _, k4⟩ := times_some ht
            have := lineP_of k1 k2 hn
            unfold lineT at this
            rw [← k4, ← h1, hl] at this
            cases this
  · obtain ⟨h1, h2, h3, h4⟩ := key k nm h
    rw [h1]
    exact ⟨(times_dec h2 h3).2, rfl⟩
/-- The program's cut at the byte 10, and the document's. -/
theorem cut_ten (s : List UInt8) : (cutL 10 s).1 = s.takeWhile (· != 10) ∧ (cutL 10 s).2.2 = !decide (s.length = (s.takeWhile (· != 10)).length) ∧ (cutL 10 s).2.1 = s.drop ((s.takeWhile (· != 10)).length + 1) := by
  have hw : ∀ d : List UInt8, (10 : UInt8) ∉ d → ∀ c ∈ d, (c != 10) = true := fun d h c hc => by
    have : c ≠ 10 := fun e => h (e ▸ hc)
    simpa using this
  rcases cutL_cases 10 s with ⟨h1, h2⟩ | ⟨d, t, h1, h2, h3⟩
  · rw [h2]
    have e : s.takeWhile (· != 10) = s := by
      have := List.takeWhile_append_of_pos (l₁ := s) (l₂ := []) (hw s h1)
      simpa using this
    rw [e]
    simp
  · rw [h3, h1]
    have e : (d ++ 10 :: t).takeWhile (· != 10) = d := by
      rw [List.takeWhile_append_of_pos (hw d h2)]
      simp
    rw [e]
    refine ⟨rfl, by simp, by rw [List.drop_append]; simp⟩
end Go.Proofs.YtbcggjacjfcldaaGreatDoor
