/-
  BookScript: a pair of books, step by step.
-/
import Derived.Test.YtiikbhejnblhlaaGreatPrM
import Derived.Test.YtiikbhejnblhlaaGreatMH
import Derived.Test.YtiikbhejnblhlaaGreatRSa
import Derived.Test.YtiikbhejnblhlaaGreatME
import Derived.Test.YtiikbhejnblhlaaGreatMD
namespace Go.Proofs.YtiikbhejnblhlaaGreat
open Go.RowKit

/-- What an act makes of a pair of books. -/
def ActPost (ok : Nat → Prop) (w w' : World) (b r : Nat) : Prop := (∃ v es fs p, Pr ok w' b r v es fs p) ∧ Both2 w w' b r
theorem both_none {w w' : World} (b r : Nat) (g : w.grownBy w' none) : Both2 w w' b r := ⟨w', grown_own' g (grown_refl _ _), grown_refl _ _⟩
theorem both_pre {w x w' : World} {b r : Nat} (g : w.grownBy x none) (h : Both2 x w' b r) : Both2 w w' b r := by
  obtain ⟨y, h1, h2⟩ := h
  exact ⟨y, grown_own' g h1, h2⟩
theorem both_post {w x w' : World} {b r : Nat} (h : Both2 w x b r) (g : x.grownBy w' none) : Both2 w w' b r := by
  obtain ⟨y, h1, h2⟩ := h
  exact ⟨y, h1, h2.trans (grown_own' g (grown_refl _ _))⟩
theorem Pr.step {ok : Nat → Prop} {w U1 U2 : World} {b r : Nat} {v : Value} {es fs : List Ent} {p p' : Pl} (P : Pr ok w b r v es fs p) (hb : ¬ ok b) (hr : ¬ ok r) (hne : ¬ b = r) (B : Book ok U1 b es p') (g1 : w.grownBy U1 (some b)) (R : RJ U2 r v p') (g2 : U1.grownBy U2 (some r)) (hm : MkD p') (hz : p'.nms[0]? = some ⟨#[]⟩) : Pr ok U2 b r v es fs p' := by
  have nb : ∀ k, ok k → some k ≠ some b := fun k hk e => by injection e with e; exact hb (e ▸ hk)
  have nr : ∀ k, ok k → some k ≠ some r := fun k hk e => by injection e with e; exact hr (e ▸ hk)
  refine ⟨B.keepR g2 (fun e => by injection e with e; exact hne e) nr, R, ?_, ?_, (P.good.keepR g1 nb).keepR g2 nr, P.same, hm, hz⟩
  · exact (P.rl.keepR g1 (fun k hk => nb k (P.own k hk).1)).keepR g2 (fun k hk => nr k (P.own k hk).1)
  · intro k hk
    exact ⟨(P.own k hk).1, Nat.lt_of_lt_of_le (P.own k hk).2 (Nat.le_trans g1.size g2.size)⟩
theorem Pr.keep2 {ok : Nat → Prop} {w w' : World} {b r c s : Nat} {v : Value} {es fs : List Ent} {p : Pl} (P : Pr ok w b r v es fs p) (g : Both2 w w' c s) (h1 : ¬ b = c) (h2 : ¬ b = s) (h3 : ¬ r = c) (h4 : ¬ r = s) (hc : ¬ ok c) (hs : ¬ ok s) : Pr ok w' b r v es fs p := by
  obtain ⟨y, g1, g2⟩ := g
  have nc : ∀ k, ok k → some k ≠ some c := fun k hk e => by injection e with e; exact hc (e ▸ hk)
  have ns : ∀ k, ok k → some k ≠ some s := fun k hk e => by injection e with e; exact hs (e ▸ hk)
  refine ⟨(P.book.keepR g1 (fun e => by injection e with e; exact h1 e) nc).keepR g2 (fun e => by injection e with e; exact h2 e) ns, (P.rj.keepR g1 (fun e => by injection e with e; exact h3 e)).keepR g2 (fun e => by injection e with e; exact h4 e), ?_, ?_, (P.good.keepR g1 nc).keepR g2 ns, P.same, P.mkd, P.zero⟩
  · exact (P.rl.keepR g1 (fun k hk => nc k (P.own k hk).1)).keepR g2 (fun k hk => ns k (P.own k hk).1)
  · intro k hk
    exact ⟨(P.own k hk).1, Nat.lt_of_lt_of_le (P.own k hk).2 (Nat.le_trans g1.size g2.size)⟩
theorem trP_zero' {p : Pl} (h : p.nms[0]? = some ⟨#[]⟩) (t : Nat) (s : ByteArray) : (trP p (t : Int) s).nms[0]? = some ⟨#[]⟩ := by
  unfold trP
  by_cases h0 : trE p (t : Int) s = 0
  · rw [if_pos h0]
    have ht : ¬ (t : Int) < 1 := by
      intro hlt
      unfold trE at h0
      split at h0
      · omega
      · rw [if_pos (Or.inl hlt)] at h0
        omega
    show (p.nms.set (t : Int).toNat s)[0]? = some ⟨#[]⟩
    rw [List.getElem?_set_ne (by omega)]
    exact h
  · rw [if_neg h0]; exact h
theorem trP_mkd {p : Pl} (h : MkD p) (t : Int) (s : ByteArray) : MkD (trP p t s) := by
  unfold trP
  split <;> exact h
theorem maP_zero' {p : Pl} (h : p.nms[0]? = some ⟨#[]⟩) (m : Mk) : (maP p m).nms[0]? = some ⟨#[]⟩ := by
  unfold maP
  split <;> exact h
theorem sealP_zero' {p : Pl} (h : p.nms[0]? = some ⟨#[]⟩) (es : List Ent) : (sealP p es).nms[0]? = some ⟨#[]⟩ := by
  unfold sealP
  split <;> exact h
theorem sealP_mkd {p : Pl} (h : MkD p) (es : List Ent) : MkD (sealP p es) := by
  unfold sealP
  split <;> exact h
theorem hp_kd {es fs : List Ent} (h : es.map hp = fs.map hp) (n : Nat) : kdAt es n = kdAt fs n := by
  unfold kdAt
  cases he : es[n]? with
  | none =>
    have h1 : fs[n]? = none := List.getElem?_eq_none (by rw [← hp_len h]; exact List.getElem?_eq_none_iff.1 he)
    rw [h1]
  | some e =>
    obtain ⟨f, hf, h1, _⟩ := hp_at h he
    rw [hf]
    simp only
    rw [h1]
theorem hp_call {es fs : List Ent} (h : es.map hp = fs.map hp) (x : Pt) : callE es x = callE fs x := by
  unfold callE
  rw [hp_names h, hp_kd h]
theorem hp_calls {es fs : List Ent} (h : es.map hp = fs.map hp) : ∀ ps, callsE es ps = callsE fs ps
  | [] => rfl
  | x :: r => by simp only [callsE, hp_call h, hp_calls h r]
theorem hp_sealL {es fs : List Ent} (h : es.map hp = fs.map hp) : ∀ {a b : List Ent}, a.map hp = b.map hp → sealL es a = sealL fs b
  | [], [], _ => rfl
  | [], _ :: _, e => by simp at e
  | _ :: _, [], e => by simp at e
  | x :: r, y :: t, e => by
    rw [List.map_cons, List.map_cons] at e
    injection e with e1 e2
    injection e1 with _ e1
    simp only [sealL, hp_calls h, e1, hp_sealL h e2]
theorem hp_seal {es fs : List Ent} (h : es.map hp = fs.map hp) (p : Pl) : sealE p es = sealE p fs ∧ sealP p es = sealP p fs := by
  have h1 : sealE p es = sealE p fs := by unfold sealE; rw [hp_sealL h h]
  refine ⟨h1, ?_⟩
  unfold sealP
  rw [h1]
theorem hp_sameEs : ∀ {a b c d : List Ent}, a.map hp = b.map hp → c.map hp = d.map hp → sameEs a c = sameEs b d
  | [], [], [], [], _, _ => rfl
  | [], [], _ :: _, _ :: _, _, _ => rfl
  | _ :: _, _ :: _, [], [], _, _ => rfl
  | [], _ :: _, _, _, e, _ => by simp at e
  | _ :: _, [], _, _, e, _ => by simp at e
  | _, _, [], _ :: _, _, e => by simp at e
  | _, _, _ :: _, [], _, e => by simp at e
  | x :: r, y :: t, u :: q, z :: s, e, f => by
    rw [List.map_cons, List.map_cons] at e f
    injection e with e1 e2
    injection f with f1 f2
    injection e1 with e1 e3
    injection f1 with f1 f3
    simp only [sameEs, sameE, e1, e3, f1, f3, hp_sameEs e2 f2]
theorem sameEs_rfl (a : List Ent) : sameEs a a = true := sameEs_all rfl fun j x y hx hy => by
  rw [hx] at hy
  injection hy with hy
  subst hy
  simp [sameE, sameHd_refl, samePs_refl]
theorem parts_of {ok : Nat → Prop} {w : World} {b r : Nat} {v : Value} {es fs : List Ent} {p : Pl} (P : Pr ok w b r v es fs p) : ∀ e ∈ fs, e.ps.length ≤ 4 := fun e he => by
  obtain ⟨j, hj⟩ := List.getElem?_of_mem he
  obtain ⟨f, hf, _, h2⟩ := hp_at P.same.symm hj
  rw [← h2]
  exact P.book.parts f (List.mem_of_getElem? hf)
end Go.Proofs.YtiikbhejnblhlaaGreat
