/-

-/
import Derived.Test.YtjmepebbcnhalaaGreatZR6Check
namespace Go.Proofs.YtjmepebbcnhalaaGreat
open Tryz
set_option maxRecDepth 100000
set_option maxHeartbeats 16000000
open Go.RowKit
variable {w:World} {b:Nat} {v:Value} {p:Pl}

theorem RJ.setL (h:RJ w b v p) (v':Value):RJ (w.setCell ⟨b,2,none⟩ v') b v' p:=by
 refine⟨?_,h.nine,h.five⟩;rw[au h.lies,Qa6];rfl
theorem Av {fs:List Ent} {s:ByteArray} (h:pos (bL fs) s<0):∀ x∈fs,¬x.h.nm=s:=fun x hx e=>sl h (by rw[←e];exact Qd6 hx)
def xR (ok:Nat→Prop) (b:Nat) (v:Value) (p:Pl) (fs:List Ent) (h:Hd) (ps:List Pt) (w:World) (r:Int) (e:Ending) (w':World):Prop:=∃ u v',e=.returned (.int .i64 r)∧RJ w' b v' p∧RL w' v' (if r=0 then ins fs ⟨h,u,ps⟩ else fs)∧(v'=v∨∀ k,v'.ownBlock=some k→w.heap.size≤k∧k<w'.heap.size)∧dA (fun k=>(ok k∧k<w.heap.size)∨(w.heap.size≤k∧some k≠v'.ownBlock)) w' (if r=0 then ins fs ⟨h,u,ps⟩ else fs)∧w.grownBy w' (some b)
theorem zc (ok:Nat→Prop) (b:Nat) (v:Value) (p:Pl) (fs:List Ent) (h:Hd) (vc:Value) (ps:List Pt) (w:World) (R:RJ w b v p) (L:RL w v fs) (hl:fs.length≤64) (hG:dA ok w fs) (hok:¬ok b) (hps:da w vc ps) (hm:bl ps.length) (hwf:(h.with ps).wf):Calls prog 52 #[.pointer (some ⟨b,0,none⟩),cv h vc] w (xR ok b v p fs h ps w (caE p fs (h.with ps))):=by
 obtain⟨i0,hi,hz0,hz1,hz2⟩:=mP info111;obtain⟨a,c,rfl⟩:=hps.form;obtain⟨av,kv,rfl⟩:=L.form;obtain⟨W1,hW1⟩:=Qe (w.alloc (.cells (ccs h (.slice a ps.length c)) 111));have HG1:QH (w.grownBy W1 none):=by rw[hW1];exact QG
 have HA:QH (CAt W1 w.heap.size h (.slice a ps.length c)):=by rw[hW1];exact aj w _ _
 have HS1:QH (W1.heap.size=w.heap.size+1):=by show W1.heap.size=_;rw[hW1];simp
 have hb0:QH (b<w.heap.size):=aY R.lies;have HR:QH (RJ W1 b (.slice av fs.length kv) p):=R.keep HG1.o;have HL:QH (RL W1 (.slice av fs.length kv) fs):=L.keep HG1.o;have HGo:QH (dA (fun k=>ok k∧k<w.heap.size) W1 fs):=fun e he=>(hG e he).old.keep HG1.o;have HPs:QH (da W1 (.slice a ps.length c) ps):=hps.keep HG1.o;have HOk:QH (¬ok b):=hok;have H64:QH (fs.length≤64):=hl;have HM:QH (bl ps.length):=hm;have hsm:bl fs.length:=by unfold bl;omega
 have HCK:=uI h (.slice a ps.length c) ps W1 HPs.o hm hwf;obtain⟨r,hr⟩:∃ r,caE p fs (h.with ps)=r:=⟨_,rfl⟩
 have REF:QH (∀ w',W1.grownBy w' none→¬r=0→∀ e,e=.returned (.int .i64 r)→xR ok b (.slice av fs.length kv) p fs h ps w r e w'):=fun w' g hne e he=>by
  refine⟨.slice none 0 0,(.slice av fs.length kv),he,HR.o.keep g,?_,Or.inl rfl,?_,bi (aa HG1.o g) (aw _ _)⟩
  ·rw[if_neg hne];exact HL.o.keep g
  ·rw[if_neg hne];exact(HGo.o.keep g).mono fun k hk=>Or.inl hk
 obtain⟨ck,hck⟩:∃ ck,gi (h.with ps)=ck:=⟨_,rfl⟩
 have HP4:QH (ck=0→ps.length≤4):=fun k=>(jW (by rw[hck];exact k)).2.2.1;have HE:QH ((if p.shut=true then 7 else if ¬ck=0 then ck else if 0≤pos (bL fs) h.nm then 5 else if fs.length=64 then 14 else 0)=r):=by rw[←hck,←hr];rfl
 rw[hr];rw[hck] at HCK;have c1:=HR.o.shut;obtain⟨a0,a1,a2,a3,a4,a5,a6,a7,a8⟩:=HA.o.cells;unfold ccs at hW1;unfold cv at HCK ⊢;clear R L hG hps hm hwf hl hok hr hck;cases hs:p.shut with
 | true =>
  rw[hs] at c1 HE;have e7:(7:Int)=r:=by have:=HE.o;rw[if_pos rfl] at this;exact this
  have HT:QH ((7:Int)=r):=e7;have HNe:QH (¬r=0):=by show ¬r=0;omega
  clear e7 hs HCK;go_enter func52,ntmps52;go_upto_region 1 with fail;rw[←hW1];clear hW1;go_wp2_with fail;refine(bA b _ p W1 HR.o).mono ?_;rintro e w1 ⟨rfl,h1⟩;obtain rfl:W1=w1:=h1.symm;go_wp2;go_ret;exact REF.o _ (aw _ _) HNe.o _ (aO HT.o)
 | false =>
  rw[hs] at c1 HE;rw[if_neg (by decide)] at HE;clear hs;by_cases hc0:ck=0
  case neg =>
   have e7:ck=r:=(by have:=HE.o;rw[if_pos hc0] at this;exact this);have hne:¬r=0:=(by omega);have q0:(ck != 0)=true:=(by simpa using hc0);have HT:QH (ck=r):=e7;have HNe:QH (¬r=0):=hne;clear e7 hne hc0;go_enter func52,ntmps52;go_upto_region 1 with fail;rw[←hW1];clear hW1;go_wp2_with fail;refine(bA b _ p W1 HR.o).mono ?_;rintro e w1 ⟨rfl,h1⟩;obtain rfl:W1=w1:=h1.symm;go_wp2_with fail;refine HCK.mono ?_;rintro e w2 ⟨rfl,g2⟩;have HGx:QH (W1.grownBy w2 none):=g2;clear g2;go_wp2;go_ret;exact REF.o _ HGx.o HNe.o _ (aO HT.o)
  case pos =>
   subst hc0;rw[if_neg (by decide)] at HE;obtain⟨z,hz⟩:∃ z,pos (bL fs) h.nm=z:=⟨_,rfl⟩
   have hz1:=mT (bL fs) h.nm;have HU:QH (z<0→∀ x∈fs,¬x.h.nm=h.nm):=fun k=>Av (by rw[hz];exact k)
   have HP:QH (∀ W2,W1.grownBy W2 none→Calls prog 118 #[.pointer (some ⟨b,0,none⟩),.string h.nm] W2 fun e w'=>e=.returned (.int .i64 z)∧w'=W2):=fun W2 g=>by
    have:=oo b (.slice av fs.length kv) p fs h.nm W2 (HR.o.keep g) (HL.o.keep g) H64.o;rw[hz] at this;exact this
   rw[hz] at HE;clear hz hz1;by_cases h5:0≤z
   case pos =>
    have HT:QH ((5:Int)=r):=(by have:=HE.o;rw[if_pos h5] at this;exact this);have HNe:QH (¬r=0):=(by show ¬r=0;rw[←HT.o];decide);go_enter func52,ntmps52;go_upto_region 1 with fail;rw[←hW1];clear hW1;go_wp2_with fail;refine(bA b _ p W1 HR.o).mono ?_;rintro e w1 ⟨rfl,h1⟩;obtain rfl:W1=w1:=h1.symm;go_wp2_with fail;refine HCK.mono ?_;rintro e w2 ⟨rfl,g2⟩;have HGx:QH (W1.grownBy w2 none):=g2;have b0:=g2.cell a0 (by simp);have HPP:=HP.o w2 g2;clear g2 a0 a1 a2 a3 a4 a5 a6 a7 a8 c1;go_wp2_with fail;refine HPP.mono ?_;rintro e w3 ⟨rfl,h1⟩;obtain rfl:w2=w3:=h1.symm;go_wp2;go_ret;exact REF.o _ HGx.o HNe.o _ (aO HT.o)
   case neg =>
    rw[if_neg h5] at HE;have HU2:QH (∀ x∈fs,¬x.h.nm=h.nm):=HU.o (by omega);by_cases h14:fs.length=64
    case pos =>
     have HT:QH ((14:Int)=r):=(by have:=HE.o;rw[if_pos h14] at this;exact this);have HNe:QH (¬r=0):=(by show ¬r=0;rw[←HT.o];decide);have l1:(64:Int)≤(fs.length:Int):=(by omega);clear h14;go_enter func52,ntmps52;go_upto_region 1 with fail;rw[←hW1];clear hW1;go_wp2_with fail;refine(bA b _ p W1 HR.o).mono ?_;rintro e w1 ⟨rfl,h1⟩;obtain rfl:W1=w1:=h1.symm;go_wp2_with fail;refine HCK.mono ?_;rintro e w2 ⟨rfl,g2⟩;have HGx:QH (W1.grownBy w2 none):=g2;have b0:=g2.cell a0 (by simp);have cl:=(HR.o.keep g2).list;have HPP:=HP.o w2 g2;clear g2 a0 a1 a2 a3 a4 a5 a6 a7 a8 c1;go_wp2_with fail;refine HPP.mono ?_;rintro e w3 ⟨rfl,h1⟩;obtain rfl:w2=w3:=h1.symm;go_wp2;go_ret;exact REF.o _ HGx.o HNe.o _ (aO HT.o)
    case neg =>
     have HT:QH ((0:Int)=r):=(by have:=HE.o;rw[if_neg h14] at this;exact this);have l1:¬(64:Int)≤(fs.length:Int):=(by have:=H64.o;omega);have H63:QH (fs.length<64):=(by show fs.length<64;omega);have hr0:=HT.o;subst hr0;have hp4:ps.length≤4:=HP4.o rfl;clear h14 REF HE HU HT;go_enter func52,ntmps52;go_upto_region 1 with fail;rw[←hW1];clear hW1;go_wp2_with fail;refine(bA b _ p W1 HR.o).mono ?_;rintro e w1 ⟨rfl,h1⟩;obtain rfl:W1=w1:=h1.symm;go_wp2_with fail;refine HCK.mono ?_;rintro e w2 ⟨rfl,g2⟩;have b0:=g2.cell a0 (by simp);have cl:=(HR.o.keep g2).list;have HPP:=HP.o w2 g2;have HG2:QH (W1.grownBy w2 none):=g2;clear g2 a0 a1 a2 a3 a4 a5 a6 a7 a8 c1;go_wp2_with fail;refine HPP.mono ?_;rintro e w3 ⟨rfl,h1⟩;obtain rfl:w2=w3:=h1.symm;clear HPP h1 HP;go_wp2_with fail;clear cl b0 l1;go_loopw [6,7,8] (fun x6 x7 x8 wr=>∃ (i:Nat) (gs:List Ent) (pb:Bool) (q:Option Addr) (cp:Nat),i≤fs.length∧x8=.int .i64 i∧x7=.bool pb∧x6=.slice q gs.length cp∧wr.ownsRow W1.heap.size 111 9 (.slice q gs.length cp) gs.length (aH gs)∧St fs h ps gs i pb∧dA (fun k=>((ok k∧k<w.heap.size)∨w.heap.size≤k)∧some k≠(Value.slice q gs.length cp).ownBlock) wr gs∧W1.grownBy wr none) (fun _ _ x8 _=>fs.length - (intOf x8).toNat)
     case atStart=>exact⟨0,[],false,none,0,Q0 _,rfl,rfl,rfl,World.ownsRow_nil _ _ _ _,Or.inl ⟨rfl,rfl,fun j e hj=>absurd hj (by omega)⟩,fun e he=>by simp at he,HG2.o⟩
     case round =>
      clear HG2;obtain⟨i,gs,pb,q,cp,hil,rfl,rfl,rfl,O,S,GD,G⟩:=hrel;obtain⟨U,hU⟩:=Qe (wr);subst hU;have HG:QH (W1.grownBy U none):=G;have HO:QH (U.ownsRow W1.heap.size 111 9 (.slice q gs.length cp) gs.length (aH gs)):=O;have HS:QH (St fs h ps gs i pb):=S;have HD:QH (dA (fun k=>((ok k∧k<w.heap.size)∨w.heap.size≤k)∧some k≠(Value.slice q gs.length cp).ownBlock) U gs):=GD;have hgl:gs.length≤66:=(by have h1:=S.len;have h2:=H63.o;omega);have cl:=(HR.o.keep G).list;clear O S GD G
      rcases (show i=fs.length∨i<fs.length from by omega) with hie | hlt
      ·rcases (show pb=true∨pb=false by cases pb <;> simp) with hpb | hpb
       ·subst hpb;obtain⟨u,hu⟩:=(show St fs h ps gs fs.length true by have:=HS.o;rw[hie] at this;exact this).endT HU2.o;have HUu:QH (gs=ins fs ⟨h,u,ps⟩):=hu;have i1:¬(i:Int)<(fs.length:Int):=(by omega);have cf:=fun i=>(HR.o.keep HG.o).free i;clear hu hie hil HS;go_wp2;go_ret;refine⟨u,.slice q gs.length cp,rfl,(HR.o.keep HG.o).setL _,?_,Or.inr ?_,?_,bi (aa HG1.o HG.o) (al _ b _ _)⟩
        ·rw[if_pos rfl,←HUu.o]
         exact RL.keepR (Fk.rl HO.o) (al _ b _ _) (fun k hk e=>by
          injection e with e;have h1:=(Qa5 HO.o k hk).1;have h2:=hb0.o;have h3:=HS1.o
          omega)
        ·intro k hk;have h1:=Qa5 HO.o k hk;have h3:=HS1.o;exact⟨by omega,Qal h1.2 (al _ b _ _).size⟩
        ·rw[if_pos rfl,←HUu.o];refine(HD.o.keepR (al _ b _ _) (fun k hk e=>?_)).mono fun k hk=>hk.1.elim Or.inl (fun h=>Or.inr ⟨h,hk.2⟩);injection e with e;subst e
         rcases hk.1 with h | h
         ·exact HOk.o h.1
         ·have:=hb0.o;omega
       ·subst hpb;have HSe:QH (∀ u,gs++[(⟨h,u,ps⟩:Ent)]=ins fs ⟨h,u,ps⟩):=(show St fs h ps gs fs.length false by have:=HS.o;rw[hie] at this;exact this).endF HU2.o;have i1:¬(i:Int)<(fs.length:Int):=(by omega);obtain⟨V,hV⟩:=Qe (U);subst hV;have HGV:QH (W1.grownBy V none):=HG.o;have HOV:QH (V.ownsRow W1.heap.size 111 9 (.slice q gs.length cp) gs.length (aH gs)):=HO.o;have HDV:QH (dA (fun k=>((ok k∧k<w.heap.size)∨w.heap.size≤k)∧some k≠(Value.slice q gs.length cp).ownBlock) V gs):=HD.o;clear hie hil HS HG HO HD;obtain⟨a0,a1,a2,a3,a4,a5,a6,a7,a8⟩:=(HA.o.keep HGV.o).cells;have HC:=lh h (.slice a ps.length c) ps V (HPs.o.keep HGV.o) (by omega);unfold cv at HC;go_wp2_with fail;refine HC.mono ?_;rintro e w5 ⟨u,rfl,o5,g5⟩;obtain⟨a2,k2,rfl⟩:=o5.at.form;have HO5:QH (bJ w5 V.heap.size (.slice a2 ps.length k2) ps):=o5;have HG5:QH (V.grownBy w5 none):=g5;have HOW:QH (w5.ownsRow W1.heap.size 111 9 (.slice q gs.length cp) gs.length (aH gs)):=Qav HOV.o g5 (by cases q <;> simp[Value.ownBlock]);have hz9:W1.heap.size≤w5.heap.size:=Ql HGV.o.size g5.size;have hz8:w.heap.size≤V.heap.size:=(by have h1:=HGV.o.size;have h2:=HS1.o;omega);clear o5 g5 HC a0 a1 a3 a4 a5 a6 a7 a8;go_upto_region 23 with (at_builtin;refine wpList_append_own_at _ rfl (.tmp 70) (.tmp 73) 22 rfl W1.heap.size 111 i0 _ 9 80 underlying22 hi hz0 hz1 hz2 rfl (by decide) (.slice q gs.length cp) gs.length (aH gs) rfl (HOW.o.alloc _) ⟨w5.heap.size,0,none⟩ 1 1 (cvs h (.slice a2 ps.length k2)) rfl rfl kW (kX _ _ _ _) (by unfold maxLen;omega) (by omega) (by simp;omega) ?_;intro v' w7 hown' hgrow7 hnil7 hown7;clear hnil7)
        have G7:QH (W1.grownBy w7 none):=ak (am (aa HGV.o HG5.o) _) hgrow7 (fun y hy=>(Qa5 HOW.o y hy).1);have hgd:=qR (ok:=fun k=>(ok k∧k<w.heap.size)∨w.heap.size≤k) HDV.o HG5.o HOV.o HO5.o (fun k hk=>Or.inr (Ql hz8 hk)) hgrow7 hown7
        have hfm:∃ q' cp',v'=.slice q' (gs.length+1) cp':=by
         rcases hown'.2 with ⟨_,h⟩ | ⟨g,cap,cur,h,_⟩
         ·omega
         ·exact⟨_,_,h⟩
        obtain⟨q',cp',rfl⟩:=hfm
        have HO7:QH (w7.ownsRow W1.heap.size 111 9 (.slice q' (gs++[(⟨h,.slice a2 ps.length k2,ps⟩:Ent)]).length cp') (gs++[(⟨h,.slice a2 ps.length k2,ps⟩:Ent)]).length (aH (gs++[(⟨h,.slice a2 ps.length k2,ps⟩:Ent)]))):=by
         have h9:=hown';rw[fT,Qa];exact h9
        have HD7:QH (dA (fun k=>((ok k∧k<w.heap.size)∨w.heap.size≤k)∧some k≠(Value.slice q' (gs++[(⟨h,.slice a2 ps.length k2,ps⟩:Ent)]).length cp').ownBlock) w7 (gs++[(⟨h,.slice a2 ps.length k2,ps⟩:Ent)])):=by
         have h9:=hgd;rw[Qa];exact h9
        clear hgd hown' hgrow7 hown7;have HUu:QH (gs++[(⟨h,.slice a2 ps.length k2,ps⟩:Ent)]=ins fs ⟨h,.slice a2 ps.length k2,ps⟩):=HSe.o _;obtain⟨gs2,hgs2⟩:=Qe (gs++[(⟨h,.slice a2 ps.length k2,ps⟩:Ent)]);have hln2:gs.length+1=gs2.length:=(by rw[hgs2,Qa];rfl);rw[←hgs2] at HO7 HD7 HUu;rw[hln2];have cl9:=(HR.o.keep G7.o).list;have cf:=fun i=>(HR.o.keep G7.o).free i;clear hgs2 hln2 HSe HGV HOV HDV hgl cl;go_wp2;go_ret;refine⟨.slice a2 ps.length k2,.slice q' gs2.length cp',rfl,(HR.o.keep G7.o).setL _,?_,Or.inr ?_,?_,bi (aa HG1.o G7.o) (al _ b _ _)⟩
        ·rw[if_pos rfl,←HUu.o]
         exact RL.keepR (Fk.rl HO7.o) (al _ b _ _) (fun k hk e=>by
          injection e with e;have h1:=(Qa5 HO7.o k hk).1;have h2:=hb0.o;have h3:=HS1.o
          omega)
        ·intro k hk;have h1:=Qa5 HO7.o k hk;have h3:=HS1.o;exact⟨by omega,Qal h1.2 (al _ b _ _).size⟩
        ·rw[if_pos rfl,←HUu.o];refine(HD7.o.keepR (al _ b _ _) (fun k hk e=>?_)).mono fun k hk=>hk.1.elim Or.inl (fun h=>Or.inr ⟨h,hk.2⟩);injection e with e;subst e
         rcases hk.1 with h | h
         ·exact HOk.o h.1
         ·have:=hb0.o;omega
      ·have i1:(i:Int)<(fs.length:Int):=(by omega);have j0:(0:Int)≤(i:Int):=(by omega);obtain⟨g,cap,ev,hrow⟩:=HL.o.row (by omega);injection ev with e1 _ e3;subst e1;subst e3;obtain⟨e,he⟩:∃ e,fs[i]?=some e:=⟨_,Qg hlt⟩
       obtain⟨ea,ec,hev⟩:=(HGo.o e (Qm he)).1.form;obtain⟨eh,ev,eps⟩:=e;simp only at hev;subst hev;have HE:QH (fs[i]?=some (⟨eh,.slice ea eps.length ec,eps⟩:Ent)):=he;have HRow:QH (∀ X,W1.grownBy X none→C9 X g (i*9) eh (.slice ea eps.length ec)):=fun X gX=>(hrow i _ he).keep gX;have HEo:QH (∀ X,W1.grownBy X none→ja (fun k=>((ok k∧k<w.heap.size)∨w.heap.size≤k)∧k<W1.heap.size) X (.slice ea eps.length ec) eps):=fun X gX=>((HGo.o _ (Qm he)).keep gX).mono fun k hk=>⟨Or.inl hk,by have:=HS1.o;omega⟩
       obtain⟨d0,d1,d2,d3,d4,d5,d6,d7,d8⟩:=HRow.o U HG.o;obtain⟨a0,a1,a2,a3,a4,a5,a6,a7,a8⟩:=(HA.o.keep HG.o).cells;clear hrow he;cases pb with
       | true =>
        go_upto_region 17 with fail;refine wp_region_held_drew (S:=fun w'=>U.grownBy w' none) (by kernel_rfl) (ai _) (fun hHeld=>?_);refine QZ 0 rfl ?_;go_frame;refine QZ 1 rfl ?_;go_frame;refine QZ 2 rfl ?_;go_frame;refine QN 3 rfl ?_;go_frame;refine QN 4 rfl ?_;go_frame;refine QN 5 rfl ?_;go_frame;refine QN 6 rfl ?_;go_frame;refine QN 7 rfl ?_;go_frame;refine QN 8 rfl ?_;go_frame;refine QN 9 rfl ?_;go_frame;refine QN 10 rfl ?_;go_frame;refine QR 11 rfl (fun K hK=>?_);rw[if_neg (Bool.eq_false_iff.1 (by rfl))];refine hK.out _ _ (by assumption) (fun hHeld2=>?_);clear hK K;(try go_frame);refine QZ 12 rfl ?_;go_frame;refine QD ?_;have HGV:QH (W1.grownBy U.drew none):=aa HG.o (ai _);have HOV:QH (U.drew.ownsRow W1.heap.size 111 9 (.slice q gs.length cp) gs.length (aH gs)):=HO.o;have HDV:QH (dA (fun k=>((ok k∧k<w.heap.size)∨w.heap.size≤k)∧some k≠(Value.slice q gs.length cp).ownBlock) U.drew gs):=HD.o.keep (ai _);have HSV:QH (St fs h ps (gs++[(⟨eh,.slice ea eps.length ec,eps⟩:Ent)]) (i+1) true):=HS.o.on HE.o;have DV:=HRow.o U.drew HGV.o;have cl':=(HR.o.keep HGV.o).list;obtain⟨V,hV⟩:=Qe (U.drew);rw[←hV] at HGV HOV HDV DV cl' ⊢;clear hV hHeld2 hHeld cl d0 d1 d2 d3 d4 d5 d6 d7 d8 a0 a1 a2 a3 a4 a5 a6 a7 a8 HG HO HD HS;obtain⟨d0,d1,d2,d3,d4,d5,d6,d7,d8⟩:=DV;have hz9:W1.heap.size≤V.heap.size:=HGV.o.size;go_wp2_with (at_builtin;refine wpList_append_own_at _ rfl (.tmp 58) (.tmp 66) 22 rfl W1.heap.size 111 i0 _ 9 80 underlying22 hi hz0 hz1 hz2 rfl (by decide) (.slice q gs.length cp) gs.length (aH gs) rfl (HOV.o.alloc _) ⟨V.heap.size,0,none⟩ 1 1 (cvs eh (.slice ea eps.length ec)) rfl rfl kW (kX _ _ _ _) (by unfold maxLen;omega) (by omega) (by simp;omega) ?_;intro v' w7 hown' hgrow7 hnil7 hown7;clear hnil7)
        have G7:QH (W1.grownBy w7 none):=ak (am HGV.o _) hgrow7 (fun y hy=>(Qa5 HOV.o y hy).1);have hgd:=pT (e:=(⟨eh,.slice ea eps.length ec,eps⟩:Ent)) HDV.o HOV.o (HEo.o _ HGV.o) hz9 hgrow7 hown7
        have hfm:∃ q' cp',v'=.slice q' (gs.length+1) cp':=by
         rcases hown'.2 with ⟨_,h⟩ | ⟨g,cap,cur,h,_⟩
         ·omega
         ·exact⟨_,_,h⟩
        obtain⟨q',cp',rfl⟩:=hfm
        have HO7:QH (w7.ownsRow W1.heap.size 111 9 (.slice q' (gs++[(⟨eh,.slice ea eps.length ec,eps⟩:Ent)]).length cp') (gs++[(⟨eh,.slice ea eps.length ec,eps⟩:Ent)]).length (aH (gs++[(⟨eh,.slice ea eps.length ec,eps⟩:Ent)]))):=by
         have h9:=hown';rw[fT,Qa];exact h9
        have HD7:QH (dA (fun k=>((ok k∧k<w.heap.size)∨w.heap.size≤k)∧some k≠(Value.slice q' (gs++[(⟨eh,.slice ea eps.length ec,eps⟩:Ent)]).length cp').ownBlock) w7 (gs++[(⟨eh,.slice ea eps.length ec,eps⟩:Ent)])):=by
         have h9:=hgd;rw[Qa];exact h9
        clear hgd hown' hgrow7 hown7;go_roundw
        case rel=>exact⟨i+1,gs++[(⟨eh,.slice ea eps.length ec,eps⟩:Ent)],true,q',cp',hlt,by first | rfl | (rw[hsm.wrap hlt];rfl),rfl,by first | rfl | (rw[Qa];rfl),HO7.o,HSV.o,HD7.o,G7.o⟩
        case measure=>first | exact aD hlt | (rw[hsm.wrap hlt];exact aD hlt)
       | false =>
        by_cases ho:ord h eh<0
        case pos =>
         have HAh:=pI h eh (.slice a ps.length c) (.slice ea eps.length ec) U.drew;rw[Qy ho] at HAh;have HSV:QH (∀ u,St fs h ps ((gs++[(⟨h,u,ps⟩:Ent)])++[(⟨eh,.slice ea eps.length ec,eps⟩:Ent)]) (i+1) true):=HS.o.put HE.o ho;unfold cv at HAh;clear ho;go_upto_region 17 with fail;refine wp_region_held_drew (S:=fun w'=>U.grownBy w' none) (by kernel_rfl) (ai _) (fun hHeld=>?_);refine QZ 0 rfl ?_;go_frame;refine QZ 1 rfl ?_;go_frame;refine QZ 2 rfl ?_;go_frame;refine QT 3 rfl (by intro w0 hSw;have y0:=Qa7 hSw a0 (by simp);have y1:=Qa7 hSw a1 (by simp);have y2:=Qa7 hSw a2 (by simp);have y3:=Qa7 hSw a3 (by simp);have y4:=Qa7 hSw a4 (by simp);have y5:=Qa7 hSw a5 (by simp);have y6:=Qa7 hSw a6 (by simp);have y7:=Qa7 hSw a7 (by simp);have y8:=Qa7 hSw a8 (by simp);go_simp;try with_reducible rfl) ?_;go_frame;refine QZ 4 rfl ?_;go_frame;refine QZ 5 rfl ?_;go_frame;refine QZ 6 rfl ?_;go_frame;refine QT 7 rfl (by intro w0 hSw;have y:=Qa7 hSw cl (by simp);go_simp;try with_reducible rfl) ?_;go_frame;refine QZ 8 rfl ?_;go_frame;refine QZ 9 rfl ?_;go_frame;refine QT 10 rfl (by intro w0 hSw;have y0:=Qa7 hSw d0 (by simp);have y1:=Qa7 hSw d1 (by simp);have y2:=Qa7 hSw d2 (by simp);have y3:=Qa7 hSw d3 (by simp);have y4:=Qa7 hSw d4 (by simp);have y5:=Qa7 hSw d5 (by simp);have y6:=Qa7 hSw d6 (by simp);have y7:=Qa7 hSw d7 (by simp);have y8:=Qa7 hSw d8 (by simp);go_simp;try with_reducible rfl) ?_;go_frame;refine QR 11 rfl (fun K hK=>?_);rw[if_pos (by rfl)];go_simp;go_at_call 119;refine(HAh).mono ?_;rintro e V ⟨rfl,gV⟩;refine hK.out _ _ (aa (ai _) gV) (fun hHeld2=>?_);clear hK K;(try go_frame);refine QZ 12 rfl ?_;go_frame;refine QD ?_;have HGV:QH (W1.grownBy V none):=aa HG.o (aa (ai _) gV);have HOV:QH (V.ownsRow W1.heap.size 111 9 (.slice q gs.length cp) gs.length (aH gs)):=Qav HO.o (aa (ai _) gV) (by cases q <;> simp[Value.ownBlock]);have HDV:QH (dA (fun k=>((ok k∧k<w.heap.size)∨w.heap.size≤k)∧some k≠(Value.slice q gs.length cp).ownBlock) V gs):=HD.o.keep (aa (ai _) gV);clear hHeld2 hHeld cl d0 d1 d2 d3 d4 d5 d6 d7 d8 a0 a1 a2 a3 a4 a5 a6 a7 a8 HG HO HD HS HAh gV;obtain⟨a0,a1,a2,a3,a4,a5,a6,a7,a8⟩:=(HA.o.keep HGV.o).cells;have HC:=lh h (.slice a ps.length c) ps V (HPs.o.keep HGV.o) (by omega);unfold cv at HC;go_wp2_with fail;refine HC.mono ?_;rintro e w5 ⟨u,rfl,o5,g5⟩;obtain⟨a2,k2,rfl⟩:=o5.at.form;have HO5:QH (bJ w5 V.heap.size (.slice a2 ps.length k2) ps):=o5;have HG5:QH (V.grownBy w5 none):=g5;have HOW:QH (w5.ownsRow W1.heap.size 111 9 (.slice q gs.length cp) gs.length (aH gs)):=Qav HOV.o g5 (by cases q <;> simp[Value.ownBlock]);have hz9:W1.heap.size≤w5.heap.size:=Ql HGV.o.size g5.size;have hz8:w.heap.size≤V.heap.size:=(by have h1:=HGV.o.size;have h2:=HS1.o;omega);clear o5 g5 HC a0 a1 a3 a4 a5 a6 a7 a8;go_upto_region 20 with (at_builtin;refine wpList_append_own_at _ rfl (.tmp 53) (.tmp 56) 22 rfl W1.heap.size 111 i0 _ 9 80 underlying22 hi hz0 hz1 hz2 rfl (by decide) (.slice q gs.length cp) gs.length (aH gs) rfl (HOW.o.alloc _) ⟨w5.heap.size,0,none⟩ 1 1 (cvs h (.slice a2 ps.length k2)) rfl rfl kW (kX _ _ _ _) (by unfold maxLen;omega) (by omega) (by simp;omega) ?_;intro v' w7 hown' hgrow7 hnil7 hown7;clear hnil7)
         have G7:QH (W1.grownBy w7 none):=ak (am (aa HGV.o HG5.o) _) hgrow7 (fun y hy=>(Qa5 HOW.o y hy).1);have hgd:=qR (ok:=fun k=>(ok k∧k<w.heap.size)∨w.heap.size≤k) HDV.o HG5.o HOV.o HO5.o (fun k hk=>Or.inr (Ql hz8 hk)) hgrow7 hown7
         have hfm:∃ q' cp',v'=.slice q' (gs.length+1) cp':=by
          rcases hown'.2 with ⟨_,h⟩ | ⟨g,cap,cur,h,_⟩
          ·omega
          ·exact⟨_,_,h⟩
         obtain⟨q',cp',rfl⟩:=hfm
         have HO7:QH (w7.ownsRow W1.heap.size 111 9 (.slice q' (gs++[(⟨h,.slice a2 ps.length k2,ps⟩:Ent)]).length cp') (gs++[(⟨h,.slice a2 ps.length k2,ps⟩:Ent)]).length (aH (gs++[(⟨h,.slice a2 ps.length k2,ps⟩:Ent)]))):=by
          have h9:=hown';rw[fT,Qa];exact h9
         have HD7:QH (dA (fun k=>((ok k∧k<w.heap.size)∨w.heap.size≤k)∧some k≠(Value.slice q' (gs++[(⟨h,.slice a2 ps.length k2,ps⟩:Ent)]).length cp').ownBlock) w7 (gs++[(⟨h,.slice a2 ps.length k2,ps⟩:Ent)])):=by
          have h9:=hgd;rw[Qa];exact h9
         clear hgd hown' hgrow7 hown7;obtain⟨V2,hV2⟩:=Qe (w7);subst hV2;clear HGV HOV HDV;have HGV:QH (W1.grownBy V2 none):=G7.o;obtain⟨gs2,hgs2⟩:=Qe (gs++[(⟨h,.slice a2 ps.length k2,ps⟩:Ent)]);have HSV2:QH (St fs h ps (gs2++[(⟨eh,.slice ea eps.length ec,eps⟩:Ent)]) (i+1) true):=(by rw[hgs2];exact HSV.o _);have hgl2:gs2.length≤67:=(by rw[hgs2,Qa];simp;omega);have hln2:gs.length+1=gs2.length:=(by rw[hgs2,Qa];rfl);rw[←hgs2] at HO7 HD7;rw[hln2];clear hgs2 hln2 HSV G7 hgl;have cl:=(HR.o.keep HGV.o).list;obtain⟨d0,d1,d2,d3,d4,d5,d6,d7,d8⟩:=HRow.o V2 HGV.o;obtain⟨qa,hqa⟩:=Qe (q');obtain⟨ca,hca⟩:=Qe (cp');subst hqa;subst hca;have HO8:=HO7;have HD8:=HD7;clear HO7 HD7;have hz9:W1.heap.size≤V2.heap.size:=HGV.o.size;go_wp2_with (at_builtin;refine wpList_append_own_at _ rfl (.tmp 58) (.tmp 66) 22 rfl W1.heap.size 111 i0 _ 9 80 underlying22 hi hz0 hz1 hz2 rfl (by decide) (.slice qa gs2.length ca) gs2.length (aH gs2) rfl (HO8.o.alloc _) ⟨V2.heap.size,0,none⟩ 1 1 (cvs eh (.slice ea eps.length ec)) rfl rfl kW (kX _ _ _ _) (by unfold maxLen;omega) (by omega) (by simp;omega) ?_;intro v' w7 hown' hgrow7 hnil7 hown7;clear hnil7)
         have G7:QH (W1.grownBy w7 none):=ak (am HGV.o _) hgrow7 (fun y hy=>(Qa5 HO8.o y hy).1);have hgd:=pT (e:=(⟨eh,.slice ea eps.length ec,eps⟩:Ent)) HD8.o HO8.o (HEo.o _ HGV.o) hz9 hgrow7 hown7
         have hfm:∃ q' cp',v'=.slice q' (gs2.length+1) cp':=by
          rcases hown'.2 with ⟨_,h⟩ | ⟨g,cap,cur,h,_⟩
          ·omega
          ·exact⟨_,_,h⟩
         obtain⟨q',cp',rfl⟩:=hfm
         have HO7:QH (w7.ownsRow W1.heap.size 111 9 (.slice q' (gs2++[(⟨eh,.slice ea eps.length ec,eps⟩:Ent)]).length cp') (gs2++[(⟨eh,.slice ea eps.length ec,eps⟩:Ent)]).length (aH (gs2++[(⟨eh,.slice ea eps.length ec,eps⟩:Ent)]))):=by
          have h9:=hown';rw[fT,Qa];exact h9
         have HD7:QH (dA (fun k=>((ok k∧k<w.heap.size)∨w.heap.size≤k)∧some k≠(Value.slice q' (gs2++[(⟨eh,.slice ea eps.length ec,eps⟩:Ent)]).length cp').ownBlock) w7 (gs2++[(⟨eh,.slice ea eps.length ec,eps⟩:Ent)])):=by
          have h9:=hgd;rw[Qa];exact h9
         clear hgd hown' hgrow7 hown7;go_roundw
         case rel=>exact⟨i+1,gs2++[(⟨eh,.slice ea eps.length ec,eps⟩:Ent)],true,q',cp',hlt,by first | rfl | (rw[hsm.wrap hlt];rfl),rfl,by first | rfl | (rw[Qa];rfl),HO7.o,HSV2.o,HD7.o,G7.o⟩
         case measure=>first | exact aD hlt | (rw[hsm.wrap hlt];exact aD hlt)
        case neg =>
         have HAh:=pI h eh (.slice a ps.length c) (.slice ea eps.length ec) U.drew;rw[Qx ho] at HAh;have HSV:QH (St fs h ps (gs++[(⟨eh,.slice ea eps.length ec,eps⟩:Ent)]) (i+1) false):=HS.o.old HE.o ho;unfold cv at HAh;clear ho;go_upto_region 17 with fail;refine wp_region_held_drew (S:=fun w'=>U.grownBy w' none) (by kernel_rfl) (ai _) (fun hHeld=>?_);refine QZ 0 rfl ?_;go_frame;refine QZ 1 rfl ?_;go_frame;refine QZ 2 rfl ?_;go_frame;refine QT 3 rfl (by intro w0 hSw;have y0:=Qa7 hSw a0 (by simp);have y1:=Qa7 hSw a1 (by simp);have y2:=Qa7 hSw a2 (by simp);have y3:=Qa7 hSw a3 (by simp);have y4:=Qa7 hSw a4 (by simp);have y5:=Qa7 hSw a5 (by simp);have y6:=Qa7 hSw a6 (by simp);have y7:=Qa7 hSw a7 (by simp);have y8:=Qa7 hSw a8 (by simp);go_simp;try with_reducible rfl) ?_;go_frame;refine QZ 4 rfl ?_;go_frame;refine QZ 5 rfl ?_;go_frame;refine QZ 6 rfl ?_;go_frame;refine QT 7 rfl (by intro w0 hSw;have y:=Qa7 hSw cl (by simp);go_simp;try with_reducible rfl) ?_;go_frame;refine QZ 8 rfl ?_;go_frame;refine QZ 9 rfl ?_;go_frame;refine QT 10 rfl (by intro w0 hSw;have y0:=Qa7 hSw d0 (by simp);have y1:=Qa7 hSw d1 (by simp);have y2:=Qa7 hSw d2 (by simp);have y3:=Qa7 hSw d3 (by simp);have y4:=Qa7 hSw d4 (by simp);have y5:=Qa7 hSw d5 (by simp);have y6:=Qa7 hSw d6 (by simp);have y7:=Qa7 hSw d7 (by simp);have y8:=Qa7 hSw d8 (by simp);go_simp;try with_reducible rfl) ?_;go_frame;refine QR 11 rfl (fun K hK=>?_);rw[if_pos (by rfl)];go_simp;go_at_call 119;refine(HAh).mono ?_;rintro e V ⟨rfl,gV⟩;refine hK.out _ _ (aa (ai _) gV) (fun hHeld2=>?_);clear hK K;(try go_frame);refine QZ 12 rfl ?_;go_frame;refine QD ?_;have HGV:QH (W1.grownBy V none):=aa HG.o (aa (ai _) gV);have HOV:QH (V.ownsRow W1.heap.size 111 9 (.slice q gs.length cp) gs.length (aH gs)):=Qav HO.o (aa (ai _) gV) (by cases q <;> simp[Value.ownBlock]);have HDV:QH (dA (fun k=>((ok k∧k<w.heap.size)∨w.heap.size≤k)∧some k≠(Value.slice q gs.length cp).ownBlock) V gs):=HD.o.keep (aa (ai _) gV);clear hHeld2 hHeld cl d0 d1 d2 d3 d4 d5 d6 d7 d8 a0 a1 a2 a3 a4 a5 a6 a7 a8 HG HO HD HS HAh gV;have cl:=(HR.o.keep HGV.o).list;obtain⟨d0,d1,d2,d3,d4,d5,d6,d7,d8⟩:=HRow.o V HGV.o;have hz9:W1.heap.size≤V.heap.size:=HGV.o.size;go_wp2_with (at_builtin;refine wpList_append_own_at _ rfl (.tmp 58) (.tmp 66) 22 rfl W1.heap.size 111 i0 _ 9 80 underlying22 hi hz0 hz1 hz2 rfl (by decide) (.slice q gs.length cp) gs.length (aH gs) rfl (HOV.o.alloc _) ⟨V.heap.size,0,none⟩ 1 1 (cvs eh (.slice ea eps.length ec)) rfl rfl kW (kX _ _ _ _) (by unfold maxLen;omega) (by omega) (by simp;omega) ?_;intro v' w7 hown' hgrow7 hnil7 hown7;clear hnil7)
         have G7:QH (W1.grownBy w7 none):=ak (am HGV.o _) hgrow7 (fun y hy=>(Qa5 HOV.o y hy).1);have hgd:=pT (e:=(⟨eh,.slice ea eps.length ec,eps⟩:Ent)) HDV.o HOV.o (HEo.o _ HGV.o) hz9 hgrow7 hown7
         have hfm:∃ q' cp',v'=.slice q' (gs.length+1) cp':=by
          rcases hown'.2 with ⟨_,h⟩ | ⟨g,cap,cur,h,_⟩
          ·omega
          ·exact⟨_,_,h⟩
         obtain⟨q',cp',rfl⟩:=hfm
         have HO7:QH (w7.ownsRow W1.heap.size 111 9 (.slice q' (gs++[(⟨eh,.slice ea eps.length ec,eps⟩:Ent)]).length cp') (gs++[(⟨eh,.slice ea eps.length ec,eps⟩:Ent)]).length (aH (gs++[(⟨eh,.slice ea eps.length ec,eps⟩:Ent)]))):=by
          have h9:=hown';rw[fT,Qa];exact h9
         have HD7:QH (dA (fun k=>((ok k∧k<w.heap.size)∨w.heap.size≤k)∧some k≠(Value.slice q' (gs++[(⟨eh,.slice ea eps.length ec,eps⟩:Ent)]).length cp').ownBlock) w7 (gs++[(⟨eh,.slice ea eps.length ec,eps⟩:Ent)])):=by
          have h9:=hgd;rw[Qa];exact h9
         clear hgd hown' hgrow7 hown7;go_roundw
         case rel=>exact⟨i+1,gs++[(⟨eh,.slice ea eps.length ec,eps⟩:Ent)],false,q',cp',hlt,by first | rfl | (rw[hsm.wrap hlt];rfl),rfl,by first | rfl | (rw[Qa];rfl),HO7.o,HSV.o,HD7.o,G7.o⟩
         case measure=>first | exact aD hlt | (rw[hsm.wrap hlt];exact aD hlt)
