/-

-/
import Derived.Test.YtjmepebbcnhalaaGreatR6Check
namespace Go.Proofs.YtjmepebbcnhalaaGreat
set_option maxRecDepth 100000
set_option maxHeartbeats 16000000
open Go.RowKit
variable {w:World} {b:Nat} {v:Value} {p:Pl}

theorem RJ.setL (h:RJ w b v p) (v':Value):RJ (w.setCell ⟨b,2,none⟩ v') b v' p:=by
 refine⟨?_,h.nine,h.five⟩
 rw[aC h.lies,List.setIfInBounds_toArray]
 rfl
theorem zn {fs:List Ent} {s:ByteArray} (h:pos (aY fs) s<0):∀ x∈fs,¬x.h.nm=s:=fun x hx e=>qZ h (by rw[←e];exact List.mem_map_of_mem hx)
def vR (ok:Nat→Prop) (b:Nat) (v:Value) (p:Pl) (fs:List Ent) (h:Hd) (ps:List Pt) (w:World) (r:Int) (e:Ending) (w':World):Prop:=∃ u v',e=.returned (.int .i64 r)∧RJ w' b v' p∧RL w' v' (if r=0 then ins fs ⟨h,u,ps⟩ else fs)∧(v'=v∨∀ k,v'.ownBlock=some k→w.heap.size≤k∧k<w'.heap.size)∧cU (fun k=>(ok k∧k<w.heap.size)∨(w.heap.size≤k∧some k≠v'.ownBlock)) w' (if r=0 then ins fs ⟨h,u,ps⟩ else fs)∧w.grownBy w' (some b)
theorem yt (ok:Nat→Prop) (b:Nat) (v:Value) (p:Pl) (fs:List Ent) (h:Hd) (vc:Value) (ps:List Pt) (w:World) (R:RJ w b v p) (L:RL w v fs) (hl:fs.length≤64) (hG:cU ok w fs) (hok:¬ok b) (hps:cD w vc ps) (hm:ba ps.length) (hwf:(h.with ps).wf):Calls Tryz.prog 52 #[.pointer (some ⟨b,0,none⟩),cv h vc] w (vR ok b v p fs h ps w (caE p fs (h.with ps))):=by
 obtain⟨i0,hi,hz0,hz1,hz2⟩:=mF Tryz.info111
 obtain⟨a,c,rfl⟩:=hps.form
 obtain⟨av,kv,rfl⟩:=L.form
 obtain⟨W1,hW1⟩:=Qe (w.alloc (.cells (ccs h (.slice a ps.length c)) 111))
 have HG1:Hid (w.grownBy W1 none):=by rw[hW1];exact QG
 have HA:Hid (CAt W1 w.heap.size h (.slice a ps.length c)):=by rw[hW1];exact ak w _ _
 have HS1:Hid (W1.heap.size=w.heap.size+1):=by show W1.heap.size=_;rw[hW1];simp
 have hb0:Hid (b<w.heap.size):=aZ R.lies
 have HR:Hid (RJ W1 b (.slice av fs.length kv) p):=R.keep HG1.out
 have HL:Hid (RL W1 (.slice av fs.length kv) fs):=L.keep HG1.out
 have HGo:Hid (cU (fun k=>ok k∧k<w.heap.size) W1 fs):=fun e he=>(hG e he).old.keep HG1.out
 have HPs:Hid (cD W1 (.slice a ps.length c) ps):=hps.keep HG1.out
 have HOk:Hid (¬ok b):=hok
 have H64:Hid (fs.length≤64):=hl
 have HM:Hid (ba ps.length):=hm
 have hsm:ba fs.length:=by unfold ba;omega
 have HCK:=tK h (.slice a ps.length c) ps W1 HPs.out hm hwf
 obtain⟨r,hr⟩:∃ r,caE p fs (h.with ps)=r:=⟨_,rfl⟩
 have REF:Hid (∀ w',W1.grownBy w' none→¬r=0→∀ e,e=.returned (.int .i64 r)→vR ok b (.slice av fs.length kv) p fs h ps w r e w'):=fun w' g hne e he=>by
  refine⟨.slice none 0 0,(.slice av fs.length kv),he,HR.out.keep g,?_,Or.inl rfl,?_,aW (ae HG1.out g) (ay _ _)⟩
  ·rw[if_neg hne];exact HL.out.keep g
  ·rw[if_neg hne];exact(HGo.out.keep g).mono fun k hk=>Or.inl hk
 obtain⟨ck,hck⟩:∃ ck,eI (h.with ps)=ck:=⟨_,rfl⟩
 have HP4:Hid (ck=0→ps.length≤4):=fun k=>(jK (by rw[hck];exact k)).2.2.1
 have HE:Hid ((if p.shut=true then 7 else if ¬ck=0 then ck else if 0≤pos (aY fs) h.nm then 5 else if fs.length=64 then 14 else 0)=r):=by rw[←hck,←hr];rfl
 rw[hr]
 rw[hck] at HCK
 have c1:=HR.out.shut
 obtain⟨a0,a1,a2,a3,a4,a5,a6,a7,a8⟩:=HA.out.cells
 unfold ccs at hW1
 unfold cv at HCK ⊢
 clear R L hG hps hm hwf hl hok hr hck
 cases hs:p.shut with
 | true =>
  rw[hs] at c1 HE
  have e7:(7:Int)=r:=by have:=HE.out;rw[if_pos rfl] at this;exact this
  have HT:Hid ((7:Int)=r):=e7
  have HNe:Hid (¬r=0):=by show ¬r=0;omega
  clear e7 hs HCK
  go_enter Tryz.func52,Tryz.ntmps52
  go_upto_region 1 with fail
  rw[←hW1]
  clear hW1
  go_wp2_with fail
  refine(bs b _ p W1 HR.out).mono ?_
  rintro e w1 ⟨rfl,h1⟩
  obtain rfl:W1=w1:=h1.symm
  go_wp2
  go_ret
  exact REF.out _ (ay _ _) HNe.out _ (aM HT.out)
 | false =>
  rw[hs] at c1 HE
  rw[if_neg (by decide)] at HE
  clear hs
  by_cases hc0:ck=0
  case neg =>
   have e7:ck=r:=by have:=HE.out;rw[if_pos hc0] at this;exact this
   have hne:¬r=0:=by omega
   have q0:(ck != 0)=true:=by simpa using hc0
   have HT:Hid (ck=r):=e7
   have HNe:Hid (¬r=0):=hne
   clear e7 hne hc0
   go_enter Tryz.func52,Tryz.ntmps52
   go_upto_region 1 with fail
   rw[←hW1]
   clear hW1
   go_wp2_with fail
   refine(bs b _ p W1 HR.out).mono ?_
   rintro e w1 ⟨rfl,h1⟩
   obtain rfl:W1=w1:=h1.symm
   go_wp2_with fail
   refine HCK.mono ?_
   rintro e w2 ⟨rfl,g2⟩
   have HGx:Hid (W1.grownBy w2 none):=g2
   clear g2
   go_wp2
   go_ret
   exact REF.out _ HGx.out HNe.out _ (aM HT.out)
  case pos =>
   subst hc0
   rw[if_neg (by decide)] at HE
   obtain⟨z,hz⟩:∃ z,pos (aY fs) h.nm=z:=⟨_,rfl⟩
   have hz1:=kl (aY fs) h.nm
   have HU:Hid (z<0→∀ x∈fs,¬x.h.nm=h.nm):=fun k=>zn (by rw[hz];exact k)
   have HP:Hid (∀ W2,W1.grownBy W2 none→Calls Tryz.prog 118 #[.pointer (some ⟨b,0,none⟩),.string h.nm] W2 fun e w'=>e=.returned (.int .i64 z)∧w'=W2):=fun W2 g=>by
    have:=mY b (.slice av fs.length kv) p fs h.nm W2 (HR.out.keep g) (HL.out.keep g) H64.out
    rw[hz] at this
    exact this
   rw[hz] at HE
   clear hz hz1
   by_cases h5:0≤z
   case pos =>
    have HT:Hid ((5:Int)=r):=by have:=HE.out;rw[if_pos h5] at this;exact this
    have HNe:Hid (¬r=0):=by show ¬r=0;rw[←HT.out];decide
    go_enter Tryz.func52,Tryz.ntmps52
    go_upto_region 1 with fail
    rw[←hW1]
    clear hW1
    go_wp2_with fail
    refine(bs b _ p W1 HR.out).mono ?_
    rintro e w1 ⟨rfl,h1⟩
    obtain rfl:W1=w1:=h1.symm
    go_wp2_with fail
    refine HCK.mono ?_
    rintro e w2 ⟨rfl,g2⟩
    have HGx:Hid (W1.grownBy w2 none):=g2
    have b0:=g2.cell a0 (by simp)
    have HPP:=HP.out w2 g2
    clear g2 a0 a1 a2 a3 a4 a5 a6 a7 a8 c1
    go_wp2_with fail
    refine HPP.mono ?_
    rintro e w3 ⟨rfl,h1⟩
    obtain rfl:w2=w3:=h1.symm
    go_wp2
    go_ret
    exact REF.out _ HGx.out HNe.out _ (aM HT.out)
   case neg =>
    rw[if_neg h5] at HE
    have HU2:Hid (∀ x∈fs,¬x.h.nm=h.nm):=HU.out (by omega)
    by_cases h14:fs.length=64
    case pos =>
     have HT:Hid ((14:Int)=r):=by have:=HE.out;rw[if_pos h14] at this;exact this
     have HNe:Hid (¬r=0):=by show ¬r=0;rw[←HT.out];decide
     have l1:(64:Int)≤(fs.length:Int):=by omega
     clear h14
     go_enter Tryz.func52,Tryz.ntmps52
     go_upto_region 1 with fail
     rw[←hW1]
     clear hW1
     go_wp2_with fail
     refine(bs b _ p W1 HR.out).mono ?_
     rintro e w1 ⟨rfl,h1⟩
     obtain rfl:W1=w1:=h1.symm
     go_wp2_with fail
     refine HCK.mono ?_
     rintro e w2 ⟨rfl,g2⟩
     have HGx:Hid (W1.grownBy w2 none):=g2
     have b0:=g2.cell a0 (by simp)
     have cl:=(HR.out.keep g2).list
     have HPP:=HP.out w2 g2
     clear g2 a0 a1 a2 a3 a4 a5 a6 a7 a8 c1
     go_wp2_with fail
     refine HPP.mono ?_
     rintro e w3 ⟨rfl,h1⟩
     obtain rfl:w2=w3:=h1.symm
     go_wp2
     go_ret
     exact REF.out _ HGx.out HNe.out _ (aM HT.out)
    case neg =>
     have HT:Hid ((0:Int)=r):=by have:=HE.out;rw[if_neg h14] at this;exact this
     have l1:¬(64:Int)≤(fs.length:Int):=by have:=H64.out;omega
     have H63:Hid (fs.length<64):=by show fs.length<64;omega
     have hr0:=HT.out
     subst hr0
     have hp4:ps.length≤4:=HP4.out rfl
     clear h14 REF HE HU HT
     go_enter Tryz.func52,Tryz.ntmps52
     go_upto_region 1 with fail
     rw[←hW1]
     clear hW1
     go_wp2_with fail
     refine(bs b _ p W1 HR.out).mono ?_
     rintro e w1 ⟨rfl,h1⟩
     obtain rfl:W1=w1:=h1.symm
     go_wp2_with fail
     refine HCK.mono ?_
     rintro e w2 ⟨rfl,g2⟩
     have b0:=g2.cell a0 (by simp)
     have cl:=(HR.out.keep g2).list
     have HPP:=HP.out w2 g2
     have HG2:Hid (W1.grownBy w2 none):=g2
     clear g2 a0 a1 a2 a3 a4 a5 a6 a7 a8 c1
     go_wp2_with fail
     refine HPP.mono ?_
     rintro e w3 ⟨rfl,h1⟩
     obtain rfl:w2=w3:=h1.symm
     clear HPP h1 HP
     go_wp2_with fail
     clear cl b0 l1
     go_loopw [6,7,8] (fun x6 x7 x8 wr=>∃ (i:Nat) (gs:List Ent) (pb:Bool) (q:Option Addr) (cp:Nat),i≤fs.length∧x8=.int .i64 i∧x7=.bool pb∧x6=.slice q gs.length cp∧wr.ownsRow W1.heap.size 111 9 (.slice q gs.length cp) gs.length (aD gs)∧St fs h ps gs i pb∧cU (fun k=>((ok k∧k<w.heap.size)∨w.heap.size≤k)∧some k≠(Value.slice q gs.length cp).ownBlock) wr gs∧W1.grownBy wr none) (fun _ _ x8 _=>fs.length - (intOf x8).toNat)
     case atStart=>exact⟨0,[],false,none,0,Q0 _,rfl,rfl,rfl,World.ownsRow_nil _ _ _ _,Or.inl ⟨rfl,rfl,fun j e hj=>absurd hj (by omega)⟩,fun e he=>by simp at he,HG2.out⟩
     case round =>
      clear HG2
      obtain⟨i,gs,pb,q,cp,hil,rfl,rfl,rfl,O,S,GD,G⟩:=hrel
      obtain⟨U,hU⟩:=Qe (wr)
      subst hU
      have HG:Hid (W1.grownBy U none):=G
      have HO:Hid (U.ownsRow W1.heap.size 111 9 (.slice q gs.length cp) gs.length (aD gs)):=O
      have HS:Hid (St fs h ps gs i pb):=S
      have HD:Hid (cU (fun k=>((ok k∧k<w.heap.size)∨w.heap.size≤k)∧some k≠(Value.slice q gs.length cp).ownBlock) U gs):=GD
      have hgl:gs.length≤66:=by have h1:=S.len;have h2:=H63.out;omega
      have cl:=(HR.out.keep G).list
      clear O S GD G
      rcases (show i=fs.length∨i<fs.length from by omega) with hie | hlt
      ·rcases (show pb=true∨pb=false by cases pb <;> simp) with hpb | hpb
       ·subst hpb
        obtain⟨u,hu⟩:=(show St fs h ps gs fs.length true by have:=HS.out;rw[hie] at this;exact this).endT HU2.out
        have HUu:Hid (gs=ins fs ⟨h,u,ps⟩):=hu
        have i1:¬(i:Int)<(fs.length:Int):=by omega
        have cf:=fun i=>(HR.out.keep HG.out).free i
        clear hu hie hil HS
        go_wp2
        go_ret
        refine⟨u,.slice q gs.length cp,rfl,(HR.out.keep HG.out).setL _,?_,Or.inr ?_,?_,aW (ae HG1.out HG.out) (aj _ b _ _)⟩
        ·rw[if_pos rfl,←HUu.out]
         exact RL.keepR (DJ.rl HO.out) (aj _ b _ _) (fun k hk e=>by
          injection e with e
          have h1:=(World.ownsRow.lt HO.out k hk).1
          have h2:=hb0.out
          have h3:=HS1.out
          omega)
        ·intro k hk
         have h1:=World.ownsRow.lt HO.out k hk
         have h3:=HS1.out
         exact⟨by omega,Nat.lt_of_lt_of_le h1.2 (aj _ b _ _).size⟩
        ·rw[if_pos rfl,←HUu.out]
         refine(HD.out.keepR (aj _ b _ _) (fun k hk e=>?_)).mono fun k hk=>hk.1.elim Or.inl (fun h=>Or.inr ⟨h,hk.2⟩)
         injection e with e
         subst e
         rcases hk.1 with h | h
         ·exact HOk.out h.1
         ·have:=hb0.out
          omega
       ·subst hpb
        have HSe:Hid (∀ u,gs++[(⟨h,u,ps⟩:Ent)]=ins fs ⟨h,u,ps⟩):=(show St fs h ps gs fs.length false by have:=HS.out;rw[hie] at this;exact this).endF HU2.out
        have i1:¬(i:Int)<(fs.length:Int):=by omega
        obtain⟨V,hV⟩:=Qe (U)
        subst hV
        have HGV:Hid (W1.grownBy V none):=HG.out
        have HOV:Hid (V.ownsRow W1.heap.size 111 9 (.slice q gs.length cp) gs.length (aD gs)):=HO.out
        have HDV:Hid (cU (fun k=>((ok k∧k<w.heap.size)∨w.heap.size≤k)∧some k≠(Value.slice q gs.length cp).ownBlock) V gs):=HD.out
        clear hie hil HS HG HO HD
        obtain⟨a0,a1,a2,a3,a4,a5,a6,a7,a8⟩:=(HA.out.keep HGV.out).cells
        have HC:=lD h (.slice a ps.length c) ps V (HPs.out.keep HGV.out) (by omega)
        unfold cv at HC
        go_wp2_with fail
        refine HC.mono ?_
        rintro e w5 ⟨u,rfl,o5,g5⟩
        obtain⟨a2,k2,rfl⟩:=o5.at.form
        have HO5:Hid (bG w5 V.heap.size (.slice a2 ps.length k2) ps):=o5
        have HG5:Hid (V.grownBy w5 none):=g5
        have HOW:Hid (w5.ownsRow W1.heap.size 111 9 (.slice q gs.length cp) gs.length (aD gs)):=World.ownsRow.kept HOV.out g5 (by cases q <;> simp[Value.ownBlock])
        have hz9:W1.heap.size≤w5.heap.size:=Ql HGV.out.size g5.size
        have hz8:w.heap.size≤V.heap.size:=by have h1:=HGV.out.size;have h2:=HS1.out;omega
        clear o5 g5 HC a0 a1 a3 a4 a5 a6 a7 a8
        go_upto_region 23 with (at_builtin;refine wpList_append_own_at _ rfl (.tmp 70) (.tmp 73) 22 rfl W1.heap.size 111 i0 _ 9 80 Tryz.underlying22 hi hz0 hz1 hz2 rfl (by decide) (.slice q gs.length cp) gs.length (aD gs) rfl (HOW.out.alloc _) ⟨w5.heap.size,0,none⟩ 1 1 (cvs h (.slice a2 ps.length k2)) rfl rfl kL (ky _ _ _ _) (by unfold maxLen;omega) (by omega) (by simp;omega) ?_;intro v' w7 hown' hgrow7 hnil7 hown7;clear hnil7)
        have G7:Hid (W1.grownBy w7 none):=ar (al (ae HGV.out HG5.out) _) hgrow7 (fun y hy=>(World.ownsRow.lt HOW.out y hy).1)
        have hgd:=qh (ok:=fun k=>(ok k∧k<w.heap.size)∨w.heap.size≤k) HDV.out HG5.out HOV.out HO5.out (fun k hk=>Or.inr (Ql hz8 hk)) hgrow7 hown7
        have hfm:∃ q' cp',v'=.slice q' (gs.length+1) cp':=by
         rcases hown'.2 with ⟨_,h⟩ | ⟨g,cap,cur,h,_⟩
         ·omega
         ·exact⟨_,_,h⟩
        obtain⟨q',cp',rfl⟩:=hfm
        have HO7:Hid (w7.ownsRow W1.heap.size 111 9 (.slice q' (gs++[(⟨h,.slice a2 ps.length k2,ps⟩:Ent)]).length cp') (gs++[(⟨h,.slice a2 ps.length k2,ps⟩:Ent)]).length (aD (gs++[(⟨h,.slice a2 ps.length k2,ps⟩:Ent)]))):=by
         have h9:=hown'
         rw[fx,Qa]
         exact h9
        have HD7:Hid (cU (fun k=>((ok k∧k<w.heap.size)∨w.heap.size≤k)∧some k≠(Value.slice q' (gs++[(⟨h,.slice a2 ps.length k2,ps⟩:Ent)]).length cp').ownBlock) w7 (gs++[(⟨h,.slice a2 ps.length k2,ps⟩:Ent)])):=by
         have h9:=hgd
         rw[Qa]
         exact h9
        clear hgd hown' hgrow7 hown7
        have HUu:Hid (gs++[(⟨h,.slice a2 ps.length k2,ps⟩:Ent)]=ins fs ⟨h,.slice a2 ps.length k2,ps⟩):=HSe.out _
        obtain⟨gs2,hgs2⟩:=Qe (gs++[(⟨h,.slice a2 ps.length k2,ps⟩:Ent)])
        have hln2:gs.length+1=gs2.length:=by rw[hgs2,Qa];rfl
        rw[←hgs2] at HO7 HD7 HUu
        rw[hln2]
        have cl9:=(HR.out.keep G7.out).list
        have cf:=fun i=>(HR.out.keep G7.out).free i
        clear hgs2 hln2 HSe HGV HOV HDV hgl cl
        go_wp2
        go_ret
        refine⟨.slice a2 ps.length k2,.slice q' gs2.length cp',rfl,(HR.out.keep G7.out).setL _,?_,Or.inr ?_,?_,aW (ae HG1.out G7.out) (aj _ b _ _)⟩
        ·rw[if_pos rfl,←HUu.out]
         exact RL.keepR (DJ.rl HO7.out) (aj _ b _ _) (fun k hk e=>by
          injection e with e
          have h1:=(World.ownsRow.lt HO7.out k hk).1
          have h2:=hb0.out
          have h3:=HS1.out
          omega)
        ·intro k hk
         have h1:=World.ownsRow.lt HO7.out k hk
         have h3:=HS1.out
         exact⟨by omega,Nat.lt_of_lt_of_le h1.2 (aj _ b _ _).size⟩
        ·rw[if_pos rfl,←HUu.out]
         refine(HD7.out.keepR (aj _ b _ _) (fun k hk e=>?_)).mono fun k hk=>hk.1.elim Or.inl (fun h=>Or.inr ⟨h,hk.2⟩)
         injection e with e
         subst e
         rcases hk.1 with h | h
         ·exact HOk.out h.1
         ·have:=hb0.out
          omega
      ·have i1:(i:Int)<(fs.length:Int):=by omega
       have j0:(0:Int)≤(i:Int):=by omega
       obtain⟨g,cap,ev,hrow⟩:=HL.out.row (by omega)
       injection ev with e1 _ e3
       subst e1
       subst e3
       obtain⟨e,he⟩:∃ e,fs[i]?=some e:=⟨_,Qg hlt⟩
       obtain⟨ea,ec,hev⟩:=(HGo.out e (Qm he)).1.form
       obtain⟨eh,ev,eps⟩:=e
       simp only at hev
       subst hev
       have HE:Hid (fs[i]?=some (⟨eh,.slice ea eps.length ec,eps⟩:Ent)):=he
       have HRow:Hid (∀ X,W1.grownBy X none→C9 X g (i*9) eh (.slice ea eps.length ec)):=fun X gX=>(hrow i _ he).keep gX
       have HEo:Hid (∀ X,W1.grownBy X none→iG (fun k=>((ok k∧k<w.heap.size)∨w.heap.size≤k)∧k<W1.heap.size) X (.slice ea eps.length ec) eps):=fun X gX=>((HGo.out _ (Qm he)).keep gX).mono fun k hk=>⟨Or.inl hk,by have:=HS1.out;omega⟩
       obtain⟨d0,d1,d2,d3,d4,d5,d6,d7,d8⟩:=HRow.out U HG.out
       obtain⟨a0,a1,a2,a3,a4,a5,a6,a7,a8⟩:=(HA.out.keep HG.out).cells
       clear hrow he
       cases pb with
       | true =>
        go_upto_region 17 with fail
        refine wp_region_held_drew (S:=fun w'=>U.grownBy w' none) (by kernel_rfl) (ai _) (fun hHeld=>?_)
        refine QZ 0 rfl ?_
        go_frame
        refine QZ 1 rfl ?_
        go_frame
        refine QZ 2 rfl ?_
        go_frame
        refine QN 3 rfl ?_
        go_frame
        refine QN 4 rfl ?_
        go_frame
        refine QN 5 rfl ?_
        go_frame
        refine QN 6 rfl ?_
        go_frame
        refine QN 7 rfl ?_
        go_frame
        refine QN 8 rfl ?_
        go_frame
        refine QN 9 rfl ?_
        go_frame
        refine QN 10 rfl ?_
        go_frame
        refine QR 11 rfl (fun K hK=>?_)
        rw[if_neg (Bool.eq_false_iff.1 (by rfl))]
        refine hK.out _ _ (by assumption) (fun hHeld2=>?_)
        clear hK K
        (try go_frame)
        refine QZ 12 rfl ?_
        go_frame
        refine QD ?_
        have HGV:Hid (W1.grownBy U.drew none):=ae HG.out (ai _)
        have HOV:Hid (U.drew.ownsRow W1.heap.size 111 9 (.slice q gs.length cp) gs.length (aD gs)):=HO.out
        have HDV:Hid (cU (fun k=>((ok k∧k<w.heap.size)∨w.heap.size≤k)∧some k≠(Value.slice q gs.length cp).ownBlock) U.drew gs):=HD.out.keep (ai _)
        have HSV:Hid (St fs h ps (gs++[(⟨eh,.slice ea eps.length ec,eps⟩:Ent)]) (i+1) true):=HS.out.on HE.out
        have DV:=HRow.out U.drew HGV.out
        have cl':=(HR.out.keep HGV.out).list
        obtain⟨V,hV⟩:=Qe (U.drew)
        rw[←hV] at HGV HOV HDV DV cl' ⊢
        clear hV hHeld2 hHeld cl d0 d1 d2 d3 d4 d5 d6 d7 d8 a0 a1 a2 a3 a4 a5 a6 a7 a8 HG HO HD HS
        obtain⟨d0,d1,d2,d3,d4,d5,d6,d7,d8⟩:=DV
        have hz9:W1.heap.size≤V.heap.size:=HGV.out.size
        go_wp2_with (at_builtin;refine wpList_append_own_at _ rfl (.tmp 58) (.tmp 66) 22 rfl W1.heap.size 111 i0 _ 9 80 Tryz.underlying22 hi hz0 hz1 hz2 rfl (by decide) (.slice q gs.length cp) gs.length (aD gs) rfl (HOV.out.alloc _) ⟨V.heap.size,0,none⟩ 1 1 (cvs eh (.slice ea eps.length ec)) rfl rfl kL (ky _ _ _ _) (by unfold maxLen;omega) (by omega) (by simp;omega) ?_;intro v' w7 hown' hgrow7 hnil7 hown7;clear hnil7)
        have G7:Hid (W1.grownBy w7 none):=ar (al HGV.out _) hgrow7 (fun y hy=>(World.ownsRow.lt HOV.out y hy).1)
        have hgd:=oK (e:=(⟨eh,.slice ea eps.length ec,eps⟩:Ent)) HDV.out HOV.out (HEo.out _ HGV.out) hz9 hgrow7 hown7
        have hfm:∃ q' cp',v'=.slice q' (gs.length+1) cp':=by
         rcases hown'.2 with ⟨_,h⟩ | ⟨g,cap,cur,h,_⟩
         ·omega
         ·exact⟨_,_,h⟩
        obtain⟨q',cp',rfl⟩:=hfm
        have HO7:Hid (w7.ownsRow W1.heap.size 111 9 (.slice q' (gs++[(⟨eh,.slice ea eps.length ec,eps⟩:Ent)]).length cp') (gs++[(⟨eh,.slice ea eps.length ec,eps⟩:Ent)]).length (aD (gs++[(⟨eh,.slice ea eps.length ec,eps⟩:Ent)]))):=by
         have h9:=hown'
         rw[fx,Qa]
         exact h9
        have HD7:Hid (cU (fun k=>((ok k∧k<w.heap.size)∨w.heap.size≤k)∧some k≠(Value.slice q' (gs++[(⟨eh,.slice ea eps.length ec,eps⟩:Ent)]).length cp').ownBlock) w7 (gs++[(⟨eh,.slice ea eps.length ec,eps⟩:Ent)])):=by
         have h9:=hgd
         rw[Qa]
         exact h9
        clear hgd hown' hgrow7 hown7
        go_roundw
        case rel=>exact⟨i+1,gs++[(⟨eh,.slice ea eps.length ec,eps⟩:Ent)],true,q',cp',hlt,by first | rfl | (rw[hsm.wrap hlt];rfl),rfl,by first | rfl | (rw[Qa];rfl),HO7.out,HSV.out,HD7.out,G7.out⟩
        case measure=>first | exact aA hlt | (rw[hsm.wrap hlt];exact aA hlt)
       | false =>
        by_cases ho:ord h eh<0
        case pos =>
         have HAh:=nX h eh (.slice a ps.length c) (.slice ea eps.length ec) U.drew
         rw[Qy ho] at HAh
         have HSV:Hid (∀ u,St fs h ps ((gs++[(⟨h,u,ps⟩:Ent)])++[(⟨eh,.slice ea eps.length ec,eps⟩:Ent)]) (i+1) true):=HS.out.put HE.out ho
         unfold cv at HAh
         clear ho
         go_upto_region 17 with fail
         refine wp_region_held_drew (S:=fun w'=>U.grownBy w' none) (by kernel_rfl) (ai _) (fun hHeld=>?_)
         refine QZ 0 rfl ?_
         go_frame
         refine QZ 1 rfl ?_
         go_frame
         refine QZ 2 rfl ?_
         go_frame
         refine QT 3 rfl (by intro w0 hSw;have y0:=World.grownBy.cell hSw a0 (by simp);have y1:=World.grownBy.cell hSw a1 (by simp);have y2:=World.grownBy.cell hSw a2 (by simp);have y3:=World.grownBy.cell hSw a3 (by simp);have y4:=World.grownBy.cell hSw a4 (by simp);have y5:=World.grownBy.cell hSw a5 (by simp);have y6:=World.grownBy.cell hSw a6 (by simp);have y7:=World.grownBy.cell hSw a7 (by simp);have y8:=World.grownBy.cell hSw a8 (by simp);go_simp;try with_reducible rfl) ?_
         go_frame
         refine QZ 4 rfl ?_
         go_frame
         refine QZ 5 rfl ?_
         go_frame
         refine QZ 6 rfl ?_
         go_frame
         refine QT 7 rfl (by intro w0 hSw;have y:=World.grownBy.cell hSw cl (by simp);go_simp;try with_reducible rfl) ?_
         go_frame
         refine QZ 8 rfl ?_
         go_frame
         refine QZ 9 rfl ?_
         go_frame
         refine QT 10 rfl (by intro w0 hSw;have y0:=World.grownBy.cell hSw d0 (by simp);have y1:=World.grownBy.cell hSw d1 (by simp);have y2:=World.grownBy.cell hSw d2 (by simp);have y3:=World.grownBy.cell hSw d3 (by simp);have y4:=World.grownBy.cell hSw d4 (by simp);have y5:=World.grownBy.cell hSw d5 (by simp);have y6:=World.grownBy.cell hSw d6 (by simp);have y7:=World.grownBy.cell hSw d7 (by simp);have y8:=World.grownBy.cell hSw d8 (by simp);go_simp;try with_reducible rfl) ?_
         go_frame
         refine QR 11 rfl (fun K hK=>?_)
         rw[if_pos (by rfl)]
         go_simp
         go_at_call 119
         refine(HAh).mono ?_
         rintro e V ⟨rfl,gV⟩
         refine hK.out _ _ (ae (ai _) gV) (fun hHeld2=>?_)
         clear hK K
         (try go_frame)
         refine QZ 12 rfl ?_
         go_frame
         refine QD ?_
         have HGV:Hid (W1.grownBy V none):=ae HG.out (ae (ai _) gV)
         have HOV:Hid (V.ownsRow W1.heap.size 111 9 (.slice q gs.length cp) gs.length (aD gs)):=World.ownsRow.kept HO.out (ae (ai _) gV) (by cases q <;> simp[Value.ownBlock])
         have HDV:Hid (cU (fun k=>((ok k∧k<w.heap.size)∨w.heap.size≤k)∧some k≠(Value.slice q gs.length cp).ownBlock) V gs):=HD.out.keep (ae (ai _) gV)
         clear hHeld2 hHeld cl d0 d1 d2 d3 d4 d5 d6 d7 d8 a0 a1 a2 a3 a4 a5 a6 a7 a8 HG HO HD HS HAh gV
         obtain⟨a0,a1,a2,a3,a4,a5,a6,a7,a8⟩:=(HA.out.keep HGV.out).cells
         have HC:=lD h (.slice a ps.length c) ps V (HPs.out.keep HGV.out) (by omega)
         unfold cv at HC
         go_wp2_with fail
         refine HC.mono ?_
         rintro e w5 ⟨u,rfl,o5,g5⟩
         obtain⟨a2,k2,rfl⟩:=o5.at.form
         have HO5:Hid (bG w5 V.heap.size (.slice a2 ps.length k2) ps):=o5
         have HG5:Hid (V.grownBy w5 none):=g5
         have HOW:Hid (w5.ownsRow W1.heap.size 111 9 (.slice q gs.length cp) gs.length (aD gs)):=World.ownsRow.kept HOV.out g5 (by cases q <;> simp[Value.ownBlock])
         have hz9:W1.heap.size≤w5.heap.size:=Ql HGV.out.size g5.size
         have hz8:w.heap.size≤V.heap.size:=by have h1:=HGV.out.size;have h2:=HS1.out;omega
         clear o5 g5 HC a0 a1 a3 a4 a5 a6 a7 a8
         go_upto_region 20 with (at_builtin;refine wpList_append_own_at _ rfl (.tmp 53) (.tmp 56) 22 rfl W1.heap.size 111 i0 _ 9 80 Tryz.underlying22 hi hz0 hz1 hz2 rfl (by decide) (.slice q gs.length cp) gs.length (aD gs) rfl (HOW.out.alloc _) ⟨w5.heap.size,0,none⟩ 1 1 (cvs h (.slice a2 ps.length k2)) rfl rfl kL (ky _ _ _ _) (by unfold maxLen;omega) (by omega) (by simp;omega) ?_;intro v' w7 hown' hgrow7 hnil7 hown7;clear hnil7)
         have G7:Hid (W1.grownBy w7 none):=ar (al (ae HGV.out HG5.out) _) hgrow7 (fun y hy=>(World.ownsRow.lt HOW.out y hy).1)
         have hgd:=qh (ok:=fun k=>(ok k∧k<w.heap.size)∨w.heap.size≤k) HDV.out HG5.out HOV.out HO5.out (fun k hk=>Or.inr (Ql hz8 hk)) hgrow7 hown7
         have hfm:∃ q' cp',v'=.slice q' (gs.length+1) cp':=by
          rcases hown'.2 with ⟨_,h⟩ | ⟨g,cap,cur,h,_⟩
          ·omega
          ·exact⟨_,_,h⟩
         obtain⟨q',cp',rfl⟩:=hfm
         have HO7:Hid (w7.ownsRow W1.heap.size 111 9 (.slice q' (gs++[(⟨h,.slice a2 ps.length k2,ps⟩:Ent)]).length cp') (gs++[(⟨h,.slice a2 ps.length k2,ps⟩:Ent)]).length (aD (gs++[(⟨h,.slice a2 ps.length k2,ps⟩:Ent)]))):=by
          have h9:=hown'
          rw[fx,Qa]
          exact h9
         have HD7:Hid (cU (fun k=>((ok k∧k<w.heap.size)∨w.heap.size≤k)∧some k≠(Value.slice q' (gs++[(⟨h,.slice a2 ps.length k2,ps⟩:Ent)]).length cp').ownBlock) w7 (gs++[(⟨h,.slice a2 ps.length k2,ps⟩:Ent)])):=by
          have h9:=hgd
          rw[Qa]
          exact h9
         clear hgd hown' hgrow7 hown7
         obtain⟨V2,hV2⟩:=Qe (w7)
         subst hV2
         clear HGV HOV HDV
         have HGV:Hid (W1.grownBy V2 none):=G7.out
         obtain⟨gs2,hgs2⟩:=Qe (gs++[(⟨h,.slice a2 ps.length k2,ps⟩:Ent)])
         have HSV2:Hid (St fs h ps (gs2++[(⟨eh,.slice ea eps.length ec,eps⟩:Ent)]) (i+1) true):=by rw[hgs2];exact HSV.out _
         have hgl2:gs2.length≤67:=by rw[hgs2,Qa];simp;omega
         have hln2:gs.length+1=gs2.length:=by rw[hgs2,Qa];rfl
         rw[←hgs2] at HO7 HD7
         rw[hln2]
         clear hgs2 hln2 HSV G7 hgl
         have cl:=(HR.out.keep HGV.out).list
         obtain⟨d0,d1,d2,d3,d4,d5,d6,d7,d8⟩:=HRow.out V2 HGV.out
         obtain⟨qa,hqa⟩:=Qe (q')
         obtain⟨ca,hca⟩:=Qe (cp')
         subst hqa
         subst hca
         have HO8:=HO7
         have HD8:=HD7
         clear HO7 HD7
         have hz9:W1.heap.size≤V2.heap.size:=HGV.out.size
         go_wp2_with (at_builtin;refine wpList_append_own_at _ rfl (.tmp 58) (.tmp 66) 22 rfl W1.heap.size 111 i0 _ 9 80 Tryz.underlying22 hi hz0 hz1 hz2 rfl (by decide) (.slice qa gs2.length ca) gs2.length (aD gs2) rfl (HO8.out.alloc _) ⟨V2.heap.size,0,none⟩ 1 1 (cvs eh (.slice ea eps.length ec)) rfl rfl kL (ky _ _ _ _) (by unfold maxLen;omega) (by omega) (by simp;omega) ?_;intro v' w7 hown' hgrow7 hnil7 hown7;clear hnil7)
         have G7:Hid (W1.grownBy w7 none):=ar (al HGV.out _) hgrow7 (fun y hy=>(World.ownsRow.lt HO8.out y hy).1)
         have hgd:=oK (e:=(⟨eh,.slice ea eps.length ec,eps⟩:Ent)) HD8.out HO8.out (HEo.out _ HGV.out) hz9 hgrow7 hown7
         have hfm:∃ q' cp',v'=.slice q' (gs2.length+1) cp':=by
          rcases hown'.2 with ⟨_,h⟩ | ⟨g,cap,cur,h,_⟩
          ·omega
          ·exact⟨_,_,h⟩
         obtain⟨q',cp',rfl⟩:=hfm
         have HO7:Hid (w7.ownsRow W1.heap.size 111 9 (.slice q' (gs2++[(⟨eh,.slice ea eps.length ec,eps⟩:Ent)]).length cp') (gs2++[(⟨eh,.slice ea eps.length ec,eps⟩:Ent)]).length (aD (gs2++[(⟨eh,.slice ea eps.length ec,eps⟩:Ent)]))):=by
          have h9:=hown'
          rw[fx,Qa]
          exact h9
         have HD7:Hid (cU (fun k=>((ok k∧k<w.heap.size)∨w.heap.size≤k)∧some k≠(Value.slice q' (gs2++[(⟨eh,.slice ea eps.length ec,eps⟩:Ent)]).length cp').ownBlock) w7 (gs2++[(⟨eh,.slice ea eps.length ec,eps⟩:Ent)])):=by
          have h9:=hgd
          rw[Qa]
          exact h9
         clear hgd hown' hgrow7 hown7
         go_roundw
         case rel=>exact⟨i+1,gs2++[(⟨eh,.slice ea eps.length ec,eps⟩:Ent)],true,q',cp',hlt,by first | rfl | (rw[hsm.wrap hlt];rfl),rfl,by first | rfl | (rw[Qa];rfl),HO7.out,HSV2.out,HD7.out,G7.out⟩
         case measure=>first | exact aA hlt | (rw[hsm.wrap hlt];exact aA hlt)
        case neg =>
         have HAh:=nX h eh (.slice a ps.length c) (.slice ea eps.length ec) U.drew
         rw[Qx ho] at HAh
         have HSV:Hid (St fs h ps (gs++[(⟨eh,.slice ea eps.length ec,eps⟩:Ent)]) (i+1) false):=HS.out.old HE.out ho
         unfold cv at HAh
         clear ho
         go_upto_region 17 with fail
         refine wp_region_held_drew (S:=fun w'=>U.grownBy w' none) (by kernel_rfl) (ai _) (fun hHeld=>?_)
         refine QZ 0 rfl ?_
         go_frame
         refine QZ 1 rfl ?_
         go_frame
         refine QZ 2 rfl ?_
         go_frame
         refine QT 3 rfl (by intro w0 hSw;have y0:=World.grownBy.cell hSw a0 (by simp);have y1:=World.grownBy.cell hSw a1 (by simp);have y2:=World.grownBy.cell hSw a2 (by simp);have y3:=World.grownBy.cell hSw a3 (by simp);have y4:=World.grownBy.cell hSw a4 (by simp);have y5:=World.grownBy.cell hSw a5 (by simp);have y6:=World.grownBy.cell hSw a6 (by simp);have y7:=World.grownBy.cell hSw a7 (by simp);have y8:=World.grownBy.cell hSw a8 (by simp);go_simp;try with_reducible rfl) ?_
         go_frame
         refine QZ 4 rfl ?_
         go_frame
         refine QZ 5 rfl ?_
         go_frame
         refine QZ 6 rfl ?_
         go_frame
         refine QT 7 rfl (by intro w0 hSw;have y:=World.grownBy.cell hSw cl (by simp);go_simp;try with_reducible rfl) ?_
         go_frame
         refine QZ 8 rfl ?_
         go_frame
         refine QZ 9 rfl ?_
         go_frame
         refine QT 10 rfl (by intro w0 hSw;have y0:=World.grownBy.cell hSw d0 (by simp);have y1:=World.grownBy.cell hSw d1 (by simp);have y2:=World.grownBy.cell hSw d2 (by simp);have y3:=World.grownBy.cell hSw d3 (by simp);have y4:=World.grownBy.cell hSw d4 (by simp);have y5:=World.grownBy.cell hSw d5 (by simp);have y6:=World.grownBy.cell hSw d6 (by simp);have y7:=World.grownBy.cell hSw d7 (by simp);have y8:=World.grownBy.cell hSw d8 (by simp);go_simp;try with_reducible rfl) ?_
         go_frame
         refine QR 11 rfl (fun K hK=>?_)
         rw[if_pos (by rfl)]
         go_simp
         go_at_call 119
         refine(HAh).mono ?_
         rintro e V ⟨rfl,gV⟩
         refine hK.out _ _ (ae (ai _) gV) (fun hHeld2=>?_)
         clear hK K
         (try go_frame)
         refine QZ 12 rfl ?_
         go_frame
         refine QD ?_
         have HGV:Hid (W1.grownBy V none):=ae HG.out (ae (ai _) gV)
         have HOV:Hid (V.ownsRow W1.heap.size 111 9 (.slice q gs.length cp) gs.length (aD gs)):=World.ownsRow.kept HO.out (ae (ai _) gV) (by cases q <;> simp[Value.ownBlock])
         have HDV:Hid (cU (fun k=>((ok k∧k<w.heap.size)∨w.heap.size≤k)∧some k≠(Value.slice q gs.length cp).ownBlock) V gs):=HD.out.keep (ae (ai _) gV)
         clear hHeld2 hHeld cl d0 d1 d2 d3 d4 d5 d6 d7 d8 a0 a1 a2 a3 a4 a5 a6 a7 a8 HG HO HD HS HAh gV
         have cl:=(HR.out.keep HGV.out).list
         obtain⟨d0,d1,d2,d3,d4,d5,d6,d7,d8⟩:=HRow.out V HGV.out
         have hz9:W1.heap.size≤V.heap.size:=HGV.out.size
         go_wp2_with (at_builtin;refine wpList_append_own_at _ rfl (.tmp 58) (.tmp 66) 22 rfl W1.heap.size 111 i0 _ 9 80 Tryz.underlying22 hi hz0 hz1 hz2 rfl (by decide) (.slice q gs.length cp) gs.length (aD gs) rfl (HOV.out.alloc _) ⟨V.heap.size,0,none⟩ 1 1 (cvs eh (.slice ea eps.length ec)) rfl rfl kL (ky _ _ _ _) (by unfold maxLen;omega) (by omega) (by simp;omega) ?_;intro v' w7 hown' hgrow7 hnil7 hown7;clear hnil7)
         have G7:Hid (W1.grownBy w7 none):=ar (al HGV.out _) hgrow7 (fun y hy=>(World.ownsRow.lt HOV.out y hy).1)
         have hgd:=oK (e:=(⟨eh,.slice ea eps.length ec,eps⟩:Ent)) HDV.out HOV.out (HEo.out _ HGV.out) hz9 hgrow7 hown7
         have hfm:∃ q' cp',v'=.slice q' (gs.length+1) cp':=by
          rcases hown'.2 with ⟨_,h⟩ | ⟨g,cap,cur,h,_⟩
          ·omega
          ·exact⟨_,_,h⟩
         obtain⟨q',cp',rfl⟩:=hfm
         have HO7:Hid (w7.ownsRow W1.heap.size 111 9 (.slice q' (gs++[(⟨eh,.slice ea eps.length ec,eps⟩:Ent)]).length cp') (gs++[(⟨eh,.slice ea eps.length ec,eps⟩:Ent)]).length (aD (gs++[(⟨eh,.slice ea eps.length ec,eps⟩:Ent)]))):=by
          have h9:=hown'
          rw[fx,Qa]
          exact h9
         have HD7:Hid (cU (fun k=>((ok k∧k<w.heap.size)∨w.heap.size≤k)∧some k≠(Value.slice q' (gs++[(⟨eh,.slice ea eps.length ec,eps⟩:Ent)]).length cp').ownBlock) w7 (gs++[(⟨eh,.slice ea eps.length ec,eps⟩:Ent)])):=by
          have h9:=hgd
          rw[Qa]
          exact h9
         clear hgd hown' hgrow7 hown7
         go_roundw
         case rel=>exact⟨i+1,gs++[(⟨eh,.slice ea eps.length ec,eps⟩:Ent)],false,q',cp',hlt,by first | rfl | (rw[hsm.wrap hlt];rfl),rfl,by first | rfl | (rw[Qa];rfl),HO7.out,HSV.out,HD7.out,G7.out⟩
         case measure=>first | exact aA hlt | (rw[hsm.wrap hlt];exact aA hlt)
end Go.Proofs.YtjmepebbcnhalaaGreat
