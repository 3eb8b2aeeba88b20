/-
  Texts laid together: RefG2, LinkW, LinkFn, LinkDo, LinkLaw, LinkInv.
-/
import Derived.Test.YtofhdfjkhfkhiaaGreatGravNamEtc
namespace Go.Proofs.YtofhdfjkhfkhiaaGreat.Pk
open Lib (hid)
open Go.RowKit
set_option linter.unusedVariables false
set_option linter.unusedSimpArgs false
set_option maxRecDepth 100000
section
variable {w w':World} {lo:Nat} {lab:Nat→Nat} {a:WA} {D:Wd} {i:Nat} {t t':Th} {x:TA} {n v b:Nat} {cl:List Nat} {ts:List Th}
theorem LM(h:WAt w lo lab a D)(r:Int):
  Calls Tryz.prog 64 #[.pointer (some ⟨a.hb,0,none⟩),.int .i64 r] w fun e w'=>e=.returned (a.tp (D.ix r))∧w=w':=by
 have c3:=h.h.c3
 obtain⟨⟨om,capm,hmv⟩,hmx⟩:=mE h.h.tv
 have HMX:Hid (D.ts.length≤maxLen):=hid hmx
 have HMV:=hid hmv
 rw[hmv] at c3
 have H:=hid h
 clear h hmx hmv
 go_enter Tryz.func64,Tryz.ntmps64
 go_wp2_with fail
 go_loop [5] (fun i=>∃k:Nat,k≤D.ts.length∧i=.int .i64 (k:Int)∧∀(j:Nat) u,j<k→D.ts[j]? =some u→u.at r=false) (fun i=>D.ts.length-(intOf i).toNat)
 case atStart=>exact⟨0,Nat.zero_le _,rfl,fun j u h=>absurd h (by omega)⟩
 case round=>
  obtain⟨k,hk,rfl,hno⟩:=hrel
  have HN:=hid hno
  clear hno
  by_cases hlt:k<D.ts.length
  ·obtain⟨t,ht⟩:∃t,D.ts[k]? =some t:=⟨_,List.getElem?_eq_getElem hlt⟩
   obtain⟨x,hx⟩:=H.out.h.at ht
   obtain⟨g,cap,htv,ct⟩:=H.out.h.MN ht hx
   rw[HMV.out] at htv
   obtain⟨rfl,_,rfl⟩:om=some ⟨g,0,none⟩∧D.ts.length=D.ts.length∧capm=cap:=by simpa using htv
   have hT:=H.out.h.th k t x ht hx
   have d0:=hT.c0
   have d4:=hT.c4
   have hbd:=H.out.h.bd t (List.mem_of_getElem? ht)
   have hwr:IntKind.i64.wrap ((t.h:Int)+1)=(t.h:Int)+1:=IntWalk.i64_in _ (by omega)
   have hlx:=HMX.out
   unfold maxLen at hlx
   have HT:=hid ht
   have HX:=hid hx
   clear hT hbd ht hx htv
   cases hen:t.ended with
   |true=>
    rw[hen] at d4
    have HA:=hid (yS (r:=r) hen)
    clear hen
    go_wp2_with fail
    go_round
    case rel=>exact⟨k+1,by omega,by go_num,fun j u hj hu=>by
     by_cases e:j=k
     ·subst e;rw[HT.out] at hu;cases hu;exact HA.out
     ·exact HN.out j u (by omega) hu⟩
    case measure=>simp[intOf];omega
   |false=>
    rw[hen] at d4
    by_cases he:(t.h:Int)+1=r
    ·have E:Hid (a.tp (D.ix r)=.pointer (some ⟨x.tb,0,none⟩)):=hid (by
      rw[show D.ix r=some k from xE HT.out (at_eq hen he) (fun j u hj hu=>HN.out j u hj hu)]
      simp[WA.tp,HX.out])
     have hb:=eq_b he
     clear he hen
     go_wp2_with fail
     go_ret
     exact⟨by rw[E.out];rfl,rfl⟩
    ·have HA:=hid (Lb (t:=t) (r:=r) he)
     have hb:=neq_b he
     clear he hen
     go_wp2_with fail
     go_round
     case rel=>exact⟨k+1,by omega,by go_num,fun j u hj hu=>by
      by_cases e:j=k
      ·subst e;rw[HT.out] at hu;cases hu;exact HA.out
      ·exact HN.out j u (by omega) hu⟩
     case measure=>simp[intOf];omega
  ·have E:Hid (D.ix r=none):=hid (sM.2 (fun u hu=>by
    obtain⟨j,hj⟩:=List.mem_iff_getElem?.1 hu
    exact HN.out j u (by have:=(List.getElem?_eq_some_iff.1 hj).1;omega) hj))
   go_wp2_with fail
   go_ret
   exact⟨by rw[E.out];rfl,rfl⟩
theorem h_find_yes(h:WAt w lo lab a D){r:Int}(hi:D.ix r=some i)(hx:a.tas[i]? =some x):
  Calls Tryz.prog 64 #[.pointer (some ⟨a.hb,0,none⟩),.int .i64 r] w fun e w'=>e=.returned (.pointer (some ⟨x.tb,0,none⟩))∧w=w':=by
 have:=LM h r
 rw[hi] at this
 simp only[WA.tp,hx] at this
 exact this
structure SzT (v:Nat) (t:Th):Prop where
 w0:16≤v
 w1:v≤256
 f:((t.pt.length+t.dt.length:Nat):Int)≤fieldsI (v:Int)
 big:¬t.pt.length+t.dt.length≤v-8→t.pt.length+t.dt.length≤t.lv.length*(v-1)
theorem SzT.small(z:SzT v t):t.pt.length+t.dt.length≤65536:=by
 have h1:=z.f
 have h2:fieldsI (v:Int)=((v:Int)-8)*((v:Int)-1):=rfl
 have h3:((v:Int)-8)*((v:Int)-1)≤248*255:=Int.mul_le_mul (by have:=z.w1;omega) (by have:=z.w1;omega) (by have:=z.w0;omega) (by omega)
 omega
theorem SzT.leaf(z:SzT v t)(hb:¬t.pt.length+t.dt.length≤v-8){k:Nat}(hk:k<t.pt.length+t.dt.length):k/(v-1)<t.lv.length:=by
 have:=z.big hb
 have:=z.w0
 rw[Nat.div_lt_iff_lt_mul (by omega)]
 omega
end
section
variable (D:Wd) (r:Int)
def Wd.aliveB:Bool:=(D.find r).isSome&& !D.dead r
def Wd.more:Wd:=(D.up r).touch r
def Wd.sus:Wd:={D with suspect:=1}
def Wd.less:Wd:=(D.down r).sus.inter r
def Wd.putS(i:Nat)(x:Int):Wd:=(if x=0 then D else D.more x).setP r i x
def Wd.putY(y:Int):Wd:=if 0<D.cnt y then(D.touch y).less y else D
def Wd.put(i:Nat)(x y:Int):Wd:=(D.putS r i x).putY y
def Wd.born(x y:Int):Wd:=if D.mkE x y=0 then((D.mkD x y).dye (D.mkR x y)).more (D.mkR x y) else D
end
section
variable {D D':Wd} {r x y:Int} {t s u:Th} {hold hold':Nat→Nat}
theorem aliveB_some(hf:D.find r=some t):D.aliveB r= !t.mr.dead:=by unfold Wd.aliveB Wd.dead;rw[hf];rfl
theorem qp(hf:D.find r=none):D.aliveB r=false:=by unfold Wd.aliveB;rw[hf];rfl
theorem aliveB_yes(h:D.aliveB r=true):∃t,D.find r=some t∧t.mr.dead=false:=by
 cases hf:D.find r with
 |none=>rw[qp hf] at h;cases h
 |some t=>rw[aliveB_some hf] at h;exact⟨t,rfl,by simpa using h⟩
theorem touch_ts(r:Int):(D.touch r).ts=D.ts∨(D.touch r).ts=(D.paint r).ts:=by
 unfold Wd.touch
 split
 ·exact .inr rfl
 ·exact .inl rfl
theorem uq(r:Int):(D.touch r).clean=D.clean∧(D.touch r).grave=D.grave∧(D.touch r).pending=D.pending∧(D.touch r).n=D.n∧(D.touch r).w=D.w∧(D.touch r).suspect=D.suspect:=by
 unfold Wd.touch
 split<;>exact⟨rfl,rfl,rfl,rfl,rfl,rfl⟩
theorem CG(q:Int)(r:Int):(D.touch r).find q=D.find q∨(D.touch r).find q=(D.find q).map (fun t=>if t.at r then {t with mr:={t.mr with color:=D.parity}} else t):=by
 rcases touch_ts (D:=D) r with h|h
 ·left
  unfold Wd.find
  rw[h]
 ·right
  have:(D.touch r).find q=(D.paint r).find q:=by unfold Wd.find;rw[h]
  rw[this]
  exact lF (D:=D) (r:=r) (g:=fun t=>{t with mr:={t.mr with color:=D.parity}}) (fun t=>⟨rfl,rfl⟩) q
theorem touch_mark(q:Int)(hf:D.find q=some t)(r:Int):∃k,(D.touch r).find q=some {t with mr:={t.mr with color:=k}}:=by
 rcases CG (D:=D) q r with h|h
 ·exact⟨t.mr.color,by rw[h,hf]⟩
 ·rw[h,hf]
  by_cases e:t.at r=true
  ·exact⟨D.parity,by simp[e]⟩
  ·exact⟨t.mr.color,by simp[e]⟩
theorem San.paint(S:San D)(r:Int):San (D.paint r):=S.mark r (fun _=>rfl) (fun _=>rfl) (fun _=>rfl)
theorem San.touch(S:San D)(r:Int):San (D.touch r):=by
 unfold Wd.touch
 split
 ·rename_i h
  have S1:=S.paint r
  refine S1.same_but rfl rfl rfl rfl (fun b hb=> ?_)
  have hb:b∈(if hasB (ints D.ring) (r-1) then D.ring else D.ring++[(r-1).toNat]):=hb
  split at hb
  ·exact .inl hb
  ·rcases List.mem_append.1 hb with hb|hb
   ·exact .inl hb
   ·right
    intro s hs e
    unfold Wd.toucht at h
    cases hf:D.find r with
    |none=>rw[hf] at h;cases h
    |some t=>
     rw[hf] at h
     simp at h
     have hr:=(find_live hf).2
     have hb:=List.mem_singleton.1 hb
     have hs2:=S1.findIt hs
     rw[show(s.h:Int)+1=r by omega] at hs2
     have e3:(D.paint r).find r=(D.find r).map (fun t=>if t.at r then {t with mr:={t.mr with color:=D.parity}} else t):=lF (D:=D) (r:=r) (g:=fun t=>{t with mr:={t.mr with color:=D.parity}}) (fun t=>⟨rfl,rfl⟩) r
     rw[e3,hf] at hs2
     simp[find_at_r hf] at hs2
     rw[←hs2]
     exact h.1.2
 ·exact S
theorem Nam.ts(N:Nam hold D)(h:D'.ts=D.ts):Nam hold D':=by
 have hl:D'.live=D.live:=by unfold Wd.live;rw[h]
 exact⟨by rw[hl,h];exact N.cnt,by rw[hl];exact N.good,by rw[hl];exact N.zer⟩
theorem Nam.touch(N:Nam hold D)(S:San D)(r:Int):Nam hold (D.touch r):=by
 rcases touch_ts (D:=D) r with h|h
 ·exact N.ts h
 ·exact(N.mark S r (f:=fun m=>{m with color:=D.parity}) (fun _=>rfl) (fun _=>rfl)).ts h
theorem San.more(S:San D)(r:Int):San (D.more r):=(S.up r).touch r
theorem San.sus(S:San D):San D.sus:=S.same_but rfl rfl rfl rfl (fun b hb=>.inl hb)
theorem San.less(S:San D)(r:Int):San (D.less r):=(S.down r).sus.inter r
theorem aR(S:San D){f:Mrk→Mrk}(hs:s∈(D.mark x f).live):∃v,v∈D.live∧s.h=v.h∧s.pt=v.pt∧((v.h:Int)+1=x∧s.mr=f v.mr∨(v.h:Int)+1≠x∧s.mr=v.mr):=by
 cases hf:D.find x with
 |none=>
  rw[mark_none f hf] at hs
  exact⟨s,hs,rfl,rfl,.inr ⟨fun h=>(by have:=S.findIt hs;rw[h,hf] at this;cases this),rfl⟩⟩
 |some t=>
  obtain⟨k1,k2⟩:=find_live hf
  rcases aH (g:=fun t=>{t with mr:=f t.mr}) S.nd hf hs with rfl|⟨h,hne⟩
  ·exact⟨t,k1,rfl,rfl,.inl ⟨k2,rfl⟩⟩
  ·exact⟨s,h,rfl,rfl,.inr ⟨by omega,rfl⟩⟩
theorem Nam.upH(N:Nam hold D)(S:San D)(hf:D.find x=some u)(hd:u.mr.dead=false)(hh:∀h:Nat,hold' h=hold h+if(h:Int)+1=x then 1 else 0):Nam hold' (D.up x):=by
 have hsum:∀y,sumL (nmT y) (D.up x).ts=sumL (nmT y) D.ts:=fun y=>sumL_mark x (fun t=>rfl)
 refine⟨fun s hs=> ?_,fun s hs i hi=> ?_,fun s hs hds=> ?_⟩
 ·obtain⟨v,hv,e1,e2,h⟩:=aR S hs
  rw[hsum,e1,hh]
  have:=N.cnt v hv
  rcases h with⟨h,e⟩|⟨h,e⟩
  ·rw[e,if_pos h]
   show v.mr.refs+1=_
   omega
  ·rw[e,if_neg h]
   omega
 ·obtain⟨v,hv,e1,e2,_⟩:=aR S hs
  rw[e2] at hi ⊢
  rcases N.good v hv i hi with h|⟨z,hz,h⟩
  ·exact .inl h
  ·obtain⟨z',k1,k2⟩:=live_of_heads (aP x _) hz
   exact .inr ⟨z',k1,by rw[k2];exact h⟩
 ·obtain⟨v,hv,e1,e2,h⟩:=aR S hs
  rcases h with⟨h,e⟩|⟨h,e⟩
  ·exfalso
   have:v=u:=S.same hv (find_live hf).1 (by have:=(find_live hf).2;omega)
   rw[e] at hds
   have hds:v.mr.dead=true:=hds
   rw[this,hd] at hds
   cases hds
  ·rw[e] at hds ⊢
   exact N.zer v hv hds
theorem Nam.Gj(N:Nam hold D)(S:San D)(hh:∀h:Nat,hold h=hold' h+if(h:Int)+1=x then 1 else 0):Nam hold' (D.down x):=by
 have hsum:∀y,sumL (nmT y) (D.down x).ts=sumL (nmT y) D.ts:=fun y=>sumL_mark x (fun t=>rfl)
 refine⟨fun s hs=> ?_,fun s hs i hi=> ?_,fun s hs hds=> ?_⟩
 ·obtain⟨v,hv,e1,e2,h⟩:=aR S hs
  have:=N.cnt v hv
  rw[hh] at this
  rw[hsum,e1]
  rcases h with⟨h,e⟩|⟨h,e⟩
  ·rw[if_pos h] at this
   rw[e]
   show v.mr.refs-1=_
   omega
  ·rw[if_neg h] at this
   rw[e]
   omega
 ·obtain⟨v,hv,e1,e2,_⟩:=aR S hs
  rw[e2] at hi ⊢
  rcases N.good v hv i hi with h|⟨z,hz,h⟩
  ·exact .inl h
  ·obtain⟨z',k1,k2⟩:=live_of_heads (aP x _) hz
   exact .inr ⟨z',k1,by rw[k2];exact h⟩
 ·obtain⟨v,hv,e1,e2,h⟩:=aR S hs
  rcases h with⟨h,e⟩|⟨h,e⟩
  ·exfalso
   rw[e] at hds
   have h0:=N.zer v hv hds
   have:=N.cnt v hv
   rw[hh,if_pos h] at this
   omega
  ·rw[e] at hds ⊢
   exact N.zer v hv hds
theorem Iz(hf:D.find r=some t){i:Nat}(hi:i<t.pt.length)(x:Int)(y:Int):sumL (nmT y) (D.setP r i x).ts+(if nth t.pt i=y then 1 else 0)=sumL (nmT y) D.ts+(if x=y then 1 else 0):=by
 have h1:=qd (φ:=nmT y) hf i x
 have h2:=nK y x t.pt i hi
 have h3:nmT y {t with pt:=t.pt.set i x}=cntL y (t.pt.set i x):=rfl
 have h4:nmT y t=cntL y t.pt:=rfl
 omega
theorem Nam.setH(N:Nam hold D)(S:San D)(hf:D.find r=some t){i:Nat}(hi:i<t.pt.length)(hx:x=0∨∃u,D.find x=some u)(hh:∀h:Nat,(hold' h+if(h:Int)+1=x then 1 else 0)=hold h+if(h:Int)+1=nth t.pt i then 1 else 0):Nam hold' (D.setP r i x):=by
 have htl:=(find_live hf).1
 have hheads:(D.setP r i x).live.map Th.h=D.live.map Th.h:=bL (g:=fun t=>{t with pt:=t.pt.set i x}) hf (find_at hf).2.1 rfl
 have hmem:∀s,s∈(D.setP r i x).live→s={t with pt:=t.pt.set i x}∨(s∈D.live∧s.h≠t.h):=fun s hs=>aH (g:=fun t=>{t with pt:=t.pt.set i x}) S.nd hf hs
 have hb:∀s,s∈(D.setP r i x).live→∃v,v∈D.live∧s.h=v.h∧s.mr=v.mr:=fun s hs=>by
  rcases hmem s hs with rfl|⟨h,_⟩
  ·exact⟨t,htl,rfl,rfl⟩
  ·exact⟨s,h,rfl,rfl⟩
 have hk:∀v,v∈D.live→∃u,u∈(D.setP r i x).live∧u.h=v.h:=fun v hv=>live_of_heads hheads hv
 refine⟨fun s hs=> ?_,fun s hs j hj=> ?_,fun s hs hds=> ?_⟩
 ·obtain⟨v,hv,e1,e2⟩:=hb s hs
  have hc:=N.cnt v hv
  have h1:=Iz hf hi x ((v.h:Int)+1)
  have h2:=hh v.h
  rw[e1,e2,hc]
  have a1:(if x=(v.h:Int)+1 then 1 else 0)=(if(v.h:Int)+1=x then 1 else 0):=by
   by_cases e:x=(v.h:Int)+1
   ·rw[if_pos e,if_pos e.symm]
   ·rw[if_neg e,if_neg (Ne.symm e)]
  have a2:(if nth t.pt i=(v.h:Int)+1 then 1 else 0)=(if(v.h:Int)+1=nth t.pt i then 1 else 0):=by
   by_cases e:nth t.pt i=(v.h:Int)+1
   ·rw[if_pos e,if_pos e.symm]
   ·rw[if_neg e,if_neg (Ne.symm e)]
  rw[a1,a2] at h1
  omega
 ·rcases hmem s hs with rfl|⟨h,_⟩
  ·show nth (t.pt.set i x) j=0∨∃v:Th,v∈(D.setP r i x).live∧(v.h:Int)+1=nth (t.pt.set i x) j
   by_cases e:i=j
   ·subst e
    rw[av hi]
    rcases hx with h|⟨u,hu⟩
    ·exact .inl h
    ·obtain⟨k1,k2⟩:=find_live hu
     obtain⟨u',a1,a2⟩:=hk u k1
     exact .inr ⟨u',a1,by rw[a2];exact k2⟩
   ·rw[aa e]
    rcases N.good t htl j (by simpa using hj) with h|⟨v,hv,h⟩
    ·exact .inl h
    ·obtain⟨v',a1,a2⟩:=hk v hv
     exact .inr ⟨v',a1,by rw[a2];exact h⟩
  ·rcases N.good s h j hj with h|⟨v,hv,h⟩
   ·exact .inl h
   ·obtain⟨v',a1,a2⟩:=hk v hv
    exact .inr ⟨v',a1,by rw[a2];exact h⟩
 ·obtain⟨v,hv,e1,e2⟩:=hb s hs
  rw[e2] at hds ⊢
  exact N.zer v hv hds
def bF(x:Int)(D:Wd):Prop:=∀t,t∈D.live→t.mr.dead=false→(t.h:Int)+1≠x→0<t.mr.refs
theorem bF.mark(P:bF x D)(S:San D)(r:Int){f:Mrk→Mrk}(h1:∀m,(f m).dead=m.dead)(h2:∀m,0<m.refs→0<(f m).refs):bF x (D.mark r f):=fun s hs hd hx=>by
 obtain⟨v,hv,e1,e2,h⟩:=aR S hs
 rcases h with⟨h,e⟩|⟨h,e⟩
 ·rw[e,h1] at hd
  rw[e]
  exact h2 _ (P v hv hd (by rw[←e1];exact hx))
 ·rw[e] at hd ⊢
  exact P v hv hd (by rw[←e1];exact hx)
theorem bF.ts(P:bF x D)(h:D'.ts=D.ts):bF x D':=by
 have hl:D'.live=D.live:=by unfold Wd.live;rw[h]
 unfold bF
 rw[hl]
 exact P
theorem bF.touch(P:bF x D)(S:San D)(r:Int):bF x (D.touch r):=by
 rcases touch_ts (D:=D) r with h|h
 ·exact P.ts h
 ·exact(P.mark S r (f:=fun m=>{m with color:=D.parity}) (fun _=>rfl) (fun _ h=>h)).ts h
theorem bF.OC(P:bF x D)(N:Nam hold D)(S:San D):bF 0 (D.up x):=fun s hs hd _=>by
 obtain⟨v,hv,e1,e2,h⟩:=aR S hs
 rcases h with⟨h,e⟩|⟨h,e⟩
 ·rw[e]
  show 0<v.mr.refs+1
  have:=N.cnt v hv
  omega
 ·rw[e] at hd ⊢
  exact P v hv hd h
theorem bF.up(P:bF 0 D)(N:Nam hold D)(S:San D)(r:Int):bF 0 (D.up r):=fun s hs hd hx=>by
 obtain⟨v,hv,e1,e2,h⟩:=aR S hs
 rcases h with⟨h,e⟩|⟨h,e⟩
 ·rw[e]
  show 0<v.mr.refs+1
  have:=N.cnt v hv
  omega
 ·rw[e] at hd ⊢
  exact P v hv hd (by omega)
theorem bF.down(P:bF 0 D)(S:San D)(r:Int):bF r (D.down r):=fun s hs hd hx=>by
 obtain⟨v,hv,e1,e2,h⟩:=aR S hs
 rcases h with⟨h,e⟩|⟨h,e⟩
 ·exact absurd (by rw[e1];exact h) hx
 ·rw[e] at hd ⊢
  exact P v hv hd (by omega)
theorem bF.bury(P:bF x D)(S:San D):bF 0 (D.bury x):=by
 unfold Wd.bury
 cases hf:D.find x with
 |none=>exact fun s hs hd _=>P s hs hd (fun h=>by have:=S.findIt hs;rw[h,hf] at this;cases this)
 |some t=>
  simp only
  cases htd:t.mr.dead with
  |true=>
   rw[if_pos rfl]
   refine fun s hs hd _=>P s hs hd (fun h=> ?_)
   have:=S.findIt hs
   rw[h,hf] at this
   cases this
   rw[htd] at hd
   cases hd
  |false=>
   rw[if_neg (by decide)]
   intro s hs hd _
   unfold Wd.live at hs
   rw[lay_ts] at hs
   rcases aH (g:=fun s=>{s with mr:={s.mr with dead:=true,left:=(t.pt.length:Int),leaves:=(t.lv.length:Int)}}) S.nd hf hs with rfl|⟨h,hne⟩
   ·cases hd
   ·exact P s h hd (by have:=(find_live hf).2;omega)
theorem bF.inter(P:bF x D)(N:Nam hold D)(S:San D):bF 0 (D.inter x):=by
 unfold Wd.inter
 split
 ·exact P.bury S
 ·rename_i h
  intro s hs hd _
  by_cases e:(s.h:Int)+1=x
  ·have:=N.cnt s hs
   have h2:=S.findIt hs
   rw[e] at h2
   unfold Wd.cnt at h
   rw[h2] at h
   simp only at h
   omega
  ·exact P s hs hd e
theorem bF.less(P:bF 0 D)(S:San D)(N:Nam hold' (D.down r)):bF 0 (D.less r):=((P.down S r).ts (D':=(D.down r).sus) rfl).inter (N.ts (D':=(D.down r).sus) rfl) (S.down r).sus
theorem Nam.less(N:Nam hold D)(S:San D)(hh:∀h:Nat,hold h=hold' h+if(h:Int)+1=r then 1 else 0):Nam hold' (D.less r):=((N.Gj S hh).ts (D':=(D.down r).sus) rfl).inter (S.down r).sus r
end
section
variable {c:Cf} {zs zs1 zs2 zs3 zs4 zs5 zs6 zs7:List Int} {d1 d2 d3 d4 d5 d6 d7:Nat}
set_option maxHeartbeats 1000000 in
theorem zF{r:Int}(C1:Run c 15 [.int .i64 r] zs d1 zs1 (.bool false)):Run c 58 [.int .i64 r] zs (d1) zs1 (.bool false):=fun p m w hG=>by
 have HG:=hid hG
 have HC1:=hid C1
 clear hG C1
 go_enter Tryz.func58,Tryz.ntmps58
 have HT0:Hid (Touch (inG p) w w):=hid (Touch.refl _ _)
 go_wp2_with fail
 refine(HC1.out p _ _ HG.out).mono ?_
 rintro e wm1 ⟨rfl,hG,hT⟩
 have HG1:=hid hG
 have HT1:Hid (Touch (inG p) _ wm1):=hid (HT0.out.trans hT)
 clear hG hT
 go_wp2_with fail
 go_ret
 exact⟨rfl,HG1.out,HT1.out⟩
set_option maxHeartbeats 1000000 in
theorem Hf{r:Int}{b:Bool}(C1:Run c 15 [.int .i64 r] zs d1 zs1 (.bool true))(C2:Run c 16 [.int .i64 r] zs1 d2 zs2 (.bool b)):Run c 58 [.int .i64 r] zs (d1+d2) zs2 (.bool (!b)):=fun p m w hG=>by
 have HG:=hid hG
 have HC1:=hid C1
 have HC2:=hid C2
 clear hG C1 C2
 go_enter Tryz.func58,Tryz.ntmps58
 have HT0:Hid (Touch (inG p) w w):=hid (Touch.refl _ _)
 go_wp2_with fail
 refine(HC1.out p _ _ HG.out).mono ?_
 rintro e wm1 ⟨rfl,hG,hT⟩
 have HG1:=hid hG
 have HT1:Hid (Touch (inG p) _ wm1):=hid (HT0.out.trans hT)
 clear hG hT
 go_wp2_with fail
 refine(HC2.out p _ _ HG1.out).mono ?_
 rintro e wm2 ⟨rfl,hG,hT⟩
 have HG2:=hid hG
 have HT2:Hid (Touch (inG p) _ wm2):=hid (HT1.out.trans hT)
 clear hG hT
 go_wp2_with fail
 go_ret
 exact⟨rfl,HG2.out.fG rfl (by dsimp only;omega),HT2.out⟩
set_option maxHeartbeats 1000000 in
theorem JW{r n:Int}{b:Bool}(C1:Run c 57 [.int .i64 r] zs d1 zs1 (.tuple #[.int .i64 n,.bool true]))(C2:Run c 88 [.int .i64 r] zs1 d2 zs2 (.bool b)):Run c 59 [.int .i64 r] zs (d1+d2) zs2 (.bool true):=fun p m w hG=>by
 have HG:=hid hG
 have HC1:=hid C1
 have HC2:=hid C2
 clear hG C1 C2
 go_enter Tryz.func59,Tryz.ntmps59
 have HT0:Hid (Touch (inG p) w w):=hid (Touch.refl _ _)
 go_wp2_with fail
 refine(HC1.out p _ _ HG.out).mono ?_
 rintro e wm1 ⟨rfl,hG,hT⟩
 have HG1:=hid hG
 have HT1:Hid (Touch (inG p) _ wm1):=hid (HT0.out.trans hT)
 clear hG hT
 go_wp2_with fail
 refine(HC2.out p _ _ HG1.out).mono ?_
 rintro e wm2 ⟨rfl,hG,hT⟩
 have HG2:=hid hG
 have HT2:Hid (Touch (inG p) _ wm2):=hid (HT1.out.trans hT)
 clear hG hT
 go_wp2_with fail
 go_ret
 exact⟨rfl,HG2.out.fG rfl (by dsimp only;omega),HT2.out⟩
set_option maxHeartbeats 1000000 in
theorem JV{r n:Int}(hn:n≠0)(C1:Run c 147 [.int .i64 r] zs d1 zs1 (.tuple #[.int .i64 n,.bool true])):Run c 89 [.int .i64 r] zs (d1+1) (zs1.set 16 1) (.bool true):=fun p m w hG=>by
 have hnb:(n==0)=false:=neq_b hn
 clear hn
 have HG:=hid hG
 have HC1:=hid C1
 clear hG C1
 go_enter Tryz.func89,Tryz.ntmps89
 have HT0:Hid (Touch (inG p) w w):=hid (Touch.refl _ _)
 go_wp2_with fail
 refine(HC1.out p _ _ HG.out).mono ?_
 rintro e wm1 ⟨rfl,hG,hT⟩
 have HG1:=hid hG
 have HT1:Hid (Touch (inG p) _ wm1):=hid (HT0.out.trans hT)
 clear hG hT
 go_wp2_with fail
 refine(aB p c _ 16 _ 1 _ HG1.out (by omega) rfl (by omega) (by omega)).mono ?_
 rintro e wm2 ⟨rfl,hG,hT⟩
 have HG2:=hid hG
 have HT2:Hid (Touch (inG p) _ wm2):=hid (HT1.out.trans hT)
 clear hG hT
 go_wp2_with fail
 go_ret
 exact⟨rfl,HG2.out.fG rfl (by dsimp only[St.got,St.set];omega),HT2.out⟩
set_option maxHeartbeats 1000000 in
theorem Hl{r:Int}{b:Bool}(C1:Run c 147 [.int .i64 r] zs d1 zs1 (.tuple #[.int .i64 0,.bool true]))(C2:Run c 20 [.int .i64 r] (zs1.set 16 1) d2 zs2 (.bool b)):Run c 89 [.int .i64 r] zs (d1+1+d2) zs2 (.bool true):=fun p m w hG=>by
 have HG:=hid hG
 have HC1:=hid C1
 have HC2:=hid C2
 clear hG C1 C2
 go_enter Tryz.func89,Tryz.ntmps89
 have HT0:Hid (Touch (inG p) w w):=hid (Touch.refl _ _)
 go_wp2_with fail
 refine(HC1.out p _ _ HG.out).mono ?_
 rintro e wm1 ⟨rfl,hG,hT⟩
 have HG1:=hid hG
 have HT1:Hid (Touch (inG p) _ wm1):=hid (HT0.out.trans hT)
 clear hG hT
 go_wp2_with fail
 refine(aB p c _ 16 _ 1 _ HG1.out (by omega) rfl (by omega) (by omega)).mono ?_
 rintro e wm2 ⟨rfl,hG,hT⟩
 have HG2:=hid hG
 have HT2:Hid (Touch (inG p) _ wm2):=hid (HT1.out.trans hT)
 clear hG hT
 go_wp2_with fail
 refine(HC2.out p _ _ HG2.out).mono ?_
 rintro e wm3 ⟨rfl,hG,hT⟩
 have HG3:=hid hG
 have HT3:Hid (Touch (inG p) _ wm3):=hid (HT2.out.trans hT)
 clear hG hT
 go_wp2_with fail
 go_ret
 exact⟨rfl,HG3.out.fG rfl (by dsimp only[St.got,St.set];omega),HT3.out⟩
set_option maxHeartbeats 1000000 in
theorem BQ{r:Int}(C1:Run c 58 [.int .i64 r] zs d1 zs1 (.bool false)):Run c 19 [.int .i64 r] zs (d1) zs1 (.bool false):=fun p m w hG=>by
 have HG:=hid hG
 have HC1:=hid C1
 clear hG C1
 go_enter Tryz.func19,Tryz.ntmps19
 have HT0:Hid (Touch (inG p) w w):=hid (Touch.refl _ _)
 go_wp2_with fail
 refine(HC1.out p _ _ HG.out).mono ?_
 rintro e wm1 ⟨rfl,hG,hT⟩
 have HG1:=hid hG
 have HT1:Hid (Touch (inG p) _ wm1):=hid (HT0.out.trans hT)
 clear hG hT
 go_wp2_with fail
 go_ret
 exact⟨rfl,HG1.out,HT1.out⟩
set_option maxHeartbeats 1000000 in
theorem JU{r:Int}{b:Bool}(C1:Run c 58 [.int .i64 r] zs d1 zs1 (.bool true))(C2:Run c 59 [.int .i64 r] zs1 d2 zs2 (.bool b)):Run c 19 [.int .i64 r] zs (d1+d2) zs2 (.bool b):=fun p m w hG=>by
 have HG:=hid hG
 have HC1:=hid C1
 have HC2:=hid C2
 clear hG C1 C2
 go_enter Tryz.func19,Tryz.ntmps19
 have HT0:Hid (Touch (inG p) w w):=hid (Touch.refl _ _)
 go_wp2_with fail
 refine(HC1.out p _ _ HG.out).mono ?_
 rintro e wm1 ⟨rfl,hG,hT⟩
 have HG1:=hid hG
 have HT1:Hid (Touch (inG p) _ wm1):=hid (HT0.out.trans hT)
 clear hG hT
 go_wp2_with fail
 refine(HC2.out p _ _ HG1.out).mono ?_
 rintro e wm2 ⟨rfl,hG,hT⟩
 have HG2:=hid hG
 have HT2:Hid (Touch (inG p) _ wm2):=hid (HT1.out.trans hT)
 clear hG hT
 go_wp2_with fail
 go_ret
 exact⟨rfl,HG2.out.fG rfl (by dsimp only;omega),HT2.out⟩
set_option maxHeartbeats 1000000 in
theorem lw_Let{r:Int}{b:Bool}(C1:Run c 58 [.int .i64 r] zs d1 zs1 (.bool true))(C2:Run c 89 [.int .i64 r] zs1 d2 zs2 (.bool b)):Run c 33 [.int .i64 r] zs (d1+d2) zs2 (.bool b):=fun p m w hG=>by
 have HG:=hid hG
 have HC1:=hid C1
 have HC2:=hid C2
 clear hG C1 C2
 go_enter Tryz.func33,Tryz.ntmps33
 have HT0:Hid (Touch (inG p) w w):=hid (Touch.refl _ _)
 go_wp2_with fail
 refine(HC1.out p _ _ HG.out).mono ?_
 rintro e wm1 ⟨rfl,hG,hT⟩
 have HG1:=hid hG
 have HT1:Hid (Touch (inG p) _ wm1):=hid (HT0.out.trans hT)
 clear hG hT
 go_wp2_with fail
 refine(HC2.out p _ _ HG1.out).mono ?_
 rintro e wm2 ⟨rfl,hG,hT⟩
 have HG2:=hid hG
 have HT2:Hid (Touch (inG p) _ wm2):=hid (HT1.out.trans hT)
 clear hG hT
 go_wp2_with fail
 go_ret
 exact⟨rfl,HG2.out.fG rfl (by dsimp only;omega),HT2.out⟩
set_option maxHeartbeats 1000000 in
theorem zB{r i x:Int}(C1:Run c 58 [.int .i64 r] zs d1 zs1 (.bool false)):Run c 32 [.int .i64 r,.int .i64 i,.int .i64 x] zs (d1) zs1 (.int .i64 8):=fun p m w hG=>by
 have HG:=hid hG
 have HC1:=hid C1
 clear hG C1
 go_enter Tryz.func32,Tryz.ntmps32
 have HT0:Hid (Touch (inG p) w w):=hid (Touch.refl _ _)
 go_wp2_with fail
 refine(HC1.out p _ _ HG.out).mono ?_
 rintro e wm1 ⟨rfl,hG,hT⟩
 have HG1:=hid hG
 have HT1:Hid (Touch (inG p) _ wm1):=hid (HT0.out.trans hT)
 clear hG hT
 go_wp2_with fail
 go_ret
 exact⟨rfl,HG1.out,HT1.out⟩
set_option maxHeartbeats 1000000 in
theorem xJ{r i x y e:Int}(he:e≠0)(C1:Run c 58 [.int .i64 r] zs d1 zs1 (.bool true))(C2:Run c 55 [.int .i64 r,.int .i64 i] zs1 d2 zs2 (.tuple #[.int .i64 y,.int .i64 e])):Run c 32 [.int .i64 r,.int .i64 i,.int .i64 x] zs (d1+d2) zs2 (.int .i64 e):=fun p m w hG=>by
 have heb:(e !=0)=true:=by rw[bne_iff_ne];exact he
 clear he
 have HG:=hid hG
 have HC1:=hid C1
 have HC2:=hid C2
 clear hG C1 C2
 go_enter Tryz.func32,Tryz.ntmps32
 have HT0:Hid (Touch (inG p) w w):=hid (Touch.refl _ _)
 go_wp2_with fail
 refine(HC1.out p _ _ HG.out).mono ?_
 rintro e wm1 ⟨rfl,hG,hT⟩
 have HG1:=hid hG
 have HT1:Hid (Touch (inG p) _ wm1):=hid (HT0.out.trans hT)
 clear hG hT
 go_wp2_with fail
 refine(HC2.out p _ _ HG1.out).mono ?_
 rintro e wm2 ⟨rfl,hG,hT⟩
 have HG2:=hid hG
 have HT2:Hid (Touch (inG p) _ wm2):=hid (HT1.out.trans hT)
 clear hG hT
 go_wp2_with fail
 go_ret
 exact⟨rfl,HG2.out.fG rfl (by dsimp only;omega),HT2.out⟩
set_option maxHeartbeats 1000000 in
theorem BV{r i x y:Int}(hx:x≠0)(C1:Run c 58 [.int .i64 r] zs d1 zs1 (.bool true))(C2:Run c 55 [.int .i64 r,.int .i64 i] zs1 d2 zs2 (.tuple #[.int .i64 y,.int .i64 0]))(C3:Run c 19 [.int .i64 x] zs2 d3 zs3 (.bool false)):Run c 32 [.int .i64 r,.int .i64 i,.int .i64 x] zs (d1+d2+d3) zs3 (.int .i64 2):=fun p m w hG=>by
 have hxb:(x !=0)=true:=by rw[bne_iff_ne];exact hx
 clear hx
 have HG:=hid hG
 have HC1:=hid C1
 have HC2:=hid C2
 have HC3:=hid C3
 clear hG C1 C2 C3
 go_enter Tryz.func32,Tryz.ntmps32
 have HT0:Hid (Touch (inG p) w w):=hid (Touch.refl _ _)
 go_wp2_with fail
 refine(HC1.out p _ _ HG.out).mono ?_
 rintro e wm1 ⟨rfl,hG,hT⟩
 have HG1:=hid hG
 have HT1:Hid (Touch (inG p) _ wm1):=hid (HT0.out.trans hT)
 clear hG hT
 go_wp2_with fail
 refine(HC2.out p _ _ HG1.out).mono ?_
 rintro e wm2 ⟨rfl,hG,hT⟩
 have HG2:=hid hG
 have HT2:Hid (Touch (inG p) _ wm2):=hid (HT1.out.trans hT)
 clear hG hT
 go_wp2_with fail
 refine(HC3.out p _ _ HG2.out).mono ?_
 rintro e wm3 ⟨rfl,hG,hT⟩
 have HG3:=hid hG
 have HT3:Hid (Touch (inG p) _ wm3):=hid (HT2.out.trans hT)
 clear hG hT
 go_wp2_with fail
 go_ret
 exact⟨rfl,HG3.out.fG rfl (by dsimp only;omega),HT3.out⟩
set_option maxHeartbeats 1000000 in
theorem zD{r i y k:Int}(hk:¬0<k)(C1:Run c 58 [.int .i64 r] zs d1 zs1 (.bool true))(C2:Run c 55 [.int .i64 r,.int .i64 i] zs1 d2 zs2 (.tuple #[.int .i64 y,.int .i64 0]))(C3:Run c 56 [.int .i64 r,.int .i64 i,.int .i64 0] zs2 d3 zs3 (.int .i64 0))(C4:Run c 60 [.int .i64 y] zs3 d4 zs4 (.int .i64 k)):Run c 32 [.int .i64 r,.int .i64 i,.int .i64 0] zs (d1+d2+d3+d4) zs4 (.int .i64 0):=fun p m w hG=>by
 have hkz:¬0<k:=hk
 clear hk
 have HG:=hid hG
 have HC1:=hid C1
 have HC2:=hid C2
 have HC3:=hid C3
 have HC4:=hid C4
 clear hG C1 C2 C3 C4
 go_enter Tryz.func32,Tryz.ntmps32
 have HT0:Hid (Touch (inG p) w w):=hid (Touch.refl _ _)
 go_wp2_with fail
 refine(HC1.out p _ _ HG.out).mono ?_
 rintro e wm1 ⟨rfl,hG,hT⟩
 have HG1:=hid hG
 have HT1:Hid (Touch (inG p) _ wm1):=hid (HT0.out.trans hT)
 clear hG hT
 go_wp2_with fail
 refine(HC2.out p _ _ HG1.out).mono ?_
 rintro e wm2 ⟨rfl,hG,hT⟩
 have HG2:=hid hG
 have HT2:Hid (Touch (inG p) _ wm2):=hid (HT1.out.trans hT)
 clear hG hT
 go_wp2_with fail
 refine(HC3.out p _ _ HG2.out).mono ?_
 rintro e wm3 ⟨rfl,hG,hT⟩
 have HG3:=hid hG
 have HT3:Hid (Touch (inG p) _ wm3):=hid (HT2.out.trans hT)
 clear hG hT
 go_wp2_with fail
 refine(HC4.out p _ _ HG3.out).mono ?_
 rintro e wm4 ⟨rfl,hG,hT⟩
 have HG4:=hid hG
 have HT4:Hid (Touch (inG p) _ wm4):=hid (HT3.out.trans hT)
 clear hG hT
 go_wp2_with fail
 go_ret
 exact⟨rfl,HG4.out.fG rfl (by dsimp only;omega),HT4.out⟩
set_option maxHeartbeats 1000000 in
theorem xK{r i y k:Int}{b b2:Bool}(hk:0<k)(C1:Run c 58 [.int .i64 r] zs d1 zs1 (.bool true))(C2:Run c 55 [.int .i64 r,.int .i64 i] zs1 d2 zs2 (.tuple #[.int .i64 y,.int .i64 0]))(C3:Run c 56 [.int .i64 r,.int .i64 i,.int .i64 0] zs2 d3 zs3 (.int .i64 0))(C4:Run c 60 [.int .i64 y] zs3 d4 zs4 (.int .i64 k))(C5:Run c 88 [.int .i64 y] zs4 d5 zs5 (.bool b))(C6:Run c 89 [.int .i64 y] zs5 d6 zs6 (.bool b2)):Run c 32 [.int .i64 r,.int .i64 i,.int .i64 0] zs (d1+d2+d3+d4+d5+d6) zs6 (.int .i64 0):=fun p m w hG=>by
 have hkp:0<k:=hk
 clear hk
 have HG:=hid hG
 have HC1:=hid C1
 have HC2:=hid C2
 have HC3:=hid C3
 have HC4:=hid C4
 have HC5:=hid C5
 have HC6:=hid C6
 clear hG C1 C2 C3 C4 C5 C6
 go_enter Tryz.func32,Tryz.ntmps32
 have HT0:Hid (Touch (inG p) w w):=hid (Touch.refl _ _)
 go_wp2_with fail
 refine(HC1.out p _ _ HG.out).mono ?_
 rintro e wm1 ⟨rfl,hG,hT⟩
 have HG1:=hid hG
 have HT1:Hid (Touch (inG p) _ wm1):=hid (HT0.out.trans hT)
 clear hG hT
 go_wp2_with fail
 refine(HC2.out p _ _ HG1.out).mono ?_
 rintro e wm2 ⟨rfl,hG,hT⟩
 have HG2:=hid hG
 have HT2:Hid (Touch (inG p) _ wm2):=hid (HT1.out.trans hT)
 clear hG hT
 go_wp2_with fail
 refine(HC3.out p _ _ HG2.out).mono ?_
 rintro e wm3 ⟨rfl,hG,hT⟩
 have HG3:=hid hG
 have HT3:Hid (Touch (inG p) _ wm3):=hid (HT2.out.trans hT)
 clear hG hT
 go_wp2_with fail
 refine(HC4.out p _ _ HG3.out).mono ?_
 rintro e wm4 ⟨rfl,hG,hT⟩
 have HG4:=hid hG
 have HT4:Hid (Touch (inG p) _ wm4):=hid (HT3.out.trans hT)
 clear hG hT
 go_wp2_with fail
 refine(HC5.out p _ _ HG4.out).mono ?_
 rintro e wm5 ⟨rfl,hG,hT⟩
 have HG5:=hid hG
 have HT5:Hid (Touch (inG p) _ wm5):=hid (HT4.out.trans hT)
 clear hG hT
 go_wp2_with fail
 refine(HC6.out p _ _ HG5.out).mono ?_
 rintro e wm6 ⟨rfl,hG,hT⟩
 have HG6:=hid hG
 have HT6:Hid (Touch (inG p) _ wm6):=hid (HT5.out.trans hT)
 clear hG hT
 go_wp2_with fail
 go_ret
 exact⟨rfl,HG6.out.fG rfl (by dsimp only;omega),HT6.out⟩
set_option maxHeartbeats 1000000 in
theorem BX{r i x y k:Int}(hx:x≠0)(hk:¬0<k)(C1:Run c 58 [.int .i64 r] zs d1 zs1 (.bool true))(C2:Run c 55 [.int .i64 r,.int .i64 i] zs1 d2 zs2 (.tuple #[.int .i64 y,.int .i64 0]))(C3:Run c 19 [.int .i64 x] zs2 d3 zs3 (.bool true))(C4:Run c 56 [.int .i64 r,.int .i64 i,.int .i64 x] zs3 d4 zs4 (.int .i64 0))(C5:Run c 60 [.int .i64 y] zs4 d5 zs5 (.int .i64 k)):Run c 32 [.int .i64 r,.int .i64 i,.int .i64 x] zs (d1+d2+d3+d4+d5) zs5 (.int .i64 0):=fun p m w hG=>by
 have hxb:(x !=0)=true:=by rw[bne_iff_ne];exact hx
 clear hx
 have hkz:¬0<k:=hk
 clear hk
 have HG:=hid hG
 have HC1:=hid C1
 have HC2:=hid C2
 have HC3:=hid C3
 have HC4:=hid C4
 have HC5:=hid C5
 clear hG C1 C2 C3 C4 C5
 go_enter Tryz.func32,Tryz.ntmps32
 have HT0:Hid (Touch (inG p) w w):=hid (Touch.refl _ _)
 go_wp2_with fail
 refine(HC1.out p _ _ HG.out).mono ?_
 rintro e wm1 ⟨rfl,hG,hT⟩
 have HG1:=hid hG
 have HT1:Hid (Touch (inG p) _ wm1):=hid (HT0.out.trans hT)
 clear hG hT
 go_wp2_with fail
 refine(HC2.out p _ _ HG1.out).mono ?_
 rintro e wm2 ⟨rfl,hG,hT⟩
 have HG2:=hid hG
 have HT2:Hid (Touch (inG p) _ wm2):=hid (HT1.out.trans hT)
 clear hG hT
 go_wp2_with fail
 refine(HC3.out p _ _ HG2.out).mono ?_
 rintro e wm3 ⟨rfl,hG,hT⟩
 have HG3:=hid hG
 have HT3:Hid (Touch (inG p) _ wm3):=hid (HT2.out.trans hT)
 clear hG hT
 go_wp2_with fail
 refine(HC4.out p _ _ HG3.out).mono ?_
 rintro e wm4 ⟨rfl,hG,hT⟩
 have HG4:=hid hG
 have HT4:Hid (Touch (inG p) _ wm4):=hid (HT3.out.trans hT)
 clear hG hT
 go_wp2_with fail
 refine(HC5.out p _ _ HG4.out).mono ?_
 rintro e wm5 ⟨rfl,hG,hT⟩
 have HG5:=hid hG
 have HT5:Hid (Touch (inG p) _ wm5):=hid (HT4.out.trans hT)
 clear hG hT
 go_wp2_with fail
 go_ret
 exact⟨rfl,HG5.out.fG rfl (by dsimp only;omega),HT5.out⟩
set_option maxHeartbeats 1000000 in
theorem zC{r i x y k:Int}{b b2:Bool}(hx:x≠0)(hk:0<k)(C1:Run c 58 [.int .i64 r] zs d1 zs1 (.bool true))(C2:Run c 55 [.int .i64 r,.int .i64 i] zs1 d2 zs2 (.tuple #[.int .i64 y,.int .i64 0]))(C3:Run c 19 [.int .i64 x] zs2 d3 zs3 (.bool true))(C4:Run c 56 [.int .i64 r,.int .i64 i,.int .i64 x] zs3 d4 zs4 (.int .i64 0))(C5:Run c 60 [.int .i64 y] zs4 d5 zs5 (.int .i64 k))(C6:Run c 88 [.int .i64 y] zs5 d6 zs6 (.bool b))(C7:Run c 89 [.int .i64 y] zs6 d7 zs7 (.bool b2)):Run c 32 [.int .i64 r,.int .i64 i,.int .i64 x] zs (d1+d2+d3+d4+d5+d6+d7) zs7 (.int .i64 0):=fun p m w hG=>by
 have hxb:(x !=0)=true:=by rw[bne_iff_ne];exact hx
 clear hx
 have hkp:0<k:=hk
 clear hk
 have HG:=hid hG
 have HC1:=hid C1
 have HC2:=hid C2
 have HC3:=hid C3
 have HC4:=hid C4
 have HC5:=hid C5
 have HC6:=hid C6
 have HC7:=hid C7
 clear hG C1 C2 C3 C4 C5 C6 C7
 go_enter Tryz.func32,Tryz.ntmps32
 have HT0:Hid (Touch (inG p) w w):=hid (Touch.refl _ _)
 go_wp2_with fail
 refine(HC1.out p _ _ HG.out).mono ?_
 rintro e wm1 ⟨rfl,hG,hT⟩
 have HG1:=hid hG
 have HT1:Hid (Touch (inG p) _ wm1):=hid (HT0.out.trans hT)
 clear hG hT
 go_wp2_with fail
 refine(HC2.out p _ _ HG1.out).mono ?_
 rintro e wm2 ⟨rfl,hG,hT⟩
 have HG2:=hid hG
 have HT2:Hid (Touch (inG p) _ wm2):=hid (HT1.out.trans hT)
 clear hG hT
 go_wp2_with fail
 refine(HC3.out p _ _ HG2.out).mono ?_
 rintro e wm3 ⟨rfl,hG,hT⟩
 have HG3:=hid hG
 have HT3:Hid (Touch (inG p) _ wm3):=hid (HT2.out.trans hT)
 clear hG hT
 go_wp2_with fail
 refine(HC4.out p _ _ HG3.out).mono ?_
 rintro e wm4 ⟨rfl,hG,hT⟩
 have HG4:=hid hG
 have HT4:Hid (Touch (inG p) _ wm4):=hid (HT3.out.trans hT)
 clear hG hT
 go_wp2_with fail
 refine(HC5.out p _ _ HG4.out).mono ?_
 rintro e wm5 ⟨rfl,hG,hT⟩
 have HG5:=hid hG
 have HT5:Hid (Touch (inG p) _ wm5):=hid (HT4.out.trans hT)
 clear hG hT
 go_wp2_with fail
 refine(HC6.out p _ _ HG5.out).mono ?_
 rintro e wm6 ⟨rfl,hG,hT⟩
 have HG6:=hid hG
 have HT6:Hid (Touch (inG p) _ wm6):=hid (HT5.out.trans hT)
 clear hG hT
 go_wp2_with fail
 refine(HC7.out p _ _ HG6.out).mono ?_
 rintro e wm7 ⟨rfl,hG,hT⟩
 have HG7:=hid hG
 have HT7:Hid (Touch (inG p) _ wm7):=hid (HT6.out.trans hT)
 clear hG hT
 go_wp2_with fail
 go_ret
 exact⟨rfl,HG7.out.fG rfl (by dsimp only;omega),HT7.out⟩
end
section
variable {c:Cf} {D:Wd} {t u:Th} {r x y:Int} {zs:List Int} {hold:Nat→Nat}
theorem ld_alive(hr:In64 r):Does c D 58 [.int .i64 r] 14 D (.bool (D.aliveB r)):=fun zs hz R=>by
 obtain⟨zs1,⟨d1,hd1,C1⟩,R1,hz1⟩:=(gd_is (c:=c) (D:=D) hr).at hz R
 cases hf:D.find r with
 |none=>
  rw[hf] at C1
  rw[qp hf]
  exact⟨zs1,⟨d1,by omega,zF C1⟩,R1⟩
 |some t=>
  rw[hf] at C1
  obtain⟨zs2,⟨d2,hd2,C2⟩,R2,hz2⟩:=(tintFns.dead c D r hr).at hz1 R1
  rw[show D.aliveB r= !D.dead r by unfold Wd.aliveB;rw[hf];rfl]
  exact⟨zs2,⟨d1+d2,by omega,Hf C1 C2⟩,R2⟩
theorem ld_more(hf:D.find r=some t)(hb:t.mr.refs<4294967295):Does c D 59 [.int .i64 r] 22 (D.more r) (.bool true):=fun zs hz R=>by
 have hr:=find64 hz.may R hf
 obtain⟨zs1,⟨d1,hd1,C1⟩,R1,hz1⟩:=(Ny (c:=c) hf hb).at hz R
 obtain⟨zs2,⟨d2,hd2,C2⟩,R2,hz2⟩:=(tintFns.touch c (D.up r) r hr).at hz1 R1
 exact⟨zs2,⟨d1+d2,by omega,JW C1 C2⟩,R2⟩
theorem LV(R:ai c zs D)(hz:Wz c zs):ai c (zs.set 16 1) D.sus:=by
 refine R.iC hz.may hz.len (k:=16) (by omega) (by omega) rfl rfl rfl rfl rfl rfl rfl rfl (fun j h1 h2 h3=> ?_) R.par
 have:j=10∨j=11∨j=12∨j=13∨j=14∨j=15∨j=17∨j=18:=by omega
 rcases this with rfl|rfl|rfl|rfl|rfl|rfl|rfl|rfl<;>rfl
theorem Gn(hf:D.find r=some t):(D.down r).sus.cnt r=t.mr.refs-1:=by
 have:(D.down r).sus.find r=some {t with mr:={t.mr with refs:=t.mr.refs-1}}:=by
  show(D.down r).find r=_
  unfold Wd.down
  rw[find_mark,hf]
  simp[find_at_r hf]
 unfold Wd.cnt
 rw[this]
theorem Dt(hf:D.find r=some t)(h0:t.mr.refs≠0)(hp0:0≤D.pending)(hp1:D.pending≤4294900000):Does c D 89 [.int .i64 r] 46 (D.less r) (.bool true):=fun zs hz R=>by
 have hr:=find64 hz.may R hf
 obtain⟨zs1,C1,R1⟩:=Dl hz R hf h0
 have hz1:Wz c zs1:=fK.wz hz ⟨3,Nat.le_refl _,C1⟩
 have R2:=LV R1 hz1
 have hz2:Wz c (zs1.set 16 1):=hz1.set _ (by omega) (by omega)
 have hc:=Gn hf
 by_cases h1:t.mr.refs-1=0
 ·obtain⟨zs3,⟨d3,hd3,C3⟩,R3,hz3⟩:=(gd_inter (c:=c) (D:=(D.down r).sus) hr hp0 hp1).at hz2 R2
  rw[h1] at C1
  exact⟨zs3,⟨3+1+d3,by omega,Hl C1 C3⟩,R3⟩
 ·have e:D.less r=(D.down r).sus:=by unfold Wd.less Wd.inter;rw[if_neg (by rw[hc];exact h1)]
  rw[e]
  exact⟨_,⟨3+1,by omega,JV h1 C1⟩,R2⟩
theorem ld_Hold_no(hr:In64 r)(h:D.aliveB r=false):Does c D 19 [.int .i64 r] 14 D (.bool false):=fun zs hz R=>by
 obtain⟨zs1,⟨d1,hd1,C1⟩,R1,hz1⟩:=(ld_alive (c:=c) (D:=D) hr).at hz R
 rw[h] at C1
 exact⟨zs1,⟨d1,hd1,BQ C1⟩,R1⟩
theorem ld_Hold(hf:D.find r=some t)(hd:t.mr.dead=false)(hb:t.mr.refs<4294967295):Does c D 19 [.int .i64 r] 36 (D.more r) (.bool true):=fun zs hz R=>by
 have hr:=find64 hz.may R hf
 obtain⟨zs1,⟨d1,hd1,C1⟩,R1,hz1⟩:=(ld_alive (c:=c) (D:=D) hr).at hz R
 rw[aliveB_some hf,hd] at C1
 obtain⟨zs2,⟨d2,hd2,C2⟩,R2,hz2⟩:=(ld_more (c:=c) hf hb).at hz1 R1
 exact⟨zs2,⟨d1+d2,by omega,JU C1 C2⟩,R2⟩
theorem ld_Let(hf:D.find r=some t)(hd:t.mr.dead=false)(h0:t.mr.refs≠0)(hp0:0≤D.pending)(hp1:D.pending≤4294900000):Does c D 33 [.int .i64 r] 60 (D.less r) (.bool true):=fun zs hz R=>by
 have hr:=find64 hz.may R hf
 obtain⟨zs1,⟨d1,hd1,C1⟩,R1,hz1⟩:=(ld_alive (c:=c) (D:=D) hr).at hz R
 rw[aliveB_some hf,hd] at C1
 obtain⟨zs2,⟨d2,hd2,C2⟩,R2,hz2⟩:=(Dt (c:=c) hf h0 hp0 hp1).at hz1 R1
 exact⟨zs2,⟨d1+d2,by omega,lw_Let C1 C2⟩,R2⟩
theorem Eu(hf:D.find r=some t){i:Int}(hi:¬(0≤i∧i<(t.pt.length:Int))):Does c D 55 [.int .i64 r,.int .i64 i] 12 D (.tuple #[.int .i64 0,.int .i64 7]):=fun zs hz R=>by
 have h:=objFns.ptr c zs D.clean D.obs r i hz R.heap (find64 hz.may R hf)
 have hob:=obAt_find R r
 rw[hf] at hob
 have hob:dm D.obs r=some t.ob:=hob
 have hb:iM i t.ob.np=false:=by
  unfold iM
  rw[decide_eq_false_iff_not]
  exact hi
 rw[show mM c zs D.obs r i=0 by unfold mM;rw[hob];simp[hb],show mK c D.obs r i=7 by unfold mK;rw[hob];simp[hb]] at h
 exact⟨zs,h,R⟩
theorem sG(S:San D)(hf:D.find r=some t)(hd:t.mr.dead=false){i:Nat}(hi:i<t.pt.length)(hx:x=0∨∃u,D.find x=some u):Does c D 56 [.int .i64 r,.int .i64 (i:Int),.int .i64 x] 12 (D.setP r i x) (.int .i64 0):=fun zs hz R=>by
 obtain⟨htl,_⟩:=find_live hf
 have hxb:0≤x∧x≤(c.N:Int):=by
  rcases hx with rfl|⟨u,hu⟩
  ·omega
  ·obtain⟨hul,e⟩:=find_live hu
   have:=R.hlt hul
   omega
 obtain⟨a,ha⟩:=((S.ok t htl).alive hd).field hz.may R.w.symm (S.ok t htl).geo hi
 obtain⟨⟨d,hd,C⟩,R',_⟩:=tT hz R hf hi ha hxb.1 hxb.2
 exact⟨_,⟨d,hd,C⟩,R'⟩
theorem NF(S:San D)(hz:Wz c zs)(R:ai c zs D)(hf:D.find r=some t)(hd:t.mr.dead=false){i:Nat}(hi:i<t.pt.length):In64 (nth t.pt i):=by
 obtain⟨htl,_⟩:=find_live hf
 obtain⟨a,ha⟩:=((S.ok t htl).alive hd).field hz.may R.w.symm (S.ok t htl).geo hi
 have:=(rD hz R (find64 hz.may R hf) hf hi ha).2
 unfold In64
 omega
theorem KV(q:Int)(hf:D.find q=some t)(x:Int):∃m:Mrk,(D.up x).find q=some {t with mr:=m}∧m.dead=t.mr.dead:=by
 unfold Wd.up
 rw[find_mark,hf]
 by_cases e:t.at x=true
 ·exact⟨{t.mr with refs:=t.mr.refs+1},by simp[e],rfl⟩
 ·exact⟨t.mr,by simp[e],rfl⟩
theorem more_find(q:Int)(hf:D.find q=some t)(x:Int):∃m:Mrk,(D.more x).find q=some {t with mr:=m}∧m.dead=t.mr.dead:=by
 obtain⟨m,h1,h2⟩:=KV q hf x
 obtain⟨k,h3⟩:=touch_mark q h1 x
 exact⟨_,h3,h2⟩
theorem EH(x:Int):(D.more x).pending=D.pending∧(D.more x).clean=D.clean∧(D.more x).grave=D.grave:=by
 obtain⟨h1,h2,h3,_⟩:=uq (D:=D.up x) x
 exact⟨h3,h1,h2⟩
theorem ld_Put_dead(hr:In64 r)(h:D.aliveB r=false)(i x:Int):Does c D 32 [.int .i64 r,.int .i64 i,.int .i64 x] 14 D (.int .i64 8):=fun zs hz R=>by
 obtain⟨zs1,⟨d1,hd1,C1⟩,R1,hz1⟩:=(ld_alive (c:=c) (D:=D) hr).at hz R
 rw[h] at C1
 exact⟨zs1,⟨d1,hd1,zB C1⟩,R1⟩
theorem ld_Put_wrong(hf:D.find r=some t)(hd:t.mr.dead=false){i:Int}(hi:¬(0≤i∧i<(t.pt.length:Int)))(x:Int):Does c D 32 [.int .i64 r,.int .i64 i,.int .i64 x] 26 D (.int .i64 7):=fun zs hz R=>by
 obtain⟨zs1,⟨d1,hd1,C1⟩,R1,hz1⟩:=(ld_alive (c:=c) (D:=D) (find64 hz.may R hf)).at hz R
 rw[aliveB_some hf,hd] at C1
 obtain⟨zs2,⟨d2,hd2,C2⟩,R2,hz2⟩:=(Eu (c:=c) hf hi).at hz1 R1
 exact⟨zs2,⟨d1+d2,by omega,xJ (by omega) C1 C2⟩,R2⟩
theorem ld_Put_arg(S:San D)(hf:D.find r=some t)(hd:t.mr.dead=false){i:Nat}(hi:i<t.pt.length)(hx:x≠0)(h64:In64 x)(ha:D.aliveB x=false):Does c D 32 [.int .i64 r,.int .i64 (i:Int),.int .i64 x] 40 D (.int .i64 2):=fun zs hz R=>by
 obtain⟨zs1,⟨d1,hd1,C1⟩,R1,hz1⟩:=(ld_alive (c:=c) (D:=D) (find64 hz.may R hf)).at hz R
 rw[aliveB_some hf,hd] at C1
 obtain⟨zs2,⟨d2,hd2,C2⟩,R2,hz2⟩:=(GL (c:=c) S hf hd i).at hz1 R1
 rw[if_pos hi] at C2
 obtain⟨zs3,⟨d3,hd3,C3⟩,R3,hz3⟩:=(ld_Hold_no (c:=c) (D:=D) h64 ha).at hz2 R2
 exact⟨zs3,⟨d1+d2+d3,by omega,BV hx C1 C2 C3⟩,R3⟩
theorem Du(h64:In64 y)(hp0:0≤D.pending)(hp1:D.pending≤4294900000)(hz:Wz c zs)(R:ai c zs D):
  (¬0<D.cnt y∧D.putY y=D∧∃zs1 d,d≤2∧Run c 60 [.int .i64 y] zs d zs1 (.int .i64 (D.cnt y))∧ai c zs1 D)∨
  (0<D.cnt y∧∃zs1 d zs2 d2 b zs3 d3 b2,d+d2+d3≤62∧Run c 60 [.int .i64 y] zs d zs1 (.int .i64 (D.cnt y))∧Run c 88 [.int .i64 y] zs1 d2 zs2 (.bool b)∧Run c 89 [.int .i64 y] zs2 d3 zs3 (.bool b2)∧ai c zs3 (D.putY y)):=by
 obtain⟨zs1,⟨d1,hd1,C1⟩,R1,hz1⟩:=(gd_cnt (c:=c) (D:=D) h64).at hz R
 by_cases h:0<D.cnt y
 ·right
  cases hf:D.find y with
  |none=>unfold Wd.cnt at h;rw[hf] at h;simp at h
  |some v=>
   obtain⟨zs2,⟨d2,hd2,C2⟩,R2,hz2⟩:=(tintFns.touch c D y h64).at hz1 R1
   obtain⟨k,hk⟩:=touch_mark y hf y
   have hr:v.mr.refs≠0:=by unfold Wd.cnt at h;rw[hf] at h;simp only at h;omega
   have e:=(uq (D:=D) y).2.2.1
   obtain⟨zs3,⟨d3,hd3,C3⟩,R3,hz3⟩:=(Dt (c:=c) hk hr (by rw[e];exact hp0) (by rw[e];exact hp1)).at hz2 R2
   exact⟨h,zs1,d1,zs2,d2,_,zs3,d3,_,by omega,C1,C2,C3,by unfold Wd.putY;rw[if_pos h];exact R3⟩
 ·exact .inl ⟨h,by unfold Wd.putY;rw[if_neg h],zs1,d1,hd1,C1,R1⟩
theorem ld_Put(S:San D)(hf:D.find r=some t)(hd:t.mr.dead=false){i:Nat}(hi:i<t.pt.length)(hx:x=0∨∃u,D.find x=some u∧u.mr.dead=false∧u.mr.refs<4294967295)(hp0:0≤D.pending)(hp1:D.pending≤4294900000):
  Does c D 32 [.int .i64 r,.int .i64 (i:Int),.int .i64 x] 150 (D.put r i x (nth t.pt i)) (.int .i64 0):=fun zs hz R=>by
 have h64:=NF S hz R hf hd hi
 obtain⟨zs1,⟨d1,hd1,C1⟩,R1,hz1⟩:=(ld_alive (c:=c) (D:=D) (find64 hz.may R hf)).at hz R
 rw[aliveB_some hf,hd] at C1
 obtain⟨zs2,⟨d2,hd2,C2⟩,R2,hz2⟩:=(GL (c:=c) S hf hd i).at hz1 R1
 rw[if_pos hi] at C2
 by_cases hx0:x=0
 ·subst hx0
  obtain⟨zs3,⟨d3,hd3,C3⟩,R3,hz3⟩:=(sG (c:=c) (x:=0) S hf hd hi (.inl rfl)).at hz2 R2
  have e:D.putS r i 0=D.setP r i 0:=by unfold Wd.putS;rw[if_pos rfl]
  unfold Wd.put
  rw[e]
  rcases Du (y:=nth t.pt i) h64 (D:=D.setP r i 0) hp0 hp1 hz3 R3 with⟨h0,e2,zs4,d4,hd4,C4,R4⟩|⟨h0,zs4,d4,zs5,d5,b,zs6,d6,b2,hd,C4,C5,C6,R6⟩
  ·rw[e2]
   exact⟨zs4,⟨d1+d2+d3+d4,by omega,zD h0 C1 C2 C3 C4⟩,R4⟩
  ·exact⟨zs6,⟨d1+d2+d3+d4+d5+d6,by omega,xK h0 C1 C2 C3 C4 C5 C6⟩,R6⟩
 ·obtain⟨u,hu,hud,hub⟩:∃u,D.find x=some u∧u.mr.dead=false∧u.mr.refs<4294967295:=by
   rcases hx with h|h
   ·exact absurd h hx0
   ·exact h
  obtain⟨zs3,⟨d3,hd3,C3⟩,R3,hz3⟩:=(ld_Hold (c:=c) hu hud hub).at hz2 R2
  obtain⟨m,hf1,hm1⟩:=more_find r hf x
  obtain⟨m2,hu1,_⟩:=more_find x hu x
  obtain⟨zs4,⟨d4,hd4,C4⟩,R4,hz4⟩:=(sG (c:=c) (x:=x) (t:={t with mr:=m}) (i:=i) (S.more x) hf1 (hm1.trans hd) hi (.inr ⟨_,hu1⟩)).at hz3 R3
  have e:D.putS r i x=(D.more x).setP r i x:=by unfold Wd.putS;rw[if_neg hx0]
  have ep:=(EH (D:=D) x).1
  unfold Wd.put
  rw[e]
  rcases Du (y:=nth t.pt i) h64 (D:=(D.more x).setP r i x) (by show 0≤(D.more x).pending;rw[ep];exact hp0) (by show(D.more x).pending≤_;rw[ep];exact hp1) hz4 R4 with⟨h0,e2,zs5,d5,hd5,C5,R5⟩|⟨h0,zs5,d5,zs6,d6,b,zs7,d7,b2,hd,C5,C6,C7,R7⟩
  ·rw[e2]
   exact⟨zs5,⟨d1+d2+d3+d4+d5,by omega,BX hx0 h0 C1 C2 C3 C4 C5⟩,R5⟩
  ·exact⟨zs7,⟨d1+d2+d3+d4+d5+d6+d7,by omega,zC hx0 h0 C1 C2 C3 C4 C5 C6 C7⟩,R7⟩
end
section
variable {c:Cf} {D:Wd} {t:Th} {zs:List Int} {x y:Int} {w wr:World} {p:Pl}
structure BornOk (D:Wd) (x y:Int) (N:Nat):Prop where
 san:San D→San (D.mkD x y)
 new:D.mkE x y=0→∃t,(D.mkD x y).find (D.mkR x y)=some t∧t.h=D.mkB∧t.mr=Mrk.new
 fresh:D.mkE x y=0→∀t,t∈D.live→t.h≠D.mkB
 lt:D.mkE x y=0→D.mkB<N
theorem RSt.bornOk(h:RSt w p c (D.mkD x y) wr):BornOk D x y c.N:=by
 have hs:San D→San (D.mkD x y):=fun S=>S.mkD h
 obtain⟨zs,m,hG,hR,_⟩:=h
 have key:D.mkE x y=0→(∃t,(D.mkD x y).find (D.mkR x y)=some t∧t.h=D.mkB∧t.mr=Mrk.new)∧(∀t,t∈D.live→t.h≠D.mkB)∧D.mkB<c.N:=fun h0=>by
  have eR:D.mkR x y=(D.mkB:Int)+1:=by unfold Wd.mkR;rw[if_pos h0]
  have eD:D.mkD x y=D.made D.mkB (D.clean.tail.take (D.mkN x y)) (D.clean.tail.drop (D.mkN x y)) x.toNat y.toNat:=by unfold Wd.mkD;rw[if_pos h0]
  rw[eD] at hR ⊢
  rw[eR]
  generalize D.clean.tail.take (D.mkN x y)=ls at*
  generalize D.clean.tail.drop (D.mkN x y)=cl at*
  have hl:=live_made (D:=D) (b:=D.mkB) (ls:=ls) (cl:=cl) (np:=x.toNat) (nd:=y.toNat)
  have hm:(⟨D.mkB,ints ls,zer x.toNat,zer y.toNat,false,Mrk.new⟩:Th)∈(D.made D.mkB ls cl x.toNat y.toNat).live:=by rw[hl];simp
  have hn:=hR.nodup
  rw[hl,List.map_append,List.nodup_append] at hn
  exact⟨⟨_,hR.findIt hm,rfl,rfl⟩,fun t ht=>hn.2.2 t.h (List.mem_map.2 ⟨t,ht,rfl⟩) D.mkB (by simp),hR.hlt hm⟩
 exact⟨hs,fun h0=>(key h0).1,fun h0=>(key h0).2.1,fun h0=>(key h0).2.2⟩
theorem dye_find(q:Int)(hf:D.find q=some t)(r:Int):∃m:Mrk,(D.dye r).find q=some {t with mr:=m}∧m.dead=t.mr.dead∧m.refs=t.mr.refs:=by
 unfold Wd.dye
 rw[find_mark,hf]
 by_cases e:t.at r=true
 ·exact⟨{t.mr with color:=D.parity,count:=D.parity,shade:=D.parity,shadow:=0},by simp[e],rfl,rfl⟩
 ·exact⟨t.mr,by simp[e],rfl,rfl⟩
theorem BornOk.Ot{N:Nat}(B:BornOk D x y N)(S:San D):San (D.born x y):=by
 unfold Wd.born
 split
 ·have S1:San ((D.mkD x y).dye (D.mkR x y)):=(B.san S).mark _ (fun _=>rfl) (fun _=>rfl) (fun _=>rfl)
  exact S1.more _
 ·exact S
set_option maxHeartbeats 2000000 in
theorem Dw(c:Cf)(D:Wd)(x y:Int){wr w:World}{p:Pl}(h:RSt w p c D wr):
  Calls Tryz.prog 31 #[.pointer (some ⟨p.a,0,none⟩),.int .i64 x,.int .i64 y] wr fun e w'=>e=.returned (.tuple #[.int .i64 (D.mkR x y),.int .i64 (D.mkE x y)])∧RSt w p c (D.born x y) w'∧Touch (inG p) wr w'∧BornOk D x y c.N:=by
 have HM:=hid (make_does objFns c D x y h)
 clear h
 by_cases hE:D.mkE x y=0
 ·have hD:D.born x y=((D.mkD x y).dye (D.mkR x y)).more (D.mkR x y):=by unfold Wd.born;rw[if_pos hE]
  have HE:=hid hE
  rw[hE] at HM
  rw[hE,hD]
  clear hE hD
  go_enter Tryz.func31,Tryz.ntmps31
  go_wp2_with fail
  refine HM.out.mono ?_
  rintro e w1 ⟨rfl,h1,hT⟩
  have HBk:=hid h1.bornOk
  have HS1:=hid h1
  have HT1:=hid hT
  obtain⟨t,hf,eh,em⟩:=HBk.out.new HE.out
  have h64:In64 (D.mkR x y):=by
   obtain⟨zs,m,hG,hR,_⟩:=h1
   exact find64 hG.may hR hf
  obtain⟨m,hf2,_,em2⟩:=dye_find (D.mkR x y) hf (D.mkR x y)
  have HDy:=hid ((tintFns.dye c (D.mkD x y) (D.mkR x y) h64).as (vb (show((D.mkD x y).find (D.mkR x y)).isSome=true by rw[hf];rfl)) rfl)
  have HMo:=hid (ld_more (c:=c) hf2 (by show m.refs<_;rw[em2,em];decide))
  clear h1 hT hf hf2
  go_wp2_with fail
  refine(HS1.out.does HDy.out).mono ?_
  rintro e w2 ⟨rfl,h2,hT2⟩
  have HS2:=hid h2
  have HT2:=hid (HT1.out.trans hT2)
  clear h2 hT2
  go_wp2_with fail
  refine(HS2.out.does HMo.out).mono ?_
  rintro e w3 ⟨rfl,h3,hT3⟩
  have HS3:=hid h3
  have HT3:=hid (HT2.out.trans hT3)
  clear h3 hT3
  go_wp2_with fail
  go_ret2
  exact⟨rfl,HS3.out,HT3.out,HBk.out⟩
 ·have hD:D.born x y=D.mkD x y:=by unfold Wd.born Wd.mkD;rw[if_neg hE,if_neg hE]
  have hR:D.mkR x y=0:=by unfold Wd.mkR;rw[if_neg hE]
  have hEb:(D.mkE x y !=0)=true:=by rw[bne_iff_ne];exact hE
  rw[hR] at HM
  rw[hD,hR]
  clear hE hD hR
  go_enter Tryz.func31,Tryz.ntmps31
  go_wp2_with fail
  refine HM.out.mono ?_
  rintro e w1 ⟨rfl,h1,hT⟩
  have HBk:=hid h1.bornOk
  have HS1:=hid h1
  have HT1:=hid hT
  clear h1 hT
  go_wp2_with fail
  go_ret2
  exact⟨rfl,HS1.out,HT1.out,HBk.out⟩
end
theorem San.Oo{D:Wd}{r x y:Int}{i:Nat}{t:Th}(S:San D)(hf:D.find r=some t)(hd:t.mr.dead=false):San (D.put r i x y):=by
 have S1:San (D.putS r i x):=by
  unfold Wd.putS
  split
  ·exact S.setP hf i (fun h=>by rw[hd] at h;cases h)
  ·obtain⟨m,h1,h2⟩:=more_find r hf x
   exact(S.more x).setP h1 i (fun h=>by have:m.dead=true:=h;rw[h2,hd] at this;cases this)
 unfold Wd.put Wd.putY
 split
 ·exact(S1.touch y).less y
 ·exact S1
section
variable {D D':Wd} {r x y:Int} {t s u:Th} {hold hold':Nat→Nat} {k N:Nat}
theorem up_lh(x:Int):(D.up x).live.map Th.h=D.live.map Th.h:=aP x _
theorem uo(x:Int):(D.touch x).live.map Th.h=D.live.map Th.h:=by
 rcases touch_ts (D:=D) x with h|h
 ·unfold Wd.live;rw[h]
 ·have:(D.touch x).live=(D.paint x).live:=by unfold Wd.live;rw[h]
  rw[this]
  exact aP x _
theorem nX(x:Int):(D.more x).live.map Th.h=D.live.map Th.h:=(uo x).trans (up_lh x)
theorem Js(x:Int):(D.bury x).live.map Th.h=D.live.map Th.h:=by
 unfold Wd.bury
 cases hf:D.find x with
 |none=>rfl
 |some t=>
  simp only
  split
  ·rfl
  ·unfold Wd.live
   rw[lay_ts]
   exact bL (g:=fun s=>{s with mr:={s.mr with dead:=true,left:=(t.pt.length:Int),leaves:=(t.lv.length:Int)}}) hf (find_at hf).2.1 rfl
theorem inter_lh(x:Int):(D.inter x).live.map Th.h=D.live.map Th.h:=by
 unfold Wd.inter
 split
 ·exact Js x
 ·rfl
theorem Dv(x:Int):(D.less x).live.map Th.h=D.live.map Th.h:=(inter_lh (D:=(D.down x).sus) x).trans (show(D.down x).sus.live.map Th.h=D.live.map Th.h from aP (D:=D) x (fun m=>{m with refs:=m.refs-1}))
theorem kH(hf:D.find r=some t)(i:Nat)(x:Int):(D.setP r i x).live.map Th.h=D.live.map Th.h:=bL (g:=fun t=>{t with pt:=t.pt.set i x}) hf (find_at hf).2.1 rfl
theorem BP(x:Int):(D.af x).live.map Th.h=D.live.map Th.h:=by
 unfold Wd.af
 split
 ·exact aP x _
 ·rfl
theorem Gr(hf:D.find r=some t)(i:Nat)(x:Int):(D.drain r i x).live.map Th.h=D.live.map Th.h:=by
 have key:∀D2:Wd,D2.live.map Th.h=D.live.map Th.h→((D2.down x).inter x).live.map Th.h=D.live.map Th.h:=fun D2 h=>(inter_lh x).trans ((aP x _).trans h)
 unfold Wd.drain
 by_cases hc:(D.setP r i 0).cnt x=0
 ·rw[if_pos hc];exact kH hf i 0
 ·rw[if_neg hc]
  refine key _ ?_
  split
  ·rw[BP];exact kH hf i 0
  ·exact kH hf i 0
theorem Mo(hf:D.find r=some t)(i:Nat)(x y:Int):(D.put r i x y).live.map Th.h=D.live.map Th.h:=by
 have h1:(D.putS r i x).live.map Th.h=D.live.map Th.h:=by
  unfold Wd.putS
  split
  ·exact kH hf i x
  ·obtain⟨m,h1,_⟩:=more_find r hf x
   exact(kH h1 i x).trans (nX x)
 unfold Wd.put Wd.putY
 split
 ·exact(Dv y).trans ((uo y).trans h1)
 ·exact h1
theorem bF.setP(P:bF x D)(S:San D)(hf:D.find r=some t)(i:Nat)(z:Int):bF x (D.setP r i z):=fun s hs hd hx=>by
 rcases aH (g:=fun t=>{t with pt:=t.pt.set i z}) S.nd hf hs with rfl|⟨h,_⟩
 ·exact P t (find_live hf).1 hd hx
 ·exact P s h hd hx
theorem bF.af(P:bF x D)(S:San D)(z:Int):bF x (D.af z):=by
 unfold Wd.af
 split
 ·exact P.mark S z (fun _=>rfl) (fun _ h=>h)
 ·exact P
theorem bF.drain(P:bF 0 D)(N:Nam hold D)(S:San D)(hf:D.find r=some t){i:Nat}(hi:i<t.pt.length):bF 0 (D.drain r i (nth t.pt i)):=by
 have N1:=N.clear S hf hi
 have S1:=S.setP hf i (x:=0) (fun _=>rfl)
 have P1:=P.setP S hf i 0
 generalize nth t.pt i=x at N1
 unfold Wd.drain
 by_cases hc:(D.setP r i 0).cnt x=0
 ·rw[if_pos hc];exact P1
 ·rw[if_neg hc]
  have key:∀D2:Wd,San D2→qU hold x D2→bF 0 D2→bF 0 ((D2.down x).inter x):=fun D2 S2 N2 P2=>(P2.down S2 x).inter (N2.down S2) (S2.down x)
  have K:San (if(D.setP r i 0).counted r i then(D.setP r i 0).af x else D.setP r i 0)∧qU hold x (if(D.setP r i 0).counted r i then(D.setP r i 0).af x else D.setP r i 0)∧bF 0 (if(D.setP r i 0).counted r i then(D.setP r i 0).af x else D.setP r i 0):=by
   split
   ·refine⟨S1.af x,?_,P1.af S1 x⟩
    unfold Wd.af
    split
    ·exact N1.mark S1 x (fun _=>rfl) (fun _=>rfl)
    ·exact N1
   ·exact⟨S1,N1,P1⟩
  exact key _ K.1 K.2.1 K.2.2
theorem IA(P:bF 0 D)(N:Nam hold D)(S:San D):bF 0 D.step∧∀s,s∈D.live→(∃s',s'∈D.step.live∧s'.h=s.h)∨s.mr.dead=true:=by
 cases hg:D.grave with
 |nil=>rw[show D.step=D by unfold Wd.step;rw[hg]];exact⟨P,fun s hs=>.inl ⟨s,hs,rfl⟩⟩
 |cons q rest=>
  obtain⟨t,htl,e,hf,hd,d,es⟩:=S.head hg
  have hw:=S.w
  rw[es]
  unfold Wd.work
  by_cases ha:D.ahead t.mr.leaves<t.mr.left
  ·have h0:0≤D.ahead t.mr.leaves:=by
    unfold Wd.ahead
    refine Int.mul_nonneg ?_ (by omega)
    split<;>omega
   rw[if_pos ha]
   have hi:(t.mr.left-1).toNat<t.pt.length:=by have:=d.f1;omega
   exact⟨(P.drain N S hf hi).mark (S.drain hf _ _) _ (fun _=>rfl) (fun _ h=>h),fun s hs=>.inl (live_of_heads ((aP _ _).trans (Gr hf _ _)) hs)⟩
  ·rw[if_neg ha]
   by_cases hl:0<t.mr.leaves
   ·rw[if_pos hl]
    have ets:({(D.eU (q:Int) (t.mr.leaves-1).toNat (nth t.lv (t.mr.leaves-1).toNat).toNat).mark (q:Int) (fun m=>{m with leaves:=t.mr.leaves-1}) with pending:=D.pending-1}:Wd).ts=updL (q:Int) (fun s=>{s with lv:=s.lv.set (t.mr.leaves-1).toNat (-1),mr:={s.mr with leaves:=t.mr.leaves-1}}) D.ts:=eu _ _ _ _
    refine⟨fun s hs hds hx=> ?_,fun s hs=>.inl (live_of_heads ?_ hs)⟩
    ·unfold Wd.live at hs
     rw[ets] at hs
     rcases aH (g:=fun s=>{s with lv:=s.lv.set (t.mr.leaves-1).toNat (-1),mr:={s.mr with leaves:=t.mr.leaves-1}}) S.nd hf hs with rfl|⟨h,_⟩
     ·have hds:t.mr.dead=false:=hds
      rw[hd] at hds
      cases hds
     ·exact P s h hds hx
    ·unfold Wd.live
     rw[ets]
     exact bL (g:=fun s=>{s with lv:=s.lv.set (t.mr.leaves-1).toNat (-1),mr:={s.mr with leaves:=t.mr.leaves-1}}) hf (find_at hf).2.1 rfl
   ·rw[if_neg hl]
    have hlive:({({D with grave:=rest}:Wd).eZ (q:Int) t.h with pending:=D.pending-1}:Wd).live=D.live.filter (fun s=>s.h !=t.h):=bE (g:=fun s=>{s with ended:=true}) (fun _=>rfl) S.nd hf
    refine⟨fun s hs hds hx=> ?_,fun s hs=> ?_⟩
    ·rw[hlive] at hs
     exact P s (List.mem_filter.1 hs).1 hds hx
    ·by_cases e2:s.h=t.h
     ·right
      rw[S.same hs htl e2]
      exact hd
     ·exact .inl ⟨s,by rw[hlive];exact List.mem_filter.2 ⟨hs,by simpa using e2⟩,rfl⟩
structure dH (hold:Nat→Nat) (k:Nat) (D:Wd):Prop where
 san:San D
 nam:Nam hold D
 pos:bF 0 D
 bd:∀h,hold h≤k
 out:∀h:Nat,(∀t,t∈D.live→t.h≠h)→hold h=0
theorem dH.new(n:Nat){w:Nat}(h:16≤w):dH (fun _=>0) 0 (Wd.new n w):=⟨San.new n h,(Gro.new n h).nam,fun t ht=>absurd ht (by simp[Wd.live,Wd.new,liveL]),fun _=>Nat.le_refl _,fun _ _=>rfl⟩
theorem dH.mono{k2:Nat}(I:dH hold k D)(h:k≤k2):dH hold k2 D:=⟨I.san,I.nam,I.pos,fun a=>Nat.le_trans (I.bd a) h,I.out⟩
theorem dH.step(I:dH hold k D):dH hold k D.step:=by
 obtain⟨h1,h2⟩:=IA I.pos I.nam I.san
 refine⟨I.san.step,I.nam.step I.san,h1,I.bd,fun h hn=> ?_⟩
 by_cases e:∀t,t∈D.live→t.h≠h
 ·exact I.out h e
 ·have:∃t,t∈D.live∧t.h=h:=by
   apply Classical.byContradiction
   intro hc
   exact e (fun t ht e2=>hc ⟨t,ht,e2⟩)
  obtain⟨t,ht,rfl⟩:=this
  rcases h2 t ht with⟨s,hs,e2⟩|hd
  ·exact absurd e2 (hn s hs)
  ·have h3:=I.nam.zer t ht hd
   have h4:=I.nam.cnt t ht
   omega
theorem tC(I:dH hold k D)(h:D'.live.map Th.h=D.live.map Th.h):∀b:Nat,(∀t,t∈D'.live→t.h≠b)→hold b=0:=fun b hb=>I.out b (fun t ht e=>by
 obtain⟨s,h1,h2⟩:=live_of_heads h ht
 exact hb s h1 (by omega))
theorem dH.up(I:dH hold k D)(hf:D.find r=some t)(hd:t.mr.dead=false)(hh:∀h:Nat,hold' h=hold h+if(h:Int)+1=r then 1 else 0):dH hold' (k+1) (D.more r):=by
 have N1:=I.nam.upH I.san hf hd hh
 have S1:=I.san.up r
 refine⟨I.san.more r,N1.touch S1 r,(I.pos.up I.nam I.san r).touch S1 r,fun h=> ?_,fun h hn=> ?_⟩
 ·rw[hh]
  have:=I.bd h
  split<;>omega
 ·rw[hh]
  obtain⟨htl,e⟩:=find_live hf
  have h1:=tC I (nX r) h hn
  rw[h1,if_neg (fun e2=> ?_)]
  obtain⟨s,a1,a2⟩:=live_of_heads (nX (D:=D) r) htl
  exact hn s a1 (by omega)
theorem dH.let(I:dH hold k D)(hh:∀h:Nat,hold h=hold' h+if(h:Int)+1=r then 1 else 0):dH hold' k (D.less r):=by
 refine⟨I.san.less r,I.nam.less I.san hh,I.pos.less I.san (I.nam.Gj I.san hh),fun h=> ?_,fun h hn=> ?_⟩
 ·have:=I.bd h
  rw[hh] at this
  omega
 ·have:=tC I (Dv r) h hn
  rw[hh] at this
  omega
theorem dH.put(I:dH hold k D)(hf:D.find r=some t)(hd:t.mr.dead=false){i:Nat}(hi:i<t.pt.length)(hx:x=0∨∃u,D.find x=some u∧u.mr.dead=false):dH hold k (D.put r i x (nth t.pt i)):=by
 -- the holds in between: one more of x, then one more of what the field held.
 have key:∃h2:Nat→Nat,(∀h:Nat,h2 h=hold h+if(h:Int)+1=nth t.pt i then 1 else 0)∧San (D.putS r i x)∧Nam h2 (D.putS r i x)∧bF 0 (D.putS r i x):=by
  refine⟨fun h=>hold h+if(h:Int)+1=nth t.pt i then 1 else 0,fun _=>rfl,?_⟩
  unfold Wd.putS
  by_cases hx0:x=0
  ·rw[if_pos hx0]
   exact⟨I.san.setP hf i (fun h=>by rw[hd] at h;cases h),I.nam.setH I.san hf hi (.inl hx0) (fun h=>by show hold h+(if(h:Int)+1=nth t.pt i then 1 else 0)+(if(h:Int)+1=x then 1 else 0)=hold h+(if(h:Int)+1=nth t.pt i then 1 else 0);rw[if_neg (show ¬(h:Int)+1=x by omega)];rfl),I.pos.setP I.san hf i x⟩
  ·rw[if_neg hx0]
   obtain⟨u,hu,hud⟩:∃u,D.find x=some u∧u.mr.dead=false:=by
    rcases hx with h|h
    ·exact absurd h hx0
    ·exact h
   have I1:=I.up (hold':=fun h=>hold h+if(h:Int)+1=x then 1 else 0) hu hud (fun _=>rfl)
   obtain⟨m,hf1,hm1⟩:=more_find r hf x
   obtain⟨m2,hu1,_⟩:=more_find x hu x
   exact⟨I1.san.setP hf1 i (fun h=>by have h:m.dead=true:=h;rw[hm1,hd] at h;cases h),I1.nam.setH I1.san hf1 (i:=i) hi (.inr ⟨_,hu1⟩) (fun h=>by show hold h+(if(h:Int)+1=nth t.pt i then 1 else 0)+(if(h:Int)+1=x then 1 else 0)=hold h+(if(h:Int)+1=x then 1 else 0)+(if(h:Int)+1=nth t.pt i then 1 else 0);omega),I1.pos.setP I1.san hf1 i x⟩
 obtain⟨h2,e2,S2,N2,P2⟩:=key
 have hgood:=I.nam.good t (find_live hf).1 i hi
 have hlh:=Mo hf i x (nth t.pt i)
 have hout:=tC I hlh
 unfold Wd.put at hout ⊢
 unfold Wd.putY at hout ⊢
 by_cases hc:0<(D.putS r i x).cnt (nth t.pt i)
 ·rw[if_pos hc] at hout ⊢
  have S3:=S2.touch (nth t.pt i)
  have N3:=N2.touch S2 (nth t.pt i)
  have P3:=P2.touch S2 (nth t.pt i)
  exact⟨S3.less _,N3.less S3 e2,P3.less S3 (N3.Gj S3 e2),I.bd,hout⟩
 ·rw[if_neg hc] at hout ⊢
  have hz:∀h:Nat,(h:Int)+1≠nth t.pt i:=fun h e=>by
   rcases hgood with h0|⟨u,hu,hu2⟩
   ·omega
   ·have hl1:(D.putS r i x).live.map Th.h=D.live.map Th.h:=by
     unfold Wd.putS
     split
     ·exact kH hf i x
     ·obtain⟨m,h1,_⟩:=more_find r hf x
      exact(kH h1 i x).trans (nX x)
    obtain⟨u',a1,a2⟩:=live_of_heads hl1 hu
    have h3:=N2.cnt u' a1
    rw[e2,if_pos (by omega)] at h3
    have h4:=S2.findIt a1
    unfold Wd.cnt at hc
    rw[←hu2,←a2,h4] at hc
    simp only at hc
    omega
  have e3:h2=hold:=funext (fun h=>by rw[e2,if_neg (hz h)];rfl)
  rw[e3] at N2
  exact⟨S2,N2,P2,I.bd,hout⟩
theorem dH.born(I:dH hold k D)(B:BornOk D x y N)(hE:D.mkE x y=0)(hh:∀h:Nat,hold' h=hold h+if h=D.mkB then 1 else 0):dH hold' (k+1) (D.born x y):=by
 have eR:D.mkR x y=(D.mkB:Int)+1:=by unfold Wd.mkR;rw[if_pos hE]
 obtain⟨t,hf,et,em⟩:=B.new hE
 have hfr:=B.fresh hE
 have S1:=B.san I.san
 have eD:D.mkD x y=D.made D.mkB (D.clean.tail.take (D.mkN x y)) (D.clean.tail.drop (D.mkN x y)) x.toNat y.toNat:=by unfold Wd.mkD;rw[if_pos hE]
 have h0:hold D.mkB=0:=I.out _ hfr
 have N1:Nam hold (D.mkD x y):=by rw[eD];exact I.nam.made h0 hfr
 have hl:(D.mkD x y).live.map Th.h=D.live.map Th.h++[D.mkB]:=by rw[eD,live_made,List.map_append];rfl
 have P1:bF ((D.mkB:Int)+1) (D.mkD x y):=fun s hs hd hx=>by
  rw[eD,live_made] at hs
  rcases List.mem_append.1 hs with h|h
  ·exact I.pos s h hd (by omega)
  ·obtain rfl:=List.mem_singleton.1 h
   exact absurd rfl hx
 obtain⟨m,hf2,hm1,hm2⟩:=dye_find (D.mkR x y) hf (D.mkR x y)
 have S2:San ((D.mkD x y).dye (D.mkR x y)):=S1.mark _ (fun _=>rfl) (fun _=>rfl) (fun _=>rfl)
 have N2:Nam hold ((D.mkD x y).dye (D.mkR x y)):=N1.mark S1 _ (fun _=>rfl) (fun _=>rfl)
 have P2:bF (D.mkR x y) ((D.mkD x y).dye (D.mkR x y)):=by rw[eR];exact P1.mark S1 _ (fun _=>rfl) (fun _ h=>h)
 have hdead:m.dead=false:=by rw[hm1,em];rfl
 have N3:Nam hold' (((D.mkD x y).dye (D.mkR x y)).up (D.mkR x y)):=N2.upH S2 hf2 hdead (fun h=>by
  rw[hh]
  congr 1
  by_cases e:h=D.mkB
  ·rw[if_pos e,if_pos (by rw[eR,e])]
  ·rw[if_neg e,if_neg (by rw[eR];omega)])
 have S3:=S2.up (D.mkR x y)
 have eB:D.born x y=((D.mkD x y).dye (D.mkR x y)).more (D.mkR x y):=by unfold Wd.born;rw[if_pos hE]
 have hlB:(D.born x y).live.map Th.h=D.live.map Th.h++[D.mkB]:=by rw[eB,nX];exact(aP _ _).trans hl
 refine⟨by rw[eB];exact S2.more _,by rw[eB];exact N3.touch S3 _,by rw[eB];exact(P2.OC N2 S2).touch S3 _,fun h=> ?_,fun h hn=> ?_⟩
 ·rw[hh]
  have:=I.bd h
  split<;>omega
 ·have hnm:h∉(D.born x y).live.map Th.h:=fun hm=>by
   obtain⟨s,a1,a2⟩:=List.mem_map.1 hm
   exact hn s a1 a2
  rw[hlB] at hnm
  simp only[List.mem_append,List.mem_singleton,not_or] at hnm
  rw[hh,if_neg hnm.2,I.out h (fun t ht e=>hnm.1 (List.mem_map.2 ⟨t,ht,e⟩))]
end
end Go.Proofs.YtofhdfjkhfkhiaaGreat.Pk
