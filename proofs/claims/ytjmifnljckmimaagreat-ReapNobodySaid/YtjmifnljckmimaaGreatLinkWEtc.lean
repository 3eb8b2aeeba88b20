/-
  Texts laid together: LinkW, LinkFn, LinkDo, LinkLaw, LinkInv, ReapFn.
-/
import Derived.Test.YtjmifnljckmimaaGreatGravCntEtc
namespace Go.Proofs.YtjmifnljckmimaaGreat.Pk
open Lib (hid)
open Go.RowKit
set_option linter.unusedVariables false
set_option linter.unusedSimpArgs false
set_option maxRecDepth 100000
section
variable (D:Wd) (r:Int)
def Wd.aliveB:Bool:=(D.find r).isSome&& !D.dead r
def Wd.more:Wd:=(D.up r).touch r
def Wd.sus:Wd:={D with suspect:=1}
def Wd.less:Wd:=(D.down r).sus.inter r
def Wd.putS(i:Nat)(x:Int):Wd:=(if x=0 then D else D.more x).setP r i x
def Wd.putY(y:Int):Wd:=if 0<D.cnt y then(D.touch y).less y else D
def Wd.put(i:Nat)(x y:Int):Wd:=(D.putS r i x).putY y
def Wd.born(x y:Int):Wd:=if D.mkE x y=0 then((D.mkD x y).dye (D.mkR x y)).more (D.mkR x y) else D
end
section
variable {D D':Wd} {r x y:Int} {t s u:Th} {hold hold':Nat→Nat}
theorem aliveB_some(hf:D.find r=some t):D.aliveB r= !t.mr.dead:=by unfold Wd.aliveB Wd.dead;rw[hf];rfl
theorem AR(hf:D.find r=none):D.aliveB r=false:=by unfold Wd.aliveB;rw[hf];rfl
theorem gW(r:Int):(D.touch r).ts=D.ts∨(D.touch r).ts=(D.paint r).ts:=by
 unfold Wd.touch
 split
 ·exact .inr rfl
 ·exact .inl rfl
theorem wM(r:Int):(D.touch r).clean=D.clean∧(D.touch r).grave=D.grave∧(D.touch r).pending=D.pending∧(D.touch r).n=D.n∧(D.touch r).w=D.w∧(D.touch r).suspect=D.suspect:=by
 unfold Wd.touch
 split<;>exact⟨rfl,rfl,rfl,rfl,rfl,rfl⟩
theorem Fg(q:Int)(r:Int):(D.touch r).find q=D.find q∨(D.touch r).find q=(D.find q).map (fun t=>if t.at r then {t with mr:={t.mr with color:=D.parity}} else t):=by
 rcases gW (D:=D) r with h|h
 ·left
  unfold Wd.find
  rw[h]
 ·right
  have:(D.touch r).find q=(D.paint r).find q:=by unfold Wd.find;rw[h]
  rw[this]
  exact nQ (D:=D) (r:=r) (g:=fun t=>{t with mr:={t.mr with color:=D.parity}}) (fun t=>⟨rfl,rfl⟩) q
theorem touch_mark(q:Int)(hf:D.find q=some t)(r:Int):∃k,(D.touch r).find q=some {t with mr:={t.mr with color:=k}}:=by
 rcases Fg (D:=D) q r with h|h
 ·exact⟨t.mr.color,by rw[h,hf]⟩
 ·rw[h,hf]
  by_cases e:t.at r=true
  ·exact⟨D.parity,by simp[e]⟩
  ·exact⟨t.mr.color,by simp[e]⟩
theorem San.paint(S:San D)(r:Int):San (D.paint r):=S.mark r (fun _=>rfl) (fun _=>rfl) (fun _=>rfl)
theorem San.touch(S:San D)(r:Int):San (D.touch r):=by
 unfold Wd.touch
 split
 ·rename_i h
  have S1:=S.paint r
  refine S1.dI rfl rfl rfl rfl (fun b hb=> ?_)
  have hb:b∈(if hasB (ints D.ring) (r-1) then D.ring else D.ring++[(r-1).toNat]):=hb
  split at hb
  ·exact .inl hb
  ·rcases List.mem_append.1 hb with hb|hb
   ·exact .inl hb
   ·right
    intro s hs e
    unfold Wd.toucht at h
    cases hf:D.find r with
    |none=>rw[hf] at h;cases h
    |some t=>
     rw[hf] at h
     simp at h
     have hr:=(find_live hf).2
     have hb:=List.mem_singleton.1 hb
     have hs2:=S1.findIt hs
     rw[show(s.h:Int)+1=r by omega] at hs2
     have e3:(D.paint r).find r=(D.find r).map (fun t=>if t.at r then {t with mr:={t.mr with color:=D.parity}} else t):=nQ (D:=D) (r:=r) (g:=fun t=>{t with mr:={t.mr with color:=D.parity}}) (fun t=>⟨rfl,rfl⟩) r
     rw[e3,hf] at hs2
     simp[find_at_r hf] at hs2
     rw[←hs2]
     exact h.1.2
 ·exact S
theorem dX.ts(N:dX hold D)(h:D'.ts=D.ts):dX hold D':=by
 have hl:D'.live=D.live:=by unfold Wd.live;rw[h]
 exact⟨by rw[hl,h];exact N.cnt,by rw[hl];exact N.good,by rw[hl];exact N.zer⟩
theorem dX.touch(N:dX hold D)(S:San D)(r:Int):dX hold (D.touch r):=by
 rcases gW (D:=D) r with h|h
 ·exact N.ts h
 ·exact(N.mark S r (f:=fun m=>{m with color:=D.parity}) (fun _=>rfl) (fun _=>rfl)).ts h
theorem San.more(S:San D)(r:Int):San (D.more r):=(S.up r).touch r
theorem San.sus(S:San D):San D.sus:=S.dI rfl rfl rfl rfl (fun b hb=>.inl hb)
theorem San.less(S:San D)(r:Int):San (D.less r):=(S.down r).sus.inter r
theorem bJ(S:San D){f:Mrk→Mrk}(hs:s∈(D.mark x f).live):∃v,v∈D.live∧s.h=v.h∧s.pt=v.pt∧((v.h:Int)+1=x∧s.mr=f v.mr∨(v.h:Int)+1≠x∧s.mr=v.mr):=by
 cases hf:D.find x with
 |none=>
  rw[bH f hf] at hs
  exact⟨s,hs,rfl,rfl,.inr ⟨fun h=>(by have:=S.findIt hs;rw[h,hf] at this;cases this),rfl⟩⟩
 |some t=>
  obtain⟨k1,k2⟩:=find_live hf
  rcases aQ (g:=fun t=>{t with mr:=f t.mr}) S.nd hf hs with rfl|⟨h,hne⟩
  ·exact⟨t,k1,rfl,rfl,.inl ⟨k2,rfl⟩⟩
  ·exact⟨s,h,rfl,rfl,.inr ⟨by omega,rfl⟩⟩
theorem dX.Rq(N:dX hold D)(S:San D)(hf:D.find x=some u)(hd:u.mr.dead=false)(hh:∀h:Nat,hold' h=hold h+if(h:Int)+1=x then 1 else 0):dX hold' (D.up x):=by
 have hsum:∀y,aj (fG y) (D.up x).ts=aj (fG y) D.ts:=fun y=>dQ x (fun t=>rfl)
 refine⟨fun s hs=> ?_,fun s hs i hi=> ?_,fun s hs hds=> ?_⟩
 ·obtain⟨v,hv,e1,e2,h⟩:=bJ S hs
  rw[hsum,e1,hh]
  have:=N.cnt v hv
  rcases h with⟨h,e⟩|⟨h,e⟩
  ·rw[e,if_pos h]
   show v.mr.refs+1=_
   omega
  ·rw[e,if_neg h]
   omega
 ·obtain⟨v,hv,e1,e2,_⟩:=bJ S hs
  rw[e2] at hi ⊢
  rcases N.good v hv i hi with h|⟨z,hz,h⟩
  ·exact .inl h
  ·obtain⟨z',k1,k2⟩:=aB (bi x _) hz
   exact .inr ⟨z',k1,by rw[k2];exact h⟩
 ·obtain⟨v,hv,e1,e2,h⟩:=bJ S hs
  rcases h with⟨h,e⟩|⟨h,e⟩
  ·exfalso
   have:v=u:=S.same hv (find_live hf).1 (by have:=(find_live hf).2;omega)
   rw[e] at hds
   have hds:v.mr.dead=true:=hds
   rw[this,hd] at hds
   cases hds
  ·rw[e] at hds ⊢
   exact N.zer v hv hds
theorem dX.JH(N:dX hold D)(S:San D)(hh:∀h:Nat,hold h=hold' h+if(h:Int)+1=x then 1 else 0):dX hold' (D.down x):=by
 have hsum:∀y,aj (fG y) (D.down x).ts=aj (fG y) D.ts:=fun y=>dQ x (fun t=>rfl)
 refine⟨fun s hs=> ?_,fun s hs i hi=> ?_,fun s hs hds=> ?_⟩
 ·obtain⟨v,hv,e1,e2,h⟩:=bJ S hs
  have:=N.cnt v hv
  rw[hh] at this
  rw[hsum,e1]
  rcases h with⟨h,e⟩|⟨h,e⟩
  ·rw[if_pos h] at this
   rw[e]
   show v.mr.refs-1=_
   omega
  ·rw[if_neg h] at this
   rw[e]
   omega
 ·obtain⟨v,hv,e1,e2,_⟩:=bJ S hs
  rw[e2] at hi ⊢
  rcases N.good v hv i hi with h|⟨z,hz,h⟩
  ·exact .inl h
  ·obtain⟨z',k1,k2⟩:=aB (bi x _) hz
   exact .inr ⟨z',k1,by rw[k2];exact h⟩
 ·obtain⟨v,hv,e1,e2,h⟩:=bJ S hs
  rcases h with⟨h,e⟩|⟨h,e⟩
  ·exfalso
   rw[e] at hds
   have h0:=N.zer v hv hds
   have:=N.cnt v hv
   rw[hh,if_pos h] at this
   omega
  ·rw[e] at hds ⊢
   exact N.zer v hv hds
theorem Ld(hf:D.find r=some t){i:Nat}(hi:i<t.pt.length)(x:Int)(y:Int):aj (fG y) (D.setP r i x).ts+(if nth t.pt i=y then 1 else 0)=aj (fG y) D.ts+(if x=y then 1 else 0):=by
 have h1:=oU (φ:=fG y) hf i x
 have h2:=nN y x t.pt i hi
 have h3:fG y {t with pt:=t.pt.set i x}=eG y (t.pt.set i x):=rfl
 have h4:fG y t=eG y t.pt:=rfl
 omega
theorem dX.setH(N:dX hold D)(S:San D)(hf:D.find r=some t){i:Nat}(hi:i<t.pt.length)(hx:x=0∨∃u,D.find x=some u)(hh:∀h:Nat,(hold' h+if(h:Int)+1=x then 1 else 0)=hold h+if(h:Int)+1=nth t.pt i then 1 else 0):dX hold' (D.setP r i x):=by
 have htl:=(find_live hf).1
 have hheads:(D.setP r i x).live.map Th.h=D.live.map Th.h:=dh (g:=fun t=>{t with pt:=t.pt.set i x}) hf (find_at hf).2.1 rfl
 have hmem:∀s,s∈(D.setP r i x).live→s={t with pt:=t.pt.set i x}∨(s∈D.live∧s.h≠t.h):=fun s hs=>aQ (g:=fun t=>{t with pt:=t.pt.set i x}) S.nd hf hs
 have hb:∀s,s∈(D.setP r i x).live→∃v,v∈D.live∧s.h=v.h∧s.mr=v.mr:=fun s hs=>by
  rcases hmem s hs with rfl|⟨h,_⟩
  ·exact⟨t,htl,rfl,rfl⟩
  ·exact⟨s,h,rfl,rfl⟩
 have hk:∀v,v∈D.live→∃u,u∈(D.setP r i x).live∧u.h=v.h:=fun v hv=>aB hheads hv
 refine⟨fun s hs=> ?_,fun s hs j hj=> ?_,fun s hs hds=> ?_⟩
 ·obtain⟨v,hv,e1,e2⟩:=hb s hs
  have hc:=N.cnt v hv
  have h1:=Ld hf hi x ((v.h:Int)+1)
  have h2:=hh v.h
  rw[e1,e2,hc]
  have a1:(if x=(v.h:Int)+1 then 1 else 0)=(if(v.h:Int)+1=x then 1 else 0):=by
   by_cases e:x=(v.h:Int)+1
   ·rw[if_pos e,if_pos e.symm]
   ·rw[if_neg e,if_neg (Ne.symm e)]
  have a2:(if nth t.pt i=(v.h:Int)+1 then 1 else 0)=(if(v.h:Int)+1=nth t.pt i then 1 else 0):=by
   by_cases e:nth t.pt i=(v.h:Int)+1
   ·rw[if_pos e,if_pos e.symm]
   ·rw[if_neg e,if_neg (Ne.symm e)]
  rw[a1,a2] at h1
  omega
 ·rcases hmem s hs with rfl|⟨h,_⟩
  ·show nth (t.pt.set i x) j=0∨∃v:Th,v∈(D.setP r i x).live∧(v.h:Int)+1=nth (t.pt.set i x) j
   by_cases e:i=j
   ·subst e
    rw[aD hi]
    rcases hx with h|⟨u,hu⟩
    ·exact .inl h
    ·obtain⟨k1,k2⟩:=find_live hu
     obtain⟨u',a1,a2⟩:=hk u k1
     exact .inr ⟨u',a1,by rw[a2];exact k2⟩
   ·rw[aa e]
    rcases N.good t htl j (by simpa using hj) with h|⟨v,hv,h⟩
    ·exact .inl h
    ·obtain⟨v',a1,a2⟩:=hk v hv
     exact .inr ⟨v',a1,by rw[a2];exact h⟩
  ·rcases N.good s h j hj with h|⟨v,hv,h⟩
   ·exact .inl h
   ·obtain⟨v',a1,a2⟩:=hk v hv
    exact .inr ⟨v',a1,by rw[a2];exact h⟩
 ·obtain⟨v,hv,e1,e2⟩:=hb s hs
  rw[e2] at hds ⊢
  exact N.zer v hv hds
def cz(x:Int)(D:Wd):Prop:=∀t,t∈D.live→t.mr.dead=false→(t.h:Int)+1≠x→0<t.mr.refs
theorem cz.mark(P:cz x D)(S:San D)(r:Int){f:Mrk→Mrk}(h1:∀m,(f m).dead=m.dead)(h2:∀m,0<m.refs→0<(f m).refs):cz x (D.mark r f):=fun s hs hd hx=>by
 obtain⟨v,hv,e1,e2,h⟩:=bJ S hs
 rcases h with⟨h,e⟩|⟨h,e⟩
 ·rw[e,h1] at hd
  rw[e]
  exact h2 _ (P v hv hd (by rw[←e1];exact hx))
 ·rw[e] at hd ⊢
  exact P v hv hd (by rw[←e1];exact hx)
theorem cz.ts(P:cz x D)(h:D'.ts=D.ts):cz x D':=by
 have hl:D'.live=D.live:=by unfold Wd.live;rw[h]
 unfold cz
 rw[hl]
 exact P
theorem cz.touch(P:cz x D)(S:San D)(r:Int):cz x (D.touch r):=by
 rcases gW (D:=D) r with h|h
 ·exact P.ts h
 ·exact(P.mark S r (f:=fun m=>{m with color:=D.parity}) (fun _=>rfl) (fun _ h=>h)).ts h
theorem cz.RA(P:cz x D)(N:dX hold D)(S:San D):cz 0 (D.up x):=fun s hs hd _=>by
 obtain⟨v,hv,e1,e2,h⟩:=bJ S hs
 rcases h with⟨h,e⟩|⟨h,e⟩
 ·rw[e]
  show 0<v.mr.refs+1
  have:=N.cnt v hv
  omega
 ·rw[e] at hd ⊢
  exact P v hv hd h
theorem cz.up(P:cz 0 D)(N:dX hold D)(S:San D)(r:Int):cz 0 (D.up r):=fun s hs hd hx=>by
 obtain⟨v,hv,e1,e2,h⟩:=bJ S hs
 rcases h with⟨h,e⟩|⟨h,e⟩
 ·rw[e]
  show 0<v.mr.refs+1
  have:=N.cnt v hv
  omega
 ·rw[e] at hd ⊢
  exact P v hv hd (by omega)
theorem cz.down(P:cz 0 D)(S:San D)(r:Int):cz r (D.down r):=fun s hs hd hx=>by
 obtain⟨v,hv,e1,e2,h⟩:=bJ S hs
 rcases h with⟨h,e⟩|⟨h,e⟩
 ·exact absurd (by rw[e1];exact h) hx
 ·rw[e] at hd ⊢
  exact P v hv hd (by omega)
theorem cz.bury(P:cz x D)(S:San D):cz 0 (D.bury x):=by
 unfold Wd.bury
 cases hf:D.find x with
 |none=>exact fun s hs hd _=>P s hs hd (fun h=>by have:=S.findIt hs;rw[h,hf] at this;cases this)
 |some t=>
  simp only
  cases htd:t.mr.dead with
  |true=>
   rw[if_pos rfl]
   refine fun s hs hd _=>P s hs hd (fun h=> ?_)
   have:=S.findIt hs
   rw[h,hf] at this
   cases this
   rw[htd] at hd
   cases hd
  |false=>
   rw[if_neg (by decide)]
   intro s hs hd _
   unfold Wd.live at hs
   rw[gK] at hs
   rcases aQ (g:=fun s=>{s with mr:={s.mr with dead:=true,left:=(t.pt.length:Int),leaves:=(t.lv.length:Int)}}) S.nd hf hs with rfl|⟨h,hne⟩
   ·cases hd
   ·exact P s h hd (by have:=(find_live hf).2;omega)
theorem cz.inter(P:cz x D)(N:dX hold D)(S:San D):cz 0 (D.inter x):=by
 unfold Wd.inter
 split
 ·exact P.bury S
 ·rename_i h
  intro s hs hd _
  by_cases e:(s.h:Int)+1=x
  ·have:=N.cnt s hs
   have h2:=S.findIt hs
   rw[e] at h2
   unfold Wd.cnt at h
   rw[h2] at h
   simp only at h
   omega
  ·exact P s hs hd e
theorem cz.less(P:cz 0 D)(S:San D)(N:dX hold' (D.down r)):cz 0 (D.less r):=((P.down S r).ts (D':=(D.down r).sus) rfl).inter (N.ts (D':=(D.down r).sus) rfl) (S.down r).sus
theorem dX.less(N:dX hold D)(S:San D)(hh:∀h:Nat,hold h=hold' h+if(h:Int)+1=r then 1 else 0):dX hold' (D.less r):=((N.JH S hh).ts (D':=(D.down r).sus) rfl).inter (S.down r).sus r
end
section
variable {c:Cf} {zs zs1 zs2 zs3 zs4 zs5 zs6 zs7:List Int} {d1 d2 d3 d4 d5 d6 d7:Nat}
set_option maxHeartbeats 1000000 in
theorem BZ{r:Int}(C1:Run c 49 [.int .i64 r] zs d1 zs1 (.bool false)):Run c 73 [.int .i64 r] zs (d1) zs1 (.bool false):=fun p m w hG=>by
 have HG:=hid hG
 have HC1:=hid C1
 clear hG C1
 go_enter Tryz.func73,Tryz.ntmps73
 have HT0:Hid (Touch (inG p) w w):=hid (Touch.refl _ _)
 go_wp2_with fail
 refine(HC1.out p _ _ HG.out).mono ?_
 rintro e wm1 ⟨rfl,hG,hT⟩
 have HG1:=hid hG
 have HT1:Hid (Touch (inG p) _ wm1):=hid (HT0.out.trans hT)
 clear hG hT
 go_wp2_with fail
 go_ret
 exact⟨rfl,HG1.out,HT1.out⟩
set_option maxHeartbeats 1000000 in
theorem Kt{r:Int}{b:Bool}(C1:Run c 49 [.int .i64 r] zs d1 zs1 (.bool true))(C2:Run c 50 [.int .i64 r] zs1 d2 zs2 (.bool b)):Run c 73 [.int .i64 r] zs (d1+d2) zs2 (.bool (!b)):=fun p m w hG=>by
 have HG:=hid hG
 have HC1:=hid C1
 have HC2:=hid C2
 clear hG C1 C2
 go_enter Tryz.func73,Tryz.ntmps73
 have HT0:Hid (Touch (inG p) w w):=hid (Touch.refl _ _)
 go_wp2_with fail
 refine(HC1.out p _ _ HG.out).mono ?_
 rintro e wm1 ⟨rfl,hG,hT⟩
 have HG1:=hid hG
 have HT1:Hid (Touch (inG p) _ wm1):=hid (HT0.out.trans hT)
 clear hG hT
 go_wp2_with fail
 refine(HC2.out p _ _ HG1.out).mono ?_
 rintro e wm2 ⟨rfl,hG,hT⟩
 have HG2:=hid hG
 have HT2:Hid (Touch (inG p) _ wm2):=hid (HT1.out.trans hT)
 clear hG hT
 go_wp2_with fail
 go_ret
 exact⟨rfl,HG2.out.fO rfl (by dsimp only;omega),HT2.out⟩
set_option maxHeartbeats 1000000 in
theorem MR{r n:Int}{b:Bool}(C1:Run c 72 [.int .i64 r] zs d1 zs1 (.tuple #[.int .i64 n,.bool true]))(C2:Run c 88 [.int .i64 r] zs1 d2 zs2 (.bool b)):Run c 74 [.int .i64 r] zs (d1+d2) zs2 (.bool true):=fun p m w hG=>by
 have HG:=hid hG
 have HC1:=hid C1
 have HC2:=hid C2
 clear hG C1 C2
 go_enter Tryz.func74,Tryz.ntmps74
 have HT0:Hid (Touch (inG p) w w):=hid (Touch.refl _ _)
 go_wp2_with fail
 refine(HC1.out p _ _ HG.out).mono ?_
 rintro e wm1 ⟨rfl,hG,hT⟩
 have HG1:=hid hG
 have HT1:Hid (Touch (inG p) _ wm1):=hid (HT0.out.trans hT)
 clear hG hT
 go_wp2_with fail
 refine(HC2.out p _ _ HG1.out).mono ?_
 rintro e wm2 ⟨rfl,hG,hT⟩
 have HG2:=hid hG
 have HT2:Hid (Touch (inG p) _ wm2):=hid (HT1.out.trans hT)
 clear hG hT
 go_wp2_with fail
 go_ret
 exact⟨rfl,HG2.out.fO rfl (by dsimp only;omega),HT2.out⟩
set_option maxHeartbeats 1000000 in
theorem MQ{r n:Int}(hn:n≠0)(C1:Run c 111 [.int .i64 r] zs d1 zs1 (.tuple #[.int .i64 n,.bool true])):Run c 89 [.int .i64 r] zs (d1+1) (zs1.set 16 1) (.bool true):=fun p m w hG=>by
 have hnb:(n==0)=false:=neq_b hn
 clear hn
 have HG:=hid hG
 have HC1:=hid C1
 clear hG C1
 go_enter Tryz.func89,Tryz.ntmps89
 have HT0:Hid (Touch (inG p) w w):=hid (Touch.refl _ _)
 go_wp2_with fail
 refine(HC1.out p _ _ HG.out).mono ?_
 rintro e wm1 ⟨rfl,hG,hT⟩
 have HG1:=hid hG
 have HT1:Hid (Touch (inG p) _ wm1):=hid (HT0.out.trans hT)
 clear hG hT
 go_wp2_with fail
 refine(aL p c _ 16 _ 1 _ HG1.out (by omega) rfl (by omega) (by omega)).mono ?_
 rintro e wm2 ⟨rfl,hG,hT⟩
 have HG2:=hid hG
 have HT2:Hid (Touch (inG p) _ wm2):=hid (HT1.out.trans hT)
 clear hG hT
 go_wp2_with fail
 go_ret
 exact⟨rfl,HG2.out.fO rfl (by dsimp only[St.got,St.set];omega),HT2.out⟩
set_option maxHeartbeats 1000000 in
theorem Ku{r:Int}{b:Bool}(C1:Run c 111 [.int .i64 r] zs d1 zs1 (.tuple #[.int .i64 0,.bool true]))(C2:Run c 17 [.int .i64 r] (zs1.set 16 1) d2 zs2 (.bool b)):Run c 89 [.int .i64 r] zs (d1+1+d2) zs2 (.bool true):=fun p m w hG=>by
 have HG:=hid hG
 have HC1:=hid C1
 have HC2:=hid C2
 clear hG C1 C2
 go_enter Tryz.func89,Tryz.ntmps89
 have HT0:Hid (Touch (inG p) w w):=hid (Touch.refl _ _)
 go_wp2_with fail
 refine(HC1.out p _ _ HG.out).mono ?_
 rintro e wm1 ⟨rfl,hG,hT⟩
 have HG1:=hid hG
 have HT1:Hid (Touch (inG p) _ wm1):=hid (HT0.out.trans hT)
 clear hG hT
 go_wp2_with fail
 refine(aL p c _ 16 _ 1 _ HG1.out (by omega) rfl (by omega) (by omega)).mono ?_
 rintro e wm2 ⟨rfl,hG,hT⟩
 have HG2:=hid hG
 have HT2:Hid (Touch (inG p) _ wm2):=hid (HT1.out.trans hT)
 clear hG hT
 go_wp2_with fail
 refine(HC2.out p _ _ HG2.out).mono ?_
 rintro e wm3 ⟨rfl,hG,hT⟩
 have HG3:=hid hG
 have HT3:Hid (Touch (inG p) _ wm3):=hid (HT2.out.trans hT)
 clear hG hT
 go_wp2_with fail
 go_ret
 exact⟨rfl,HG3.out.fO rfl (by dsimp only[St.got,St.set];omega),HT3.out⟩
set_option maxHeartbeats 1000000 in
theorem MP{r:Int}{b:Bool}(C1:Run c 73 [.int .i64 r] zs d1 zs1 (.bool true))(C2:Run c 74 [.int .i64 r] zs1 d2 zs2 (.bool b)):Run c 16 [.int .i64 r] zs (d1+d2) zs2 (.bool b):=fun p m w hG=>by
 have HG:=hid hG
 have HC1:=hid C1
 have HC2:=hid C2
 clear hG C1 C2
 go_enter Tryz.func16,Tryz.ntmps16
 have HT0:Hid (Touch (inG p) w w):=hid (Touch.refl _ _)
 go_wp2_with fail
 refine(HC1.out p _ _ HG.out).mono ?_
 rintro e wm1 ⟨rfl,hG,hT⟩
 have HG1:=hid hG
 have HT1:Hid (Touch (inG p) _ wm1):=hid (HT0.out.trans hT)
 clear hG hT
 go_wp2_with fail
 refine(HC2.out p _ _ HG1.out).mono ?_
 rintro e wm2 ⟨rfl,hG,hT⟩
 have HG2:=hid hG
 have HT2:Hid (Touch (inG p) _ wm2):=hid (HT1.out.trans hT)
 clear hG hT
 go_wp2_with fail
 go_ret
 exact⟨rfl,HG2.out.fO rfl (by dsimp only;omega),HT2.out⟩
set_option maxHeartbeats 1000000 in
theorem lw_Let{r:Int}{b:Bool}(C1:Run c 73 [.int .i64 r] zs d1 zs1 (.bool true))(C2:Run c 89 [.int .i64 r] zs1 d2 zs2 (.bool b)):Run c 32 [.int .i64 r] zs (d1+d2) zs2 (.bool b):=fun p m w hG=>by
 have HG:=hid hG
 have HC1:=hid C1
 have HC2:=hid C2
 clear hG C1 C2
 go_enter Tryz.func32,Tryz.ntmps32
 have HT0:Hid (Touch (inG p) w w):=hid (Touch.refl _ _)
 go_wp2_with fail
 refine(HC1.out p _ _ HG.out).mono ?_
 rintro e wm1 ⟨rfl,hG,hT⟩
 have HG1:=hid hG
 have HT1:Hid (Touch (inG p) _ wm1):=hid (HT0.out.trans hT)
 clear hG hT
 go_wp2_with fail
 refine(HC2.out p _ _ HG1.out).mono ?_
 rintro e wm2 ⟨rfl,hG,hT⟩
 have HG2:=hid hG
 have HT2:Hid (Touch (inG p) _ wm2):=hid (HT1.out.trans hT)
 clear hG hT
 go_wp2_with fail
 go_ret
 exact⟨rfl,HG2.out.fO rfl (by dsimp only;omega),HT2.out⟩
set_option maxHeartbeats 1000000 in
theorem BX{r i y k:Int}(hk:¬0<k)(C1:Run c 73 [.int .i64 r] zs d1 zs1 (.bool true))(C2:Run c 70 [.int .i64 r,.int .i64 i] zs1 d2 zs2 (.tuple #[.int .i64 y,.int .i64 0]))(C3:Run c 71 [.int .i64 r,.int .i64 i,.int .i64 0] zs2 d3 zs3 (.int .i64 0))(C4:Run c 33 [.int .i64 y] zs3 d4 zs4 (.int .i64 k)):Run c 31 [.int .i64 r,.int .i64 i,.int .i64 0] zs (d1+d2+d3+d4) zs4 (.int .i64 0):=fun p m w hG=>by
 have hkz:¬0<k:=hk
 clear hk
 have HG:=hid hG
 have HC1:=hid C1
 have HC2:=hid C2
 have HC3:=hid C3
 have HC4:=hid C4
 clear hG C1 C2 C3 C4
 go_enter Tryz.func31,Tryz.ntmps31
 have HT0:Hid (Touch (inG p) w w):=hid (Touch.refl _ _)
 go_wp2_with fail
 refine(HC1.out p _ _ HG.out).mono ?_
 rintro e wm1 ⟨rfl,hG,hT⟩
 have HG1:=hid hG
 have HT1:Hid (Touch (inG p) _ wm1):=hid (HT0.out.trans hT)
 clear hG hT
 go_wp2_with fail
 refine(HC2.out p _ _ HG1.out).mono ?_
 rintro e wm2 ⟨rfl,hG,hT⟩
 have HG2:=hid hG
 have HT2:Hid (Touch (inG p) _ wm2):=hid (HT1.out.trans hT)
 clear hG hT
 go_wp2_with fail
 refine(HC3.out p _ _ HG2.out).mono ?_
 rintro e wm3 ⟨rfl,hG,hT⟩
 have HG3:=hid hG
 have HT3:Hid (Touch (inG p) _ wm3):=hid (HT2.out.trans hT)
 clear hG hT
 go_wp2_with fail
 refine(HC4.out p _ _ HG3.out).mono ?_
 rintro e wm4 ⟨rfl,hG,hT⟩
 have HG4:=hid hG
 have HT4:Hid (Touch (inG p) _ wm4):=hid (HT3.out.trans hT)
 clear hG hT
 go_wp2_with fail
 go_ret
 exact⟨rfl,HG4.out.fO rfl (by dsimp only;omega),HT4.out⟩
set_option maxHeartbeats 1000000 in
theorem zJ{r i y k:Int}{b b2:Bool}(hk:0<k)(C1:Run c 73 [.int .i64 r] zs d1 zs1 (.bool true))(C2:Run c 70 [.int .i64 r,.int .i64 i] zs1 d2 zs2 (.tuple #[.int .i64 y,.int .i64 0]))(C3:Run c 71 [.int .i64 r,.int .i64 i,.int .i64 0] zs2 d3 zs3 (.int .i64 0))(C4:Run c 33 [.int .i64 y] zs3 d4 zs4 (.int .i64 k))(C5:Run c 88 [.int .i64 y] zs4 d5 zs5 (.bool b))(C6:Run c 89 [.int .i64 y] zs5 d6 zs6 (.bool b2)):Run c 31 [.int .i64 r,.int .i64 i,.int .i64 0] zs (d1+d2+d3+d4+d5+d6) zs6 (.int .i64 0):=fun p m w hG=>by
 have hkp:0<k:=hk
 clear hk
 have HG:=hid hG
 have HC1:=hid C1
 have HC2:=hid C2
 have HC3:=hid C3
 have HC4:=hid C4
 have HC5:=hid C5
 have HC6:=hid C6
 clear hG C1 C2 C3 C4 C5 C6
 go_enter Tryz.func31,Tryz.ntmps31
 have HT0:Hid (Touch (inG p) w w):=hid (Touch.refl _ _)
 go_wp2_with fail
 refine(HC1.out p _ _ HG.out).mono ?_
 rintro e wm1 ⟨rfl,hG,hT⟩
 have HG1:=hid hG
 have HT1:Hid (Touch (inG p) _ wm1):=hid (HT0.out.trans hT)
 clear hG hT
 go_wp2_with fail
 refine(HC2.out p _ _ HG1.out).mono ?_
 rintro e wm2 ⟨rfl,hG,hT⟩
 have HG2:=hid hG
 have HT2:Hid (Touch (inG p) _ wm2):=hid (HT1.out.trans hT)
 clear hG hT
 go_wp2_with fail
 refine(HC3.out p _ _ HG2.out).mono ?_
 rintro e wm3 ⟨rfl,hG,hT⟩
 have HG3:=hid hG
 have HT3:Hid (Touch (inG p) _ wm3):=hid (HT2.out.trans hT)
 clear hG hT
 go_wp2_with fail
 refine(HC4.out p _ _ HG3.out).mono ?_
 rintro e wm4 ⟨rfl,hG,hT⟩
 have HG4:=hid hG
 have HT4:Hid (Touch (inG p) _ wm4):=hid (HT3.out.trans hT)
 clear hG hT
 go_wp2_with fail
 refine(HC5.out p _ _ HG4.out).mono ?_
 rintro e wm5 ⟨rfl,hG,hT⟩
 have HG5:=hid hG
 have HT5:Hid (Touch (inG p) _ wm5):=hid (HT4.out.trans hT)
 clear hG hT
 go_wp2_with fail
 refine(HC6.out p _ _ HG5.out).mono ?_
 rintro e wm6 ⟨rfl,hG,hT⟩
 have HG6:=hid hG
 have HT6:Hid (Touch (inG p) _ wm6):=hid (HT5.out.trans hT)
 clear hG hT
 go_wp2_with fail
 go_ret
 exact⟨rfl,HG6.out.fO rfl (by dsimp only;omega),HT6.out⟩
set_option maxHeartbeats 1000000 in
theorem Ev{r i x y k:Int}(hx:x≠0)(hk:¬0<k)(C1:Run c 73 [.int .i64 r] zs d1 zs1 (.bool true))(C2:Run c 70 [.int .i64 r,.int .i64 i] zs1 d2 zs2 (.tuple #[.int .i64 y,.int .i64 0]))(C3:Run c 16 [.int .i64 x] zs2 d3 zs3 (.bool true))(C4:Run c 71 [.int .i64 r,.int .i64 i,.int .i64 x] zs3 d4 zs4 (.int .i64 0))(C5:Run c 33 [.int .i64 y] zs4 d5 zs5 (.int .i64 k)):Run c 31 [.int .i64 r,.int .i64 i,.int .i64 x] zs (d1+d2+d3+d4+d5) zs5 (.int .i64 0):=fun p m w hG=>by
 have hxb:(x !=0)=true:=by rw[bne_iff_ne];exact hx
 clear hx
 have hkz:¬0<k:=hk
 clear hk
 have HG:=hid hG
 have HC1:=hid C1
 have HC2:=hid C2
 have HC3:=hid C3
 have HC4:=hid C4
 have HC5:=hid C5
 clear hG C1 C2 C3 C4 C5
 go_enter Tryz.func31,Tryz.ntmps31
 have HT0:Hid (Touch (inG p) w w):=hid (Touch.refl _ _)
 go_wp2_with fail
 refine(HC1.out p _ _ HG.out).mono ?_
 rintro e wm1 ⟨rfl,hG,hT⟩
 have HG1:=hid hG
 have HT1:Hid (Touch (inG p) _ wm1):=hid (HT0.out.trans hT)
 clear hG hT
 go_wp2_with fail
 refine(HC2.out p _ _ HG1.out).mono ?_
 rintro e wm2 ⟨rfl,hG,hT⟩
 have HG2:=hid hG
 have HT2:Hid (Touch (inG p) _ wm2):=hid (HT1.out.trans hT)
 clear hG hT
 go_wp2_with fail
 refine(HC3.out p _ _ HG2.out).mono ?_
 rintro e wm3 ⟨rfl,hG,hT⟩
 have HG3:=hid hG
 have HT3:Hid (Touch (inG p) _ wm3):=hid (HT2.out.trans hT)
 clear hG hT
 go_wp2_with fail
 refine(HC4.out p _ _ HG3.out).mono ?_
 rintro e wm4 ⟨rfl,hG,hT⟩
 have HG4:=hid hG
 have HT4:Hid (Touch (inG p) _ wm4):=hid (HT3.out.trans hT)
 clear hG hT
 go_wp2_with fail
 refine(HC5.out p _ _ HG4.out).mono ?_
 rintro e wm5 ⟨rfl,hG,hT⟩
 have HG5:=hid hG
 have HT5:Hid (Touch (inG p) _ wm5):=hid (HT4.out.trans hT)
 clear hG hT
 go_wp2_with fail
 go_ret
 exact⟨rfl,HG5.out.fO rfl (by dsimp only;omega),HT5.out⟩
set_option maxHeartbeats 1000000 in
theorem BV{r i x y k:Int}{b b2:Bool}(hx:x≠0)(hk:0<k)(C1:Run c 73 [.int .i64 r] zs d1 zs1 (.bool true))(C2:Run c 70 [.int .i64 r,.int .i64 i] zs1 d2 zs2 (.tuple #[.int .i64 y,.int .i64 0]))(C3:Run c 16 [.int .i64 x] zs2 d3 zs3 (.bool true))(C4:Run c 71 [.int .i64 r,.int .i64 i,.int .i64 x] zs3 d4 zs4 (.int .i64 0))(C5:Run c 33 [.int .i64 y] zs4 d5 zs5 (.int .i64 k))(C6:Run c 88 [.int .i64 y] zs5 d6 zs6 (.bool b))(C7:Run c 89 [.int .i64 y] zs6 d7 zs7 (.bool b2)):Run c 31 [.int .i64 r,.int .i64 i,.int .i64 x] zs (d1+d2+d3+d4+d5+d6+d7) zs7 (.int .i64 0):=fun p m w hG=>by
 have hxb:(x !=0)=true:=by rw[bne_iff_ne];exact hx
 clear hx
 have hkp:0<k:=hk
 clear hk
 have HG:=hid hG
 have HC1:=hid C1
 have HC2:=hid C2
 have HC3:=hid C3
 have HC4:=hid C4
 have HC5:=hid C5
 have HC6:=hid C6
 have HC7:=hid C7
 clear hG C1 C2 C3 C4 C5 C6 C7
 go_enter Tryz.func31,Tryz.ntmps31
 have HT0:Hid (Touch (inG p) w w):=hid (Touch.refl _ _)
 go_wp2_with fail
 refine(HC1.out p _ _ HG.out).mono ?_
 rintro e wm1 ⟨rfl,hG,hT⟩
 have HG1:=hid hG
 have HT1:Hid (Touch (inG p) _ wm1):=hid (HT0.out.trans hT)
 clear hG hT
 go_wp2_with fail
 refine(HC2.out p _ _ HG1.out).mono ?_
 rintro e wm2 ⟨rfl,hG,hT⟩
 have HG2:=hid hG
 have HT2:Hid (Touch (inG p) _ wm2):=hid (HT1.out.trans hT)
 clear hG hT
 go_wp2_with fail
 refine(HC3.out p _ _ HG2.out).mono ?_
 rintro e wm3 ⟨rfl,hG,hT⟩
 have HG3:=hid hG
 have HT3:Hid (Touch (inG p) _ wm3):=hid (HT2.out.trans hT)
 clear hG hT
 go_wp2_with fail
 refine(HC4.out p _ _ HG3.out).mono ?_
 rintro e wm4 ⟨rfl,hG,hT⟩
 have HG4:=hid hG
 have HT4:Hid (Touch (inG p) _ wm4):=hid (HT3.out.trans hT)
 clear hG hT
 go_wp2_with fail
 refine(HC5.out p _ _ HG4.out).mono ?_
 rintro e wm5 ⟨rfl,hG,hT⟩
 have HG5:=hid hG
 have HT5:Hid (Touch (inG p) _ wm5):=hid (HT4.out.trans hT)
 clear hG hT
 go_wp2_with fail
 refine(HC6.out p _ _ HG5.out).mono ?_
 rintro e wm6 ⟨rfl,hG,hT⟩
 have HG6:=hid hG
 have HT6:Hid (Touch (inG p) _ wm6):=hid (HT5.out.trans hT)
 clear hG hT
 go_wp2_with fail
 refine(HC7.out p _ _ HG6.out).mono ?_
 rintro e wm7 ⟨rfl,hG,hT⟩
 have HG7:=hid hG
 have HT7:Hid (Touch (inG p) _ wm7):=hid (HT6.out.trans hT)
 clear hG hT
 go_wp2_with fail
 go_ret
 exact⟨rfl,HG7.out.fO rfl (by dsimp only;omega),HT7.out⟩
end
section
variable {c:Cf} {D:Wd} {t u:Th} {r x y:Int} {zs:List Int} {hold:Nat→Nat}
theorem ld_alive(hr:In64 r):Does c D 73 [.int .i64 r] 14 D (.bool (D.aliveB r)):=fun zs hz R=>by
 obtain⟨zs1,⟨d1,hd1,C1⟩,R1,hz1⟩:=(JY (c:=c) (D:=D) hr).at hz R
 cases hf:D.find r with
 |none=>
  rw[hf] at C1
  rw[AR hf]
  exact⟨zs1,⟨d1,by omega,BZ C1⟩,R1⟩
 |some t=>
  rw[hf] at C1
  obtain⟨zs2,⟨d2,hd2,C2⟩,R2,hz2⟩:=(tintFns.dead c D r hr).at hz1 R1
  rw[show D.aliveB r= !D.dead r by unfold Wd.aliveB;rw[hf];rfl]
  exact⟨zs2,⟨d1+d2,by omega,Kt C1 C2⟩,R2⟩
theorem ld_more(hf:D.find r=some t)(hb:t.mr.refs<4294967295):Does c D 74 [.int .i64 r] 22 (D.more r) (.bool true):=fun zs hz R=>by
 have hr:=find64 hz.may R hf
 obtain⟨zs1,⟨d1,hd1,C1⟩,R1,hz1⟩:=(Oe (c:=c) hf hb).at hz R
 obtain⟨zs2,⟨d2,hd2,C2⟩,R2,hz2⟩:=(tintFns.touch c (D.up r) r hr).at hz1 R1
 exact⟨zs2,⟨d1+d2,by omega,MR C1 C2⟩,R2⟩
theorem OW(R:au c zs D)(hz:Wz c zs):au c (zs.set 16 1) D.sus:=by
 refine R.jC hz.may hz.len (k:=16) (by omega) (by omega) rfl rfl rfl rfl rfl rfl rfl rfl (fun j h1 h2 h3=> ?_) R.par
 have:j=10∨j=11∨j=12∨j=13∨j=14∨j=15∨j=17∨j=18:=by omega
 rcases this with rfl|rfl|rfl|rfl|rfl|rfl|rfl|rfl<;>rfl
theorem JK(hf:D.find r=some t):(D.down r).sus.cnt r=t.mr.refs-1:=by
 have:(D.down r).sus.find r=some {t with mr:={t.mr with refs:=t.mr.refs-1}}:=by
  show(D.down r).find r=_
  unfold Wd.down
  rw[find_mark,hf]
  simp[find_at_r hf]
 unfold Wd.cnt
 rw[this]
theorem FY(hf:D.find r=some t)(h0:t.mr.refs≠0)(hp0:0≤D.pending)(hp1:D.pending≤4294900000):Does c D 89 [.int .i64 r] 46 (D.less r) (.bool true):=fun zs hz R=>by
 have hr:=find64 hz.may R hf
 obtain⟨zs1,C1,R1⟩:=zt hz R hf h0
 have hz1:Wz c zs1:=gB.wz hz ⟨3,Nat.le_refl _,C1⟩
 have R2:=OW R1 hz1
 have hz2:Wz c (zs1.set 16 1):=hz1.set _ (by omega) (by omega)
 have hc:=JK hf
 by_cases h1:t.mr.refs-1=0
 ·obtain⟨zs3,⟨d3,hd3,C3⟩,R3,hz3⟩:=(BH (c:=c) (D:=(D.down r).sus) hr hp0 hp1).at hz2 R2
  rw[h1] at C1
  exact⟨zs3,⟨3+1+d3,by omega,Ku C1 C3⟩,R3⟩
 ·have e:D.less r=(D.down r).sus:=by unfold Wd.less Wd.inter;rw[if_neg (by rw[hc];exact h1)]
  rw[e]
  exact⟨_,⟨3+1,by omega,MQ h1 C1⟩,R2⟩
theorem ld_Hold(hf:D.find r=some t)(hd:t.mr.dead=false)(hb:t.mr.refs<4294967295):Does c D 16 [.int .i64 r] 36 (D.more r) (.bool true):=fun zs hz R=>by
 have hr:=find64 hz.may R hf
 obtain⟨zs1,⟨d1,hd1,C1⟩,R1,hz1⟩:=(ld_alive (c:=c) (D:=D) hr).at hz R
 rw[aliveB_some hf,hd] at C1
 obtain⟨zs2,⟨d2,hd2,C2⟩,R2,hz2⟩:=(ld_more (c:=c) hf hb).at hz1 R1
 exact⟨zs2,⟨d1+d2,by omega,MP C1 C2⟩,R2⟩
theorem ld_Let(hf:D.find r=some t)(hd:t.mr.dead=false)(h0:t.mr.refs≠0)(hp0:0≤D.pending)(hp1:D.pending≤4294900000):Does c D 32 [.int .i64 r] 60 (D.less r) (.bool true):=fun zs hz R=>by
 have hr:=find64 hz.may R hf
 obtain⟨zs1,⟨d1,hd1,C1⟩,R1,hz1⟩:=(ld_alive (c:=c) (D:=D) hr).at hz R
 rw[aliveB_some hf,hd] at C1
 obtain⟨zs2,⟨d2,hd2,C2⟩,R2,hz2⟩:=(FY (c:=c) hf h0 hp0 hp1).at hz1 R1
 exact⟨zs2,⟨d1+d2,by omega,lw_Let C1 C2⟩,R2⟩
theorem vz(S:San D)(hf:D.find r=some t)(hd:t.mr.dead=false){i:Nat}(hi:i<t.pt.length)(hx:x=0∨∃u,D.find x=some u):Does c D 71 [.int .i64 r,.int .i64 (i:Int),.int .i64 x] 12 (D.setP r i x) (.int .i64 0):=fun zs hz R=>by
 obtain⟨htl,_⟩:=find_live hf
 have hxb:0≤x∧x≤(c.N:Int):=by
  rcases hx with rfl|⟨u,hu⟩
  ·omega
  ·obtain⟨hul,e⟩:=find_live hu
   have:=R.hlt hul
   omega
 obtain⟨a,ha⟩:=((S.ok t htl).alive hd).field hz.may R.w.symm (S.ok t htl).tC hi
 obtain⟨⟨d,hd,C⟩,R',_⟩:=mO hz R hf hi ha hxb.1 hxb.2
 exact⟨_,⟨d,hd,C⟩,R'⟩
theorem Qx(S:San D)(hz:Wz c zs)(R:au c zs D)(hf:D.find r=some t)(hd:t.mr.dead=false){i:Nat}(hi:i<t.pt.length):In64 (nth t.pt i):=by
 obtain⟨htl,_⟩:=find_live hf
 obtain⟨a,ha⟩:=((S.ok t htl).alive hd).field hz.may R.w.symm (S.ok t htl).tC hi
 have:=(qN hz R (find64 hz.may R hf) hf hi ha).2
 unfold In64
 omega
theorem NQ(q:Int)(hf:D.find q=some t)(x:Int):∃m:Mrk,(D.up x).find q=some {t with mr:=m}∧m.dead=t.mr.dead:=by
 unfold Wd.up
 rw[find_mark,hf]
 by_cases e:t.at x=true
 ·exact⟨{t.mr with refs:=t.mr.refs+1},by simp[e],rfl⟩
 ·exact⟨t.mr,by simp[e],rfl⟩
theorem more_find(q:Int)(hf:D.find q=some t)(x:Int):∃m:Mrk,(D.more x).find q=some {t with mr:=m}∧m.dead=t.mr.dead:=by
 obtain⟨m,h1,h2⟩:=NQ q hf x
 obtain⟨k,h3⟩:=touch_mark q h1 x
 exact⟨_,h3,h2⟩
theorem Il(x:Int):(D.more x).pending=D.pending∧(D.more x).clean=D.clean∧(D.more x).grave=D.grave:=by
 obtain⟨h1,h2,h3,_⟩:=wM (D:=D.up x) x
 exact⟨h3,h1,h2⟩
theorem FZ(h64:In64 y)(hp0:0≤D.pending)(hp1:D.pending≤4294900000)(hz:Wz c zs)(R:au c zs D):
  (¬0<D.cnt y∧D.putY y=D∧∃zs1 d,d≤2∧Run c 33 [.int .i64 y] zs d zs1 (.int .i64 (D.cnt y))∧au c zs1 D)∨
  (0<D.cnt y∧∃zs1 d zs2 d2 b zs3 d3 b2,d+d2+d3≤62∧Run c 33 [.int .i64 y] zs d zs1 (.int .i64 (D.cnt y))∧Run c 88 [.int .i64 y] zs1 d2 zs2 (.bool b)∧Run c 89 [.int .i64 y] zs2 d3 zs3 (.bool b2)∧au c zs3 (D.putY y)):=by
 obtain⟨zs1,⟨d1,hd1,C1⟩,R1,hz1⟩:=(Ei (c:=c) (D:=D) h64).at hz R
 by_cases h:0<D.cnt y
 ·right
  cases hf:D.find y with
  |none=>unfold Wd.cnt at h;rw[hf] at h;simp at h
  |some v=>
   obtain⟨zs2,⟨d2,hd2,C2⟩,R2,hz2⟩:=(tintFns.touch c D y h64).at hz1 R1
   obtain⟨k,hk⟩:=touch_mark y hf y
   have hr:v.mr.refs≠0:=by unfold Wd.cnt at h;rw[hf] at h;simp only at h;omega
   have e:=(wM (D:=D) y).2.2.1
   obtain⟨zs3,⟨d3,hd3,C3⟩,R3,hz3⟩:=(FY (c:=c) hk hr (by rw[e];exact hp0) (by rw[e];exact hp1)).at hz2 R2
   exact⟨h,zs1,d1,zs2,d2,_,zs3,d3,_,by omega,C1,C2,C3,by unfold Wd.putY;rw[if_pos h];exact R3⟩
 ·exact .inl ⟨h,by unfold Wd.putY;rw[if_neg h],zs1,d1,hd1,C1,R1⟩
theorem ld_Put(S:San D)(hf:D.find r=some t)(hd:t.mr.dead=false){i:Nat}(hi:i<t.pt.length)(hx:x=0∨∃u,D.find x=some u∧u.mr.dead=false∧u.mr.refs<4294967295)(hp0:0≤D.pending)(hp1:D.pending≤4294900000):
  Does c D 31 [.int .i64 r,.int .i64 (i:Int),.int .i64 x] 150 (D.put r i x (nth t.pt i)) (.int .i64 0):=fun zs hz R=>by
 have h64:=Qx S hz R hf hd hi
 obtain⟨zs1,⟨d1,hd1,C1⟩,R1,hz1⟩:=(ld_alive (c:=c) (D:=D) (find64 hz.may R hf)).at hz R
 rw[aliveB_some hf,hd] at C1
 obtain⟨zs2,⟨d2,hd2,C2⟩,R2,hz2⟩:=(Ka (c:=c) S hf hd i).at hz1 R1
 rw[if_pos hi] at C2
 by_cases hx0:x=0
 ·subst hx0
  obtain⟨zs3,⟨d3,hd3,C3⟩,R3,hz3⟩:=(vz (c:=c) (x:=0) S hf hd hi (.inl rfl)).at hz2 R2
  have e:D.putS r i 0=D.setP r i 0:=by unfold Wd.putS;rw[if_pos rfl]
  unfold Wd.put
  rw[e]
  rcases FZ (y:=nth t.pt i) h64 (D:=D.setP r i 0) hp0 hp1 hz3 R3 with⟨h0,e2,zs4,d4,hd4,C4,R4⟩|⟨h0,zs4,d4,zs5,d5,b,zs6,d6,b2,hd,C4,C5,C6,R6⟩
  ·rw[e2]
   exact⟨zs4,⟨d1+d2+d3+d4,by omega,BX h0 C1 C2 C3 C4⟩,R4⟩
  ·exact⟨zs6,⟨d1+d2+d3+d4+d5+d6,by omega,zJ h0 C1 C2 C3 C4 C5 C6⟩,R6⟩
 ·obtain⟨u,hu,hud,hub⟩:∃u,D.find x=some u∧u.mr.dead=false∧u.mr.refs<4294967295:=by
   rcases hx with h|h
   ·exact absurd h hx0
   ·exact h
  obtain⟨zs3,⟨d3,hd3,C3⟩,R3,hz3⟩:=(ld_Hold (c:=c) hu hud hub).at hz2 R2
  obtain⟨m,hf1,hm1⟩:=more_find r hf x
  obtain⟨m2,hu1,_⟩:=more_find x hu x
  obtain⟨zs4,⟨d4,hd4,C4⟩,R4,hz4⟩:=(vz (c:=c) (x:=x) (t:={t with mr:=m}) (i:=i) (S.more x) hf1 (hm1.trans hd) hi (.inr ⟨_,hu1⟩)).at hz3 R3
  have e:D.putS r i x=(D.more x).setP r i x:=by unfold Wd.putS;rw[if_neg hx0]
  have ep:=(Il (D:=D) x).1
  unfold Wd.put
  rw[e]
  rcases FZ (y:=nth t.pt i) h64 (D:=(D.more x).setP r i x) (by show 0≤(D.more x).pending;rw[ep];exact hp0) (by show(D.more x).pending≤_;rw[ep];exact hp1) hz4 R4 with⟨h0,e2,zs5,d5,hd5,C5,R5⟩|⟨h0,zs5,d5,zs6,d6,b,zs7,d7,b2,hd,C5,C6,C7,R7⟩
  ·rw[e2]
   exact⟨zs5,⟨d1+d2+d3+d4+d5,by omega,Ev hx0 h0 C1 C2 C3 C4 C5⟩,R5⟩
  ·exact⟨zs7,⟨d1+d2+d3+d4+d5+d6+d7,by omega,BV hx0 h0 C1 C2 C3 C4 C5 C6 C7⟩,R7⟩
end
section
variable {c:Cf} {D:Wd} {t:Th} {zs:List Int} {x y:Int} {w wr:World} {p:Pl}
structure BornOk (D:Wd) (x y:Int) (N:Nat):Prop where
 san:San D→San (D.mkD x y)
 new:D.mkE x y=0→∃t,(D.mkD x y).find (D.mkR x y)=some t∧t.h=D.mkB∧t.mr=Mrk.new
 fresh:D.mkE x y=0→∀t,t∈D.live→t.h≠D.mkB
 lt:D.mkE x y=0→D.mkB<N
theorem RSt.bornOk(h:RSt w p c (D.mkD x y) wr):BornOk D x y c.N:=by
 have hs:San D→San (D.mkD x y):=fun S=>S.mkD h
 obtain⟨zs,m,hG,hR,_⟩:=h
 have key:D.mkE x y=0→(∃t,(D.mkD x y).find (D.mkR x y)=some t∧t.h=D.mkB∧t.mr=Mrk.new)∧(∀t,t∈D.live→t.h≠D.mkB)∧D.mkB<c.N:=fun h0=>by
  have eR:D.mkR x y=(D.mkB:Int)+1:=by unfold Wd.mkR;rw[if_pos h0]
  have eD:D.mkD x y=D.made D.mkB (D.clean.tail.take (D.mkN x y)) (D.clean.tail.drop (D.mkN x y)) x.toNat y.toNat:=by unfold Wd.mkD;rw[if_pos h0]
  rw[eD] at hR ⊢
  rw[eR]
  generalize D.clean.tail.take (D.mkN x y)=ls at*
  generalize D.clean.tail.drop (D.mkN x y)=cl at*
  have hl:=live_made (D:=D) (b:=D.mkB) (ls:=ls) (cl:=cl) (np:=x.toNat) (nd:=y.toNat)
  have hm:(⟨D.mkB,ints ls,zer x.toNat,zer y.toNat,false,Mrk.new⟩:Th)∈(D.made D.mkB ls cl x.toNat y.toNat).live:=by rw[hl];simp
  have hn:=hR.nodup
  rw[hl,List.map_append,List.nodup_append] at hn
  exact⟨⟨_,hR.findIt hm,rfl,rfl⟩,fun t ht=>hn.2.2 t.h (List.mem_map.2 ⟨t,ht,rfl⟩) D.mkB (by simp),hR.hlt hm⟩
 exact⟨hs,fun h0=>(key h0).1,fun h0=>(key h0).2.1,fun h0=>(key h0).2.2⟩
theorem dye_find(q:Int)(hf:D.find q=some t)(r:Int):∃m:Mrk,(D.dye r).find q=some {t with mr:=m}∧m.dead=t.mr.dead∧m.refs=t.mr.refs:=by
 unfold Wd.dye
 rw[find_mark,hf]
 by_cases e:t.at r=true
 ·exact⟨{t.mr with color:=D.parity,count:=D.parity,shade:=D.parity,shadow:=0},by simp[e],rfl,rfl⟩
 ·exact⟨t.mr,by simp[e],rfl,rfl⟩
theorem BornOk.Rn{N:Nat}(B:BornOk D x y N)(S:San D):San (D.born x y):=by
 unfold Wd.born
 split
 ·have S1:San ((D.mkD x y).dye (D.mkR x y)):=(B.san S).mark _ (fun _=>rfl) (fun _=>rfl) (fun _=>rfl)
  exact S1.more _
 ·exact S
set_option maxHeartbeats 2000000 in
theorem Gb(c:Cf)(D:Wd)(x y:Int){wr w:World}{p:Pl}(h:RSt w p c D wr):
  Calls Tryz.prog 30 #[.pointer (some ⟨p.a,0,none⟩),.int .i64 x,.int .i64 y] wr fun e w'=>e=.returned (.tuple #[.int .i64 (D.mkR x y),.int .i64 (D.mkE x y)])∧RSt w p c (D.born x y) w'∧Touch (inG p) wr w'∧BornOk D x y c.N:=by
 have HM:=hid (make_does objFns c D x y h)
 clear h
 by_cases hE:D.mkE x y=0
 ·have hD:D.born x y=((D.mkD x y).dye (D.mkR x y)).more (D.mkR x y):=by unfold Wd.born;rw[if_pos hE]
  have HE:=hid hE
  rw[hE] at HM
  rw[hE,hD]
  clear hE hD
  go_enter Tryz.func30,Tryz.ntmps30
  go_wp2_with fail
  refine HM.out.mono ?_
  rintro e w1 ⟨rfl,h1,hT⟩
  have HBk:=hid h1.bornOk
  have HS1:=hid h1
  have HT1:=hid hT
  obtain⟨t,hf,eh,em⟩:=HBk.out.new HE.out
  have h64:In64 (D.mkR x y):=by
   obtain⟨zs,m,hG,hR,_⟩:=h1
   exact find64 hG.may hR hf
  obtain⟨m,hf2,_,em2⟩:=dye_find (D.mkR x y) hf (D.mkR x y)
  have HDy:=hid ((tintFns.dye c (D.mkD x y) (D.mkR x y) h64).as (vb (show((D.mkD x y).find (D.mkR x y)).isSome=true by rw[hf];rfl)) rfl)
  have HMo:=hid (ld_more (c:=c) hf2 (by show m.refs<_;rw[em2,em];decide))
  clear h1 hT hf hf2
  go_wp2_with fail
  refine(HS1.out.does HDy.out).mono ?_
  rintro e w2 ⟨rfl,h2,hT2⟩
  have HS2:=hid h2
  have HT2:=hid (HT1.out.trans hT2)
  clear h2 hT2
  go_wp2_with fail
  refine(HS2.out.does HMo.out).mono ?_
  rintro e w3 ⟨rfl,h3,hT3⟩
  have HS3:=hid h3
  have HT3:=hid (HT2.out.trans hT3)
  clear h3 hT3
  go_wp2_with fail
  go_ret2
  exact⟨rfl,HS3.out,HT3.out,HBk.out⟩
 ·have hD:D.born x y=D.mkD x y:=by unfold Wd.born Wd.mkD;rw[if_neg hE,if_neg hE]
  have hR:D.mkR x y=0:=by unfold Wd.mkR;rw[if_neg hE]
  have hEb:(D.mkE x y !=0)=true:=by rw[bne_iff_ne];exact hE
  rw[hR] at HM
  rw[hD,hR]
  clear hE hD hR
  go_enter Tryz.func30,Tryz.ntmps30
  go_wp2_with fail
  refine HM.out.mono ?_
  rintro e w1 ⟨rfl,h1,hT⟩
  have HBk:=hid h1.bornOk
  have HS1:=hid h1
  have HT1:=hid hT
  clear h1 hT
  go_wp2_with fail
  go_ret2
  exact⟨rfl,HS1.out,HT1.out,HBk.out⟩
end
theorem San.Rl{D:Wd}{r x y:Int}{i:Nat}{t:Th}(S:San D)(hf:D.find r=some t)(hd:t.mr.dead=false):San (D.put r i x y):=by
 have S1:San (D.putS r i x):=by
  unfold Wd.putS
  split
  ·exact S.setP hf i (fun h=>by rw[hd] at h;cases h)
  ·obtain⟨m,h1,h2⟩:=more_find r hf x
   exact(S.more x).setP h1 i (fun h=>by have:m.dead=true:=h;rw[h2,hd] at this;cases this)
 unfold Wd.put Wd.putY
 split
 ·exact(S1.touch y).less y
 ·exact S1
section
variable {D D':Wd} {r x y:Int} {t s u:Th} {hold hold':Nat→Nat} {k N:Nat}
theorem Ot(x:Int):(D.up x).live.map Th.h=D.live.map Th.h:=bi x _
theorem wL(x:Int):(D.touch x).live.map Th.h=D.live.map Th.h:=by
 rcases gW (D:=D) x with h|h
 ·unfold Wd.live;rw[h]
 ·have:(D.touch x).live=(D.paint x).live:=by unfold Wd.live;rw[h]
  rw[this]
  exact bi x _
theorem qB(x:Int):(D.more x).live.map Th.h=D.live.map Th.h:=(wL x).trans (Ot x)
theorem Mo(x:Int):(D.bury x).live.map Th.h=D.live.map Th.h:=by
 unfold Wd.bury
 cases hf:D.find x with
 |none=>rfl
 |some t=>
  simp only
  split
  ·rfl
  ·unfold Wd.live
   rw[gK]
   exact dh (g:=fun s=>{s with mr:={s.mr with dead:=true,left:=(t.pt.length:Int),leaves:=(t.lv.length:Int)}}) hf (find_at hf).2.1 rfl
theorem vD(x:Int):(D.inter x).live.map Th.h=D.live.map Th.h:=by
 unfold Wd.inter
 split
 ·exact Mo x
 ·rfl
theorem Ga(x:Int):(D.less x).live.map Th.h=D.live.map Th.h:=(vD (D:=(D.down x).sus) x).trans (show(D.down x).sus.live.map Th.h=D.live.map Th.h from bi (D:=D) x (fun m=>{m with refs:=m.refs-1}))
theorem mM(hf:D.find r=some t)(i:Nat)(x:Int):(D.setP r i x).live.map Th.h=D.live.map Th.h:=dh (g:=fun t=>{t with pt:=t.pt.set i x}) hf (find_at hf).2.1 rfl
theorem Eu(x:Int):(D.ah x).live.map Th.h=D.live.map Th.h:=by
 unfold Wd.ah
 split
 ·exact bi x _
 ·rfl
theorem Bt(hf:D.find r=some t)(i:Nat)(x:Int):(D.drain r i x).live.map Th.h=D.live.map Th.h:=by
 have key:∀D2:Wd,D2.live.map Th.h=D.live.map Th.h→((D2.down x).inter x).live.map Th.h=D.live.map Th.h:=fun D2 h=>(vD x).trans ((bi x _).trans h)
 unfold Wd.drain
 by_cases hc:(D.setP r i 0).cnt x=0
 ·rw[if_pos hc];exact mM hf i 0
 ·rw[if_neg hc]
  refine key _ ?_
  split
  ·rw[Eu];exact mM hf i 0
  ·exact mM hf i 0
theorem Pw(hf:D.find r=some t)(i:Nat)(x y:Int):(D.put r i x y).live.map Th.h=D.live.map Th.h:=by
 have h1:(D.putS r i x).live.map Th.h=D.live.map Th.h:=by
  unfold Wd.putS
  split
  ·exact mM hf i x
  ·obtain⟨m,h1,_⟩:=more_find r hf x
   exact(mM h1 i x).trans (qB x)
 unfold Wd.put Wd.putY
 split
 ·exact(Ga y).trans ((wL y).trans h1)
 ·exact h1
theorem cz.setP(P:cz x D)(S:San D)(hf:D.find r=some t)(i:Nat)(z:Int):cz x (D.setP r i z):=fun s hs hd hx=>by
 rcases aQ (g:=fun t=>{t with pt:=t.pt.set i z}) S.nd hf hs with rfl|⟨h,_⟩
 ·exact P t (find_live hf).1 hd hx
 ·exact P s h hd hx
theorem cz.ah(P:cz x D)(S:San D)(z:Int):cz x (D.ah z):=by
 unfold Wd.ah
 split
 ·exact P.mark S z (fun _=>rfl) (fun _ h=>h)
 ·exact P
theorem cz.drain(P:cz 0 D)(N:dX hold D)(S:San D)(hf:D.find r=some t){i:Nat}(hi:i<t.pt.length):cz 0 (D.drain r i (nth t.pt i)):=by
 have N1:=N.clear S hf hi
 have S1:=S.setP hf i (x:=0) (fun _=>rfl)
 have P1:=P.setP S hf i 0
 generalize nth t.pt i=x at N1
 unfold Wd.drain
 by_cases hc:(D.setP r i 0).cnt x=0
 ·rw[if_pos hc];exact P1
 ·rw[if_neg hc]
  have key:∀D2:Wd,San D2→uh hold x D2→cz 0 D2→cz 0 ((D2.down x).inter x):=fun D2 S2 N2 P2=>(P2.down S2 x).inter (N2.down S2) (S2.down x)
  have K:San (if(D.setP r i 0).counted r i then(D.setP r i 0).ah x else D.setP r i 0)∧uh hold x (if(D.setP r i 0).counted r i then(D.setP r i 0).ah x else D.setP r i 0)∧cz 0 (if(D.setP r i 0).counted r i then(D.setP r i 0).ah x else D.setP r i 0):=by
   split
   ·refine⟨S1.ah x,?_,P1.ah S1 x⟩
    unfold Wd.ah
    split
    ·exact N1.mark S1 x (fun _=>rfl) (fun _=>rfl)
    ·exact N1
   ·exact⟨S1,N1,P1⟩
  exact key _ K.1 K.2.1 K.2.2
theorem Le(P:cz 0 D)(N:dX hold D)(S:San D):cz 0 D.step∧∀s,s∈D.live→(∃s',s'∈D.step.live∧s'.h=s.h)∨s.mr.dead=true:=by
 cases hg:D.grave with
 |nil=>rw[show D.step=D by unfold Wd.step;rw[hg]];exact⟨P,fun s hs=>.inl ⟨s,hs,rfl⟩⟩
 |cons q rest=>
  obtain⟨t,htl,e,hf,hd,d,es⟩:=S.head hg
  have hw:=S.w
  rw[es]
  unfold Wd.work
  by_cases ha:D.ahead t.mr.leaves<t.mr.left
  ·have h0:0≤D.ahead t.mr.leaves:=by
    unfold Wd.ahead
    refine Int.mul_nonneg ?_ (by omega)
    split<;>omega
   rw[if_pos ha]
   have hi:(t.mr.left-1).toNat<t.pt.length:=by have:=d.f1;omega
   exact⟨(P.drain N S hf hi).mark (S.drain hf _ _) _ (fun _=>rfl) (fun _ h=>h),fun s hs=>.inl (aB ((bi _ _).trans (Bt hf _ _)) hs)⟩
  ·rw[if_neg ha]
   by_cases hl:0<t.mr.leaves
   ·rw[if_pos hl]
    have ets:({(D.gF (q:Int) (t.mr.leaves-1).toNat (nth t.lv (t.mr.leaves-1).toNat).toNat).mark (q:Int) (fun m=>{m with leaves:=t.mr.leaves-1}) with pending:=D.pending-1}:Wd).ts=bE (q:Int) (fun s=>{s with lv:=s.lv.set (t.mr.leaves-1).toNat (-1),mr:={s.mr with leaves:=t.mr.leaves-1}}) D.ts:=fV _ _ _ _
    refine⟨fun s hs hds hx=> ?_,fun s hs=>.inl (aB ?_ hs)⟩
    ·unfold Wd.live at hs
     rw[ets] at hs
     rcases aQ (g:=fun s=>{s with lv:=s.lv.set (t.mr.leaves-1).toNat (-1),mr:={s.mr with leaves:=t.mr.leaves-1}}) S.nd hf hs with rfl|⟨h,_⟩
     ·have hds:t.mr.dead=false:=hds
      rw[hd] at hds
      cases hds
     ·exact P s h hds hx
    ·unfold Wd.live
     rw[ets]
     exact dh (g:=fun s=>{s with lv:=s.lv.set (t.mr.leaves-1).toNat (-1),mr:={s.mr with leaves:=t.mr.leaves-1}}) hf (find_at hf).2.1 rfl
   ·rw[if_neg hl]
    have hlive:({({D with grave:=rest}:Wd).gH (q:Int) t.h with pending:=D.pending-1}:Wd).live=D.live.filter (fun s=>s.h !=t.h):=dn (g:=fun s=>{s with ended:=true}) (fun _=>rfl) S.nd hf
    refine⟨fun s hs hds hx=> ?_,fun s hs=> ?_⟩
    ·rw[hlive] at hs
     exact P s (List.mem_filter.1 hs).1 hds hx
    ·by_cases e2:s.h=t.h
     ·right
      rw[S.same hs htl e2]
      exact hd
     ·exact .inl ⟨s,by rw[hlive];exact List.mem_filter.2 ⟨hs,by simpa using e2⟩,rfl⟩
structure fP (hold:Nat→Nat) (k:Nat) (D:Wd):Prop where
 san:San D
 nam:dX hold D
 pos:cz 0 D
 bd:∀h,hold h≤k
 out:∀h:Nat,(∀t,t∈D.live→t.h≠h)→hold h=0
theorem fP.new(n:Nat){w:Nat}(h:16≤w):fP (fun _=>0) 0 (Wd.new n w):=⟨San.new n h,(nG.new n h).nam,fun t ht=>absurd ht (by simp[Wd.live,Wd.new,aJ]),fun _=>Nat.le_refl _,fun _ _=>rfl⟩
theorem fP.mono{k2:Nat}(I:fP hold k D)(h:k≤k2):fP hold k2 D:=⟨I.san,I.nam,I.pos,fun a=>Nat.le_trans (I.bd a) h,I.out⟩
theorem fP.step(I:fP hold k D):fP hold k D.step:=by
 obtain⟨h1,h2⟩:=Le I.pos I.nam I.san
 refine⟨I.san.step,I.nam.step I.san,h1,I.bd,fun h hn=> ?_⟩
 by_cases e:∀t,t∈D.live→t.h≠h
 ·exact I.out h e
 ·have:∃t,t∈D.live∧t.h=h:=by
   apply Classical.byContradiction
   intro hc
   exact e (fun t ht e2=>hc ⟨t,ht,e2⟩)
  obtain⟨t,ht,rfl⟩:=this
  rcases h2 t ht with⟨s,hs,e2⟩|hd
  ·exact absurd e2 (hn s hs)
  ·have h3:=I.nam.zer t ht hd
   have h4:=I.nam.cnt t ht
   omega
theorem si(I:fP hold k D)(h:D'.live.map Th.h=D.live.map Th.h):∀b:Nat,(∀t,t∈D'.live→t.h≠b)→hold b=0:=fun b hb=>I.out b (fun t ht e=>by
 obtain⟨s,h1,h2⟩:=aB h ht
 exact hb s h1 (by omega))
theorem fP.up(I:fP hold k D)(hf:D.find r=some t)(hd:t.mr.dead=false)(hh:∀h:Nat,hold' h=hold h+if(h:Int)+1=r then 1 else 0):fP hold' (k+1) (D.more r):=by
 have N1:=I.nam.Rq I.san hf hd hh
 have S1:=I.san.up r
 refine⟨I.san.more r,N1.touch S1 r,(I.pos.up I.nam I.san r).touch S1 r,fun h=> ?_,fun h hn=> ?_⟩
 ·rw[hh]
  have:=I.bd h
  split<;>omega
 ·rw[hh]
  obtain⟨htl,e⟩:=find_live hf
  have h1:=si I (qB r) h hn
  rw[h1,if_neg (fun e2=> ?_)]
  obtain⟨s,a1,a2⟩:=aB (qB (D:=D) r) htl
  exact hn s a1 (by omega)
theorem fP.let(I:fP hold k D)(hh:∀h:Nat,hold h=hold' h+if(h:Int)+1=r then 1 else 0):fP hold' k (D.less r):=by
 refine⟨I.san.less r,I.nam.less I.san hh,I.pos.less I.san (I.nam.JH I.san hh),fun h=> ?_,fun h hn=> ?_⟩
 ·have:=I.bd h
  rw[hh] at this
  omega
 ·have:=si I (Ga r) h hn
  rw[hh] at this
  omega
theorem fP.put(I:fP hold k D)(hf:D.find r=some t)(hd:t.mr.dead=false){i:Nat}(hi:i<t.pt.length)(hx:x=0∨∃u,D.find x=some u∧u.mr.dead=false):fP hold k (D.put r i x (nth t.pt i)):=by
 -- the holds in between: one more of x, then one more of what the field held.
 have key:∃h2:Nat→Nat,(∀h:Nat,h2 h=hold h+if(h:Int)+1=nth t.pt i then 1 else 0)∧San (D.putS r i x)∧dX h2 (D.putS r i x)∧cz 0 (D.putS r i x):=by
  refine⟨fun h=>hold h+if(h:Int)+1=nth t.pt i then 1 else 0,fun _=>rfl,?_⟩
  unfold Wd.putS
  by_cases hx0:x=0
  ·rw[if_pos hx0]
   exact⟨I.san.setP hf i (fun h=>by rw[hd] at h;cases h),I.nam.setH I.san hf hi (.inl hx0) (fun h=>by show hold h+(if(h:Int)+1=nth t.pt i then 1 else 0)+(if(h:Int)+1=x then 1 else 0)=hold h+(if(h:Int)+1=nth t.pt i then 1 else 0);rw[if_neg (show ¬(h:Int)+1=x by omega)];rfl),I.pos.setP I.san hf i x⟩
  ·rw[if_neg hx0]
   obtain⟨u,hu,hud⟩:∃u,D.find x=some u∧u.mr.dead=false:=by
    rcases hx with h|h
    ·exact absurd h hx0
    ·exact h
   have I1:=I.up (hold':=fun h=>hold h+if(h:Int)+1=x then 1 else 0) hu hud (fun _=>rfl)
   obtain⟨m,hf1,hm1⟩:=more_find r hf x
   obtain⟨m2,hu1,_⟩:=more_find x hu x
   exact⟨I1.san.setP hf1 i (fun h=>by have h:m.dead=true:=h;rw[hm1,hd] at h;cases h),I1.nam.setH I1.san hf1 (i:=i) hi (.inr ⟨_,hu1⟩) (fun h=>by show hold h+(if(h:Int)+1=nth t.pt i then 1 else 0)+(if(h:Int)+1=x then 1 else 0)=hold h+(if(h:Int)+1=x then 1 else 0)+(if(h:Int)+1=nth t.pt i then 1 else 0);omega),I1.pos.setP I1.san hf1 i x⟩
 obtain⟨h2,e2,S2,N2,P2⟩:=key
 have hgood:=I.nam.good t (find_live hf).1 i hi
 have hlh:=Pw hf i x (nth t.pt i)
 have hout:=si I hlh
 unfold Wd.put at hout ⊢
 unfold Wd.putY at hout ⊢
 by_cases hc:0<(D.putS r i x).cnt (nth t.pt i)
 ·rw[if_pos hc] at hout ⊢
  have S3:=S2.touch (nth t.pt i)
  have N3:=N2.touch S2 (nth t.pt i)
  have P3:=P2.touch S2 (nth t.pt i)
  exact⟨S3.less _,N3.less S3 e2,P3.less S3 (N3.JH S3 e2),I.bd,hout⟩
 ·rw[if_neg hc] at hout ⊢
  have hz:∀h:Nat,(h:Int)+1≠nth t.pt i:=fun h e=>by
   rcases hgood with h0|⟨u,hu,hu2⟩
   ·omega
   ·have hl1:(D.putS r i x).live.map Th.h=D.live.map Th.h:=by
     unfold Wd.putS
     split
     ·exact mM hf i x
     ·obtain⟨m,h1,_⟩:=more_find r hf x
      exact(mM h1 i x).trans (qB x)
    obtain⟨u',a1,a2⟩:=aB hl1 hu
    have h3:=N2.cnt u' a1
    rw[e2,if_pos (by omega)] at h3
    have h4:=S2.findIt a1
    unfold Wd.cnt at hc
    rw[←hu2,←a2,h4] at hc
    simp only at hc
    omega
  have e3:h2=hold:=funext (fun h=>by rw[e2,if_neg (hz h)];rfl)
  rw[e3] at N2
  exact⟨S2,N2,P2,I.bd,hout⟩
theorem fP.born(I:fP hold k D)(B:BornOk D x y N)(hE:D.mkE x y=0)(hh:∀h:Nat,hold' h=hold h+if h=D.mkB then 1 else 0):fP hold' (k+1) (D.born x y):=by
 have eR:D.mkR x y=(D.mkB:Int)+1:=by unfold Wd.mkR;rw[if_pos hE]
 obtain⟨t,hf,et,em⟩:=B.new hE
 have hfr:=B.fresh hE
 have S1:=B.san I.san
 have eD:D.mkD x y=D.made D.mkB (D.clean.tail.take (D.mkN x y)) (D.clean.tail.drop (D.mkN x y)) x.toNat y.toNat:=by unfold Wd.mkD;rw[if_pos hE]
 have h0:hold D.mkB=0:=I.out _ hfr
 have N1:dX hold (D.mkD x y):=by rw[eD];exact I.nam.made h0 hfr
 have hl:(D.mkD x y).live.map Th.h=D.live.map Th.h++[D.mkB]:=by rw[eD,live_made,List.map_append];rfl
 have P1:cz ((D.mkB:Int)+1) (D.mkD x y):=fun s hs hd hx=>by
  rw[eD,live_made] at hs
  rcases List.mem_append.1 hs with h|h
  ·exact I.pos s h hd (by omega)
  ·obtain rfl:=List.mem_singleton.1 h
   exact absurd rfl hx
 obtain⟨m,hf2,hm1,hm2⟩:=dye_find (D.mkR x y) hf (D.mkR x y)
 have S2:San ((D.mkD x y).dye (D.mkR x y)):=S1.mark _ (fun _=>rfl) (fun _=>rfl) (fun _=>rfl)
 have N2:dX hold ((D.mkD x y).dye (D.mkR x y)):=N1.mark S1 _ (fun _=>rfl) (fun _=>rfl)
 have P2:cz (D.mkR x y) ((D.mkD x y).dye (D.mkR x y)):=by rw[eR];exact P1.mark S1 _ (fun _=>rfl) (fun _ h=>h)
 have hdead:m.dead=false:=by rw[hm1,em];rfl
 have N3:dX hold' (((D.mkD x y).dye (D.mkR x y)).up (D.mkR x y)):=N2.Rq S2 hf2 hdead (fun h=>by
  rw[hh]
  congr 1
  by_cases e:h=D.mkB
  ·rw[if_pos e,if_pos (by rw[eR,e])]
  ·rw[if_neg e,if_neg (by rw[eR];omega)])
 have S3:=S2.up (D.mkR x y)
 have eB:D.born x y=((D.mkD x y).dye (D.mkR x y)).more (D.mkR x y):=by unfold Wd.born;rw[if_pos hE]
 have hlB:(D.born x y).live.map Th.h=D.live.map Th.h++[D.mkB]:=by rw[eB,qB];exact(bi _ _).trans hl
 refine⟨by rw[eB];exact S2.more _,by rw[eB];exact N3.touch S3 _,by rw[eB];exact(P2.RA N2 S2).touch S3 _,fun h=> ?_,fun h hn=> ?_⟩
 ·rw[hh]
  have:=I.bd h
  split<;>omega
 ·have hnm:h∉(D.born x y).live.map Th.h:=fun hm=>by
   obtain⟨s,a1,a2⟩:=List.mem_map.1 hm
   exact hn s a1 a2
  rw[hlB] at hnm
  simp only[List.mem_append,List.mem_singleton,not_or] at hnm
  rw[hh,if_neg hnm.2,I.out h (fun t ht e=>hnm.1 (List.mem_map.2 ⟨t,ht,e⟩))]
end
section
variable {c:Cf} {zs zs1 zs2 zs3 zs4 zs5 zs6 zs7 zs8:List Int} {d1 d2 d3 d4 d5 d6 d7 d8:Nat}
set_option maxHeartbeats 1000000 in
theorem CL{r f n n2:Int}(hn:¬f<n)(C1:Run c 110 [.int .i64 r] zs d1 zs1 (.tuple #[.int .i64 n,.int .i64 n2,.int .i64 0])):Run c 52 [.int .i64 r,.int .i64 f] zs (d1) zs1 (.bool false):=fun p m w hG=>by
 have hle:n≤f:=by omega
 have hnf:¬f<n:=hn
 clear hn
 have HG:=hid hG
 have HC1:=hid C1
 clear hG C1
 go_enter Tryz.func52,Tryz.ntmps52
 have HT0:Hid (Touch (inG p) w w):=hid (Touch.refl _ _)
 go_wp2_with fail
 refine(HC1.out p _ _ HG.out).mono ?_
 rintro e wm1 ⟨rfl,hG,hT⟩
 have HG1:=hid hG
 have HT1:Hid (Touch (inG p) _ wm1):=hid (HT0.out.trans hT)
 clear hG hT
 go_wp2_with fail
 go_ret
 exact⟨rfl,HG1.out,HT1.out⟩
set_option maxHeartbeats 1000000 in
theorem xC{r f n n2 x e e2:Int}(hn:f<n)(C1:Run c 110 [.int .i64 r] zs d1 zs1 (.tuple #[.int .i64 n,.int .i64 n2,.int .i64 0]))(C2:Run c 70 [.int .i64 r,.int .i64 f] zs1 d2 zs2 (.tuple #[.int .i64 x,.int .i64 e]))(C3:Run c 71 [.int .i64 r,.int .i64 f,.int .i64 0] zs2 d3 zs3 (.int .i64 e2))(C4:Run c 111 [.int .i64 x] zs3 d4 zs4 (.tuple #[.int .i64 0,.bool false])):Run c 52 [.int .i64 r,.int .i64 f] zs (d1+d2+d3+d4) zs4 (.bool true):=fun p m w hG=>by
 have hle:¬n≤f:=by omega
 have hnf:f<n:=hn
 clear hn
 have HG:=hid hG
 have HC1:=hid C1
 have HC2:=hid C2
 have HC3:=hid C3
 have HC4:=hid C4
 clear hG C1 C2 C3 C4
 go_enter Tryz.func52,Tryz.ntmps52
 have HT0:Hid (Touch (inG p) w w):=hid (Touch.refl _ _)
 go_wp2_with fail
 refine(HC1.out p _ _ HG.out).mono ?_
 rintro e wm1 ⟨rfl,hG,hT⟩
 have HG1:=hid hG
 have HT1:Hid (Touch (inG p) _ wm1):=hid (HT0.out.trans hT)
 clear hG hT
 go_wp2_with fail
 refine(HC2.out p _ _ HG1.out).mono ?_
 rintro e wm2 ⟨rfl,hG,hT⟩
 have HG2:=hid hG
 have HT2:Hid (Touch (inG p) _ wm2):=hid (HT1.out.trans hT)
 clear hG hT
 go_wp2_with fail
 refine(HC3.out p _ _ HG2.out).mono ?_
 rintro e wm3 ⟨rfl,hG,hT⟩
 have HG3:=hid hG
 have HT3:Hid (Touch (inG p) _ wm3):=hid (HT2.out.trans hT)
 clear hG hT
 go_wp2_with fail
 refine(HC4.out p _ _ HG3.out).mono ?_
 rintro e wm4 ⟨rfl,hG,hT⟩
 have HG4:=hid hG
 have HT4:Hid (Touch (inG p) _ wm4):=hid (HT3.out.trans hT)
 clear hG hT
 go_wp2_with fail
 go_ret
 exact⟨rfl,HG4.out.fO rfl (by dsimp only;omega),HT4.out⟩
set_option maxHeartbeats 1000000 in
theorem xB{r f n n2 x e e2 k:Int}(hn:f<n)(hk:k≠0)(C1:Run c 110 [.int .i64 r] zs d1 zs1 (.tuple #[.int .i64 n,.int .i64 n2,.int .i64 0]))(C2:Run c 70 [.int .i64 r,.int .i64 f] zs1 d2 zs2 (.tuple #[.int .i64 x,.int .i64 e]))(C3:Run c 71 [.int .i64 r,.int .i64 f,.int .i64 0] zs2 d3 zs3 (.int .i64 e2))(C4:Run c 111 [.int .i64 x] zs3 d4 zs4 (.tuple #[.int .i64 k,.bool true])):Run c 52 [.int .i64 r,.int .i64 f] zs (d1+d2+d3+d4) zs4 (.bool true):=fun p m w hG=>by
 have hle:¬n≤f:=by omega
 have hnf:f<n:=hn
 clear hn
 have hkb:(k==0)=false:=by rw[beq_eq_false_iff_ne];exact hk
 clear hk
 have HG:=hid hG
 have HC1:=hid C1
 have HC2:=hid C2
 have HC3:=hid C3
 have HC4:=hid C4
 clear hG C1 C2 C3 C4
 go_enter Tryz.func52,Tryz.ntmps52
 have HT0:Hid (Touch (inG p) w w):=hid (Touch.refl _ _)
 go_wp2_with fail
 refine(HC1.out p _ _ HG.out).mono ?_
 rintro e wm1 ⟨rfl,hG,hT⟩
 have HG1:=hid hG
 have HT1:Hid (Touch (inG p) _ wm1):=hid (HT0.out.trans hT)
 clear hG hT
 go_wp2_with fail
 refine(HC2.out p _ _ HG1.out).mono ?_
 rintro e wm2 ⟨rfl,hG,hT⟩
 have HG2:=hid hG
 have HT2:Hid (Touch (inG p) _ wm2):=hid (HT1.out.trans hT)
 clear hG hT
 go_wp2_with fail
 refine(HC3.out p _ _ HG2.out).mono ?_
 rintro e wm3 ⟨rfl,hG,hT⟩
 have HG3:=hid hG
 have HT3:Hid (Touch (inG p) _ wm3):=hid (HT2.out.trans hT)
 clear hG hT
 go_wp2_with fail
 refine(HC4.out p _ _ HG3.out).mono ?_
 rintro e wm4 ⟨rfl,hG,hT⟩
 have HG4:=hid hG
 have HT4:Hid (Touch (inG p) _ wm4):=hid (HT3.out.trans hT)
 clear hG hT
 go_wp2_with fail
 go_ret
 exact⟨rfl,HG4.out.fO rfl (by dsimp only;omega),HT4.out⟩
set_option maxHeartbeats 1000000 in
theorem xA{r f n n2 x e e2:Int}{b:Bool}(hn:f<n)(C1:Run c 110 [.int .i64 r] zs d1 zs1 (.tuple #[.int .i64 n,.int .i64 n2,.int .i64 0]))(C2:Run c 70 [.int .i64 r,.int .i64 f] zs1 d2 zs2 (.tuple #[.int .i64 x,.int .i64 e]))(C3:Run c 71 [.int .i64 r,.int .i64 f,.int .i64 0] zs2 d3 zs3 (.int .i64 e2))(C4:Run c 111 [.int .i64 x] zs3 d4 zs4 (.tuple #[.int .i64 0,.bool true]))(C5:Run c 17 [.int .i64 x] zs4 d5 zs5 (.bool b)):Run c 52 [.int .i64 r,.int .i64 f] zs (d1+d2+d3+d4+d5) zs5 (.bool true):=fun p m w hG=>by
 have hle:¬n≤f:=by omega
 have hnf:f<n:=hn
 clear hn
 have HG:=hid hG
 have HC1:=hid C1
 have HC2:=hid C2
 have HC3:=hid C3
 have HC4:=hid C4
 have HC5:=hid C5
 clear hG C1 C2 C3 C4 C5
 go_enter Tryz.func52,Tryz.ntmps52
 have HT0:Hid (Touch (inG p) w w):=hid (Touch.refl _ _)
 go_wp2_with fail
 refine(HC1.out p _ _ HG.out).mono ?_
 rintro e wm1 ⟨rfl,hG,hT⟩
 have HG1:=hid hG
 have HT1:Hid (Touch (inG p) _ wm1):=hid (HT0.out.trans hT)
 clear hG hT
 go_wp2_with fail
 refine(HC2.out p _ _ HG1.out).mono ?_
 rintro e wm2 ⟨rfl,hG,hT⟩
 have HG2:=hid hG
 have HT2:Hid (Touch (inG p) _ wm2):=hid (HT1.out.trans hT)
 clear hG hT
 go_wp2_with fail
 refine(HC3.out p _ _ HG2.out).mono ?_
 rintro e wm3 ⟨rfl,hG,hT⟩
 have HG3:=hid hG
 have HT3:Hid (Touch (inG p) _ wm3):=hid (HT2.out.trans hT)
 clear hG hT
 go_wp2_with fail
 refine(HC4.out p _ _ HG3.out).mono ?_
 rintro e wm4 ⟨rfl,hG,hT⟩
 have HG4:=hid hG
 have HT4:Hid (Touch (inG p) _ wm4):=hid (HT3.out.trans hT)
 clear hG hT
 go_wp2_with fail
 refine(HC5.out p _ _ HG4.out).mono ?_
 rintro e wm5 ⟨rfl,hG,hT⟩
 have HG5:=hid hG
 have HT5:Hid (Touch (inG p) _ wm5):=hid (HT4.out.trans hT)
 clear hG hT
 go_wp2_with fail
 go_ret
 exact⟨rfl,HG5.out.fO rfl (by dsimp only;omega),HT5.out⟩
set_option maxHeartbeats 1000000 in
theorem xz{k f v:Int}(hv:v≠3)(C1:Run c 47 [] zs d1 zs1 (.tuple #[.int .i64 k,.int .i64 f]))(C2:Run c 48 [] zs1 d2 zs2 (.int .i64 v)):Run c 12 [] zs (d1+d2) zs2 (.bool false):=fun p m w hG=>by
 have hvb:(v !=3)=true:=by rw[bne_iff_ne];exact hv
 clear hv
 have HG:=hid hG
 have HC1:=hid C1
 have HC2:=hid C2
 clear hG C1 C2
 go_enter Tryz.func12,Tryz.ntmps12
 have HT0:Hid (Touch (inG p) w w):=hid (Touch.refl _ _)
 go_wp2_with fail
 refine(HC1.out p _ _ HG.out).mono ?_
 rintro e wm1 ⟨rfl,hG,hT⟩
 have HG1:=hid hG
 have HT1:Hid (Touch (inG p) _ wm1):=hid (HT0.out.trans hT)
 clear hG hT
 go_wp2_with fail
 refine(HC2.out p _ _ HG1.out).mono ?_
 rintro e wm2 ⟨rfl,hG,hT⟩
 have HG2:=hid hG
 have HT2:Hid (Touch (inG p) _ wm2):=hid (HT1.out.trans hT)
 clear hG hT
 go_wp2_with fail
 go_ret
 exact⟨rfl,HG2.out.fO rfl (by dsimp only;omega),HT2.out⟩
set_option maxHeartbeats 1000000 in
theorem CK{k f:Int}(hk:(c.N:Int)≤k)(C1:Run c 47 [] zs d1 zs1 (.tuple #[.int .i64 k,.int .i64 f]))(C2:Run c 48 [] zs1 d2 zs2 (.int .i64 3)):Run c 12 [] zs (d1+d2) zs2 (.bool false):=fun p m w hG=>by
 have hfc:=dK (c.N:Int) (c.W:Int) (c.R:Int) (c.K:Int)
 have hkn:(c.N:Int)≤k:=hk
 clear hk
 have HG:=hid hG
 have HC1:=hid C1
 have HC2:=hid C2
 clear hG C1 C2
 go_enter Tryz.func12,Tryz.ntmps12
 have HT0:Hid (Touch (inG p) w w):=hid (Touch.refl _ _)
 go_wp2_with fail
 refine(HC1.out p _ _ HG.out).mono ?_
 rintro e wm1 ⟨rfl,hG,hT⟩
 have HG1:=hid hG
 have HT1:Hid (Touch (inG p) _ wm1):=hid (HT0.out.trans hT)
 clear hG hT
 go_wp2_with fail
 refine(HC2.out p _ _ HG1.out).mono ?_
 rintro e wm2 ⟨rfl,hG,hT⟩
 have HG2:=hid hG
 have HT2:Hid (Touch (inG p) _ wm2):=hid (HT1.out.trans hT)
 clear hG hT
 go_wp2_with fail
 refine(dE p c _ _ HG2.out).mono ?_
 rintro e wm3 ⟨rfl,hb⟩
 have HG3:=hid (HG2.out.later hb)
 have HT3:Hid (Touch (inG p) _ wm3):=hid (HT2.out.trans (Touch.of_below hb))
 clear hb
 go_wp2_with fail
 go_ret
 exact⟨rfl,HG3.out.fO rfl (by dsimp only;omega),HT3.out⟩
set_option maxHeartbeats 1000000 in
theorem Aa{k f:Int}{b:Bool}(h0:0≤k)(hk:k<(c.N:Int))(hm:c.May)(C1:Run c 47 [] zs d1 zs1 (.tuple #[.int .i64 k,.int .i64 f]))(C2:Run c 48 [] zs1 d2 zs2 (.int .i64 3))(C3:Run c 49 [.int .i64 (k+1)] zs2 d3 zs3 (.bool false))(C4:Run c 53 [.int .i64 (k+1),.int .i64 0] zs3 d4 zs4 (.bool b)):Run c 12 [] zs (d1+d2+d3+d4) zs4 (.bool b):=fun p m w hG=>by
 have hfc:=dK (c.N:Int) (c.W:Int) (c.R:Int) (c.K:Int)
 have hmn:=hm.n
 have hkn:¬(c.N:Int)≤k:=by omega
 have hw1:IntKind.i64.wrap (k+1)=k+1:=IntWalk.i64_in _ (by omega)
 clear hm hmn
 have HG:=hid hG
 have HC1:=hid C1
 have HC2:=hid C2
 have HC3:=hid C3
 have HC4:=hid C4
 clear hG C1 C2 C3 C4
 go_enter Tryz.func12,Tryz.ntmps12
 have HT0:Hid (Touch (inG p) w w):=hid (Touch.refl _ _)
 go_wp2_with fail
 refine(HC1.out p _ _ HG.out).mono ?_
 rintro e wm1 ⟨rfl,hG,hT⟩
 have HG1:=hid hG
 have HT1:Hid (Touch (inG p) _ wm1):=hid (HT0.out.trans hT)
 clear hG hT
 go_wp2_with fail
 refine(HC2.out p _ _ HG1.out).mono ?_
 rintro e wm2 ⟨rfl,hG,hT⟩
 have HG2:=hid hG
 have HT2:Hid (Touch (inG p) _ wm2):=hid (HT1.out.trans hT)
 clear hG hT
 go_wp2_with fail
 refine(dE p c _ _ HG2.out).mono ?_
 rintro e wm3 ⟨rfl,hb⟩
 have HG3:=hid (HG2.out.later hb)
 have HT3:Hid (Touch (inG p) _ wm3):=hid (HT2.out.trans (Touch.of_below hb))
 clear hb
 go_wp2_with fail
 refine(HC3.out p _ _ HG3.out).mono ?_
 rintro e wm4 ⟨rfl,hG,hT⟩
 have HG4:=hid hG
 have HT4:Hid (Touch (inG p) _ wm4):=hid (HT3.out.trans hT)
 clear hG hT
 go_wp2_with fail
 refine(HC4.out p _ _ HG4.out).mono ?_
 rintro e wm5 ⟨rfl,hG,hT⟩
 have HG5:=hid hG
 have HT5:Hid (Touch (inG p) _ wm5):=hid (HT4.out.trans hT)
 clear hG hT
 go_wp2_with fail
 go_ret
 exact⟨rfl,HG5.out.fO rfl (by dsimp only;omega),HT5.out⟩
set_option maxHeartbeats 1000000 in
theorem zY{k f:Int}{b:Bool}(h0:0≤k)(hk:k<(c.N:Int))(hm:c.May)(C1:Run c 47 [] zs d1 zs1 (.tuple #[.int .i64 k,.int .i64 f]))(C2:Run c 48 [] zs1 d2 zs2 (.int .i64 3))(C3:Run c 49 [.int .i64 (k+1)] zs2 d3 zs3 (.bool true))(C4:Run c 50 [.int .i64 (k+1)] zs3 d4 zs4 (.bool true))(C5:Run c 53 [.int .i64 (k+1),.int .i64 0] zs4 d5 zs5 (.bool b)):Run c 12 [] zs (d1+d2+d3+d4+d5) zs5 (.bool b):=fun p m w hG=>by
 have hfc:=dK (c.N:Int) (c.W:Int) (c.R:Int) (c.K:Int)
 have hmn:=hm.n
 have hkn:¬(c.N:Int)≤k:=by omega
 have hw1:IntKind.i64.wrap (k+1)=k+1:=IntWalk.i64_in _ (by omega)
 clear hm hmn
 have HG:=hid hG
 have HC1:=hid C1
 have HC2:=hid C2
 have HC3:=hid C3
 have HC4:=hid C4
 have HC5:=hid C5
 clear hG C1 C2 C3 C4 C5
 go_enter Tryz.func12,Tryz.ntmps12
 have HT0:Hid (Touch (inG p) w w):=hid (Touch.refl _ _)
 go_wp2_with fail
 refine(HC1.out p _ _ HG.out).mono ?_
 rintro e wm1 ⟨rfl,hG,hT⟩
 have HG1:=hid hG
 have HT1:Hid (Touch (inG p) _ wm1):=hid (HT0.out.trans hT)
 clear hG hT
 go_wp2_with fail
 refine(HC2.out p _ _ HG1.out).mono ?_
 rintro e wm2 ⟨rfl,hG,hT⟩
 have HG2:=hid hG
 have HT2:Hid (Touch (inG p) _ wm2):=hid (HT1.out.trans hT)
 clear hG hT
 go_wp2_with fail
 refine(dE p c _ _ HG2.out).mono ?_
 rintro e wm3 ⟨rfl,hb⟩
 have HG3:=hid (HG2.out.later hb)
 have HT3:Hid (Touch (inG p) _ wm3):=hid (HT2.out.trans (Touch.of_below hb))
 clear hb
 go_wp2_with fail
 refine(HC3.out p _ _ HG3.out).mono ?_
 rintro e wm4 ⟨rfl,hG,hT⟩
 have HG4:=hid hG
 have HT4:Hid (Touch (inG p) _ wm4):=hid (HT3.out.trans hT)
 clear hG hT
 go_wp2_with fail
 refine(HC4.out p _ _ HG4.out).mono ?_
 rintro e wm5 ⟨rfl,hG,hT⟩
 have HG5:=hid hG
 have HT5:Hid (Touch (inG p) _ wm5):=hid (HT4.out.trans hT)
 clear hG hT
 go_wp2_with fail
 refine(HC5.out p _ _ HG5.out).mono ?_
 rintro e wm6 ⟨rfl,hG,hT⟩
 have HG6:=hid hG
 have HT6:Hid (Touch (inG p) _ wm6):=hid (HT5.out.trans hT)
 clear hG hT
 go_wp2_with fail
 go_ret
 exact⟨rfl,HG6.out.fO rfl (by dsimp only;omega),HT6.out⟩
set_option maxHeartbeats 1000000 in
theorem xy{k f:Int}{b:Bool}(h0:0≤k)(hk:k<(c.N:Int))(hm:c.May)(C1:Run c 47 [] zs d1 zs1 (.tuple #[.int .i64 k,.int .i64 f]))(C2:Run c 48 [] zs1 d2 zs2 (.int .i64 3))(C3:Run c 49 [.int .i64 (k+1)] zs2 d3 zs3 (.bool true))(C4:Run c 50 [.int .i64 (k+1)] zs3 d4 zs4 (.bool false))(C5:Run c 51 [.int .i64 (k+1)] zs4 d5 zs5 (.bool true))(C6:Run c 53 [.int .i64 (k+1),.int .i64 0] zs5 d6 zs6 (.bool b)):Run c 12 [] zs (d1+d2+d3+d4+d5+d6) zs6 (.bool b):=fun p m w hG=>by
 have hfc:=dK (c.N:Int) (c.W:Int) (c.R:Int) (c.K:Int)
 have hmn:=hm.n
 have hkn:¬(c.N:Int)≤k:=by omega
 have hw1:IntKind.i64.wrap (k+1)=k+1:=IntWalk.i64_in _ (by omega)
 clear hm hmn
 have HG:=hid hG
 have HC1:=hid C1
 have HC2:=hid C2
 have HC3:=hid C3
 have HC4:=hid C4
 have HC5:=hid C5
 have HC6:=hid C6
 clear hG C1 C2 C3 C4 C5 C6
 go_enter Tryz.func12,Tryz.ntmps12
 have HT0:Hid (Touch (inG p) w w):=hid (Touch.refl _ _)
 go_wp2_with fail
 refine(HC1.out p _ _ HG.out).mono ?_
 rintro e wm1 ⟨rfl,hG,hT⟩
 have HG1:=hid hG
 have HT1:Hid (Touch (inG p) _ wm1):=hid (HT0.out.trans hT)
 clear hG hT
 go_wp2_with fail
 refine(HC2.out p _ _ HG1.out).mono ?_
 rintro e wm2 ⟨rfl,hG,hT⟩
 have HG2:=hid hG
 have HT2:Hid (Touch (inG p) _ wm2):=hid (HT1.out.trans hT)
 clear hG hT
 go_wp2_with fail
 refine(dE p c _ _ HG2.out).mono ?_
 rintro e wm3 ⟨rfl,hb⟩
 have HG3:=hid (HG2.out.later hb)
 have HT3:Hid (Touch (inG p) _ wm3):=hid (HT2.out.trans (Touch.of_below hb))
 clear hb
 go_wp2_with fail
 refine(HC3.out p _ _ HG3.out).mono ?_
 rintro e wm4 ⟨rfl,hG,hT⟩
 have HG4:=hid hG
 have HT4:Hid (Touch (inG p) _ wm4):=hid (HT3.out.trans hT)
 clear hG hT
 go_wp2_with fail
 refine(HC4.out p _ _ HG4.out).mono ?_
 rintro e wm5 ⟨rfl,hG,hT⟩
 have HG5:=hid hG
 have HT5:Hid (Touch (inG p) _ wm5):=hid (HT4.out.trans hT)
 clear hG hT
 go_wp2_with fail
 refine(HC5.out p _ _ HG5.out).mono ?_
 rintro e wm6 ⟨rfl,hG,hT⟩
 have HG6:=hid hG
 have HT6:Hid (Touch (inG p) _ wm6):=hid (HT5.out.trans hT)
 clear hG hT
 go_wp2_with fail
 refine(HC6.out p _ _ HG6.out).mono ?_
 rintro e wm7 ⟨rfl,hG,hT⟩
 have HG7:=hid hG
 have HT7:Hid (Touch (inG p) _ wm7):=hid (HT6.out.trans hT)
 clear hG hT
 go_wp2_with fail
 go_ret
 exact⟨rfl,HG7.out.fO rfl (by dsimp only;omega),HT7.out⟩
set_option maxHeartbeats 1000000 in
theorem zZ{k f:Int}{b b2:Bool}(h0:0≤k)(hk:k<(c.N:Int))(hm:c.May)(C1:Run c 47 [] zs d1 zs1 (.tuple #[.int .i64 k,.int .i64 f]))(C2:Run c 48 [] zs1 d2 zs2 (.int .i64 3))(C3:Run c 49 [.int .i64 (k+1)] zs2 d3 zs3 (.bool true))(C4:Run c 50 [.int .i64 (k+1)] zs3 d4 zs4 (.bool false))(C5:Run c 51 [.int .i64 (k+1)] zs4 d5 zs5 (.bool false))(C6:Run c 52 [.int .i64 (k+1),.int .i64 f] zs5 d6 zs6 (.bool false))(C7:Run c 54 [.int .i64 (k+1)] zs6 d7 zs7 (.bool b2))(C8:Run c 53 [.int .i64 (k+1),.int .i64 0] zs7 d8 zs8 (.bool b)):Run c 12 [] zs (d1+d2+d3+d4+d5+d6+d7+d8) zs8 (.bool b):=fun p m w hG=>by
 have hfc:=dK (c.N:Int) (c.W:Int) (c.R:Int) (c.K:Int)
 have hmn:=hm.n
 have hkn:¬(c.N:Int)≤k:=by omega
 have hw1:IntKind.i64.wrap (k+1)=k+1:=IntWalk.i64_in _ (by omega)
 clear hm hmn
 have HG:=hid hG
 have HC1:=hid C1
 have HC2:=hid C2
 have HC3:=hid C3
 have HC4:=hid C4
 have HC5:=hid C5
 have HC6:=hid C6
 have HC7:=hid C7
 have HC8:=hid C8
 clear hG C1 C2 C3 C4 C5 C6 C7 C8
 go_enter Tryz.func12,Tryz.ntmps12
 have HT0:Hid (Touch (inG p) w w):=hid (Touch.refl _ _)
 go_wp2_with fail
 refine(HC1.out p _ _ HG.out).mono ?_
 rintro e wm1 ⟨rfl,hG,hT⟩
 have HG1:=hid hG
 have HT1:Hid (Touch (inG p) _ wm1):=hid (HT0.out.trans hT)
 clear hG hT
 go_wp2_with fail
 refine(HC2.out p _ _ HG1.out).mono ?_
 rintro e wm2 ⟨rfl,hG,hT⟩
 have HG2:=hid hG
 have HT2:Hid (Touch (inG p) _ wm2):=hid (HT1.out.trans hT)
 clear hG hT
 go_wp2_with fail
 refine(dE p c _ _ HG2.out).mono ?_
 rintro e wm3 ⟨rfl,hb⟩
 have HG3:=hid (HG2.out.later hb)
 have HT3:Hid (Touch (inG p) _ wm3):=hid (HT2.out.trans (Touch.of_below hb))
 clear hb
 go_wp2_with fail
 refine(HC3.out p _ _ HG3.out).mono ?_
 rintro e wm4 ⟨rfl,hG,hT⟩
 have HG4:=hid hG
 have HT4:Hid (Touch (inG p) _ wm4):=hid (HT3.out.trans hT)
 clear hG hT
 go_wp2_with fail
 refine(HC4.out p _ _ HG4.out).mono ?_
 rintro e wm5 ⟨rfl,hG,hT⟩
 have HG5:=hid hG
 have HT5:Hid (Touch (inG p) _ wm5):=hid (HT4.out.trans hT)
 clear hG hT
 go_wp2_with fail
 refine(HC5.out p _ _ HG5.out).mono ?_
 rintro e wm6 ⟨rfl,hG,hT⟩
 have HG6:=hid hG
 have HT6:Hid (Touch (inG p) _ wm6):=hid (HT5.out.trans hT)
 clear hG hT
 go_wp2_with fail
 refine(HC6.out p _ _ HG6.out).mono ?_
 rintro e wm7 ⟨rfl,hG,hT⟩
 have HG7:=hid hG
 have HT7:Hid (Touch (inG p) _ wm7):=hid (HT6.out.trans hT)
 clear hG hT
 go_wp2_with fail
 refine(HC7.out p _ _ HG7.out).mono ?_
 rintro e wm8 ⟨rfl,hG,hT⟩
 have HG8:=hid hG
 have HT8:Hid (Touch (inG p) _ wm8):=hid (HT7.out.trans hT)
 clear hG hT
 go_wp2_with fail
 refine(HC8.out p _ _ HG8.out).mono ?_
 rintro e wm9 ⟨rfl,hG,hT⟩
 have HG9:=hid hG
 have HT9:Hid (Touch (inG p) _ wm9):=hid (HT8.out.trans hT)
 clear hG hT
 go_wp2_with fail
 go_ret
 exact⟨rfl,HG9.out.fO rfl (by dsimp only;omega),HT9.out⟩
set_option maxHeartbeats 1000000 in
theorem EO{k f:Int}{b:Bool}(hf0:0≤f)(hf1:f≤4294967295)(h0:0≤k)(hk:k<(c.N:Int))(hm:c.May)(C1:Run c 47 [] zs d1 zs1 (.tuple #[.int .i64 k,.int .i64 f]))(C2:Run c 48 [] zs1 d2 zs2 (.int .i64 3))(C3:Run c 49 [.int .i64 (k+1)] zs2 d3 zs3 (.bool true))(C4:Run c 50 [.int .i64 (k+1)] zs3 d4 zs4 (.bool false))(C5:Run c 51 [.int .i64 (k+1)] zs4 d5 zs5 (.bool false))(C6:Run c 52 [.int .i64 (k+1),.int .i64 f] zs5 d6 zs6 (.bool true))(C7:Run c 53 [.int .i64 k,.int .i64 (f+1)] zs6 d7 zs7 (.bool b)):Run c 12 [] zs (d1+d2+d3+d4+d5+d6+d7) zs7 (.bool b):=fun p m w hG=>by
 have hfc:=dK (c.N:Int) (c.W:Int) (c.R:Int) (c.K:Int)
 have hmn:=hm.n
 have hkn:¬(c.N:Int)≤k:=by omega
 have hw1:IntKind.i64.wrap (k+1)=k+1:=IntWalk.i64_in _ (by omega)
 have hw2:IntKind.i64.wrap (f+1)=f+1:=IntWalk.i64_in _ (by omega)
 clear hm hmn hf0 hf1
 have HG:=hid hG
 have HC1:=hid C1
 have HC2:=hid C2
 have HC3:=hid C3
 have HC4:=hid C4
 have HC5:=hid C5
 have HC6:=hid C6
 have HC7:=hid C7
 clear hG C1 C2 C3 C4 C5 C6 C7
 go_enter Tryz.func12,Tryz.ntmps12
 have HT0:Hid (Touch (inG p) w w):=hid (Touch.refl _ _)
 go_wp2_with fail
 refine(HC1.out p _ _ HG.out).mono ?_
 rintro e wm1 ⟨rfl,hG,hT⟩
 have HG1:=hid hG
 have HT1:Hid (Touch (inG p) _ wm1):=hid (HT0.out.trans hT)
 clear hG hT
 go_wp2_with fail
 refine(HC2.out p _ _ HG1.out).mono ?_
 rintro e wm2 ⟨rfl,hG,hT⟩
 have HG2:=hid hG
 have HT2:Hid (Touch (inG p) _ wm2):=hid (HT1.out.trans hT)
 clear hG hT
 go_wp2_with fail
 refine(dE p c _ _ HG2.out).mono ?_
 rintro e wm3 ⟨rfl,hb⟩
 have HG3:=hid (HG2.out.later hb)
 have HT3:Hid (Touch (inG p) _ wm3):=hid (HT2.out.trans (Touch.of_below hb))
 clear hb
 go_wp2_with fail
 refine(HC3.out p _ _ HG3.out).mono ?_
 rintro e wm4 ⟨rfl,hG,hT⟩
 have HG4:=hid hG
 have HT4:Hid (Touch (inG p) _ wm4):=hid (HT3.out.trans hT)
 clear hG hT
 go_wp2_with fail
 refine(HC4.out p _ _ HG4.out).mono ?_
 rintro e wm5 ⟨rfl,hG,hT⟩
 have HG5:=hid hG
 have HT5:Hid (Touch (inG p) _ wm5):=hid (HT4.out.trans hT)
 clear hG hT
 go_wp2_with fail
 refine(HC5.out p _ _ HG5.out).mono ?_
 rintro e wm6 ⟨rfl,hG,hT⟩
 have HG6:=hid hG
 have HT6:Hid (Touch (inG p) _ wm6):=hid (HT5.out.trans hT)
 clear hG hT
 go_wp2_with fail
 refine(HC6.out p _ _ HG6.out).mono ?_
 rintro e wm7 ⟨rfl,hG,hT⟩
 have HG7:=hid hG
 have HT7:Hid (Touch (inG p) _ wm7):=hid (HT6.out.trans hT)
 clear hG hT
 go_wp2_with fail
 refine(HC7.out p _ _ HG7.out).mono ?_
 rintro e wm8 ⟨rfl,hG,hT⟩
 have HG8:=hid hG
 have HT8:Hid (Touch (inG p) _ wm8):=hid (HT7.out.trans hT)
 clear hG hT
 go_wp2_with fail
 go_ret
 exact⟨rfl,HG8.out.fO rfl (by dsimp only;omega),HT8.out⟩
end
end Go.Proofs.YtjmifnljckmimaaGreat.Pk
