/-
  Texts laid together: RefG7, RefX.
-/
import Derived.Test.YtjmifnljckmimaaGreatRefG3Etc
import Derived.Test.YtjmifnljckmimaaGreatRefMkEtc
namespace Go.Proofs.YtjmifnljckmimaaGreat.Pk
open Lib (hid)
open Go.RowKit
set_option linter.unusedVariables false
set_option linter.unusedSimpArgs false
set_option maxRecDepth 100000
def Wd.iC:Nat→Wd→Wd
 |0,D=>D
 |n+1,D=>if D.grave.isEmpty then D else if D.gives then D.step else Wd.iC n D.step
def Wd.ji:Nat→Wd→Bool
 |0,_=>false
 |n+1,D=>if D.grave.isEmpty then false else if D.gives then true else Wd.ji n D.step
def Ends:Nat→Wd→Prop
 |0,D=>D.grave=[]
 |n+1,D=>D.grave=[]∨D.gives=true∨Ends n D.step
theorem EO(P:Nat→World→Prop):∃μ:World→Nat,∀wr n,P n wr→P (μ wr) wr∧μ wr≤n:=by
 have h:∀wr,∃m,∀n,P n wr→P m wr∧m≤n:=fun wr=>by
  by_cases hx:∃n,P n wr
  ·obtain⟨n,hn⟩:=hx
   induction n using Nat.strongRecOn with
   |ind n ih=>
    by_cases hy:∃k,k<n∧P k wr
    ·obtain⟨k,hk,hp⟩:=hy
     exact ih k hk hp
    ·exact⟨n,fun k hk=>⟨hn,by
      by_cases hlt:k<n
      ·exact absurd ⟨k,hlt,hk⟩ hy
      ·omega⟩⟩
  ·exact⟨0,fun n hn=>absurd ⟨n,hn⟩ hx⟩
 exact⟨fun wr=>Classical.choose (h wr),fun wr=>Classical.choose_spec (h wr)⟩
section
variable {w w':World} {lo q:Nat} {lab:Nat→Nat} {a:WA} {D D':Wd} {i:Nat} {t t' u:Th} {x:TA} {n v b:Nat} {cl:List Nat} {ts:List Th}
structure Stp (P:Wd→Prop):Prop where
 wb:∀D,P D→WB D
 san:∀D,P D→San D
 w1:∀D,P D→D.w≤256
 pt:∀D,P D→∀t,t∈D.live→t.pt.length≤1000000
 step:∀D,P D→P D.step
theorem bT.stepW(h:bT w lo q D){P:Wd→Prop}(K:Stp P)(hP:P D):Calls Tryz.prog 44 #[.pointer (some ⟨q,0,none⟩)] w (dW w lo q D.step (.tuple #[.bool (!D.grave.isEmpty),.bool D.gives])):=by
 obtain⟨lab,a,rfl,k⟩:=h
 exact UK k (K.wb D hP) (K.san D hP) (K.w1 D hP) (K.pt D hP)
theorem bT.c12(h:bT w lo q D):∃ga gc,w.cell? ⟨q,12,none⟩=some (.slice ga D.grave.length gc):=by
 obtain⟨lab,a,rfl,k⟩:=h
 exact⟨_,_,k.c12⟩
set_option maxHeartbeats 1000000 in
theorem MX(h:bT w lo q D){P:Wd→Prop}(K:Stp P)(hP:P D)(hE:Ends n D):
  Calls Tryz.prog 46 #[.pointer (some ⟨q,0,none⟩)] w (dW w lo q (D.iC n) (.bool (D.ji n))):=by
 obtain⟨μ,hμ⟩:=EO (fun m wr=>∃D',bT wr lo q D'∧P D'∧Ends m D'∧D'.iC m=D.iC n∧D'.ji m=D.ji n∧Touch (fun b=>lo≤b) w wr)
 have HM:=hid hμ
 have H0:Hid (∃D',bT w lo q D'∧P D'∧Ends n D'∧D'.iC n=D.iC n∧D'.ji n=D.ji n∧Touch (fun b=>lo≤b) w w):=hid ⟨D,h,hP,hE,rfl,rfl,Touch.refl _ _⟩
 have HK:=hid K
 clear h hP hE hμ K
 go_enter Tryz.func46,Tryz.ntmps46
 go_wp2_with fail
 go_loopw [2] (fun s wr=>s=.bool false∧∃m,∃D',bT wr lo q D'∧P D'∧Ends m D'∧D'.iC m=D.iC n∧D'.ji m=D.ji n∧Touch (fun b=>lo≤b) w wr) (fun _ wr=>μ wr)
 case atStart=>exact⟨rfl,n,H0.out⟩
 case round=>
  obtain⟨rfl,m0,hm0⟩:=hrel
  obtain⟨⟨D',hW,hP,hE,e1,e2,hT⟩,_⟩:=HM.out wr m0 hm0
  clear hm0
  obtain⟨ga,gc,c12⟩:=hW.c12
  have HW:=hid hW
  have HP:=hid hP
  have HT:=hid hT
  cases hg:D'.grave with
  |nil=>
   have E:Hid (D'=D.iC n∧false=D.ji n):=hid (by
    rw[←e1,←e2]
    cases hmm:μ wr with
    |zero=>exact⟨rfl,rfl⟩
    |succ m=>unfold Wd.iC Wd.ji;rw[hg];exact⟨rfl,rfl⟩)
   rw[hg] at c12
   clear hW hP hE e1 e2 hT hg
   go_wp2_with fail
   go_ret
   exact⟨by rw[←E.out.2];rfl,by rw[←E.out.1];exact HW.out,HT.out⟩
  |cons g rest=>
   have hne:D'.grave.isEmpty=false:=by rw[hg];rfl
   obtain⟨m,hmm⟩:∃m,μ wr=m+1:=by
    cases hmm:μ wr with
    |zero=>rw[hmm] at hE;exact absurd (show D'.grave=[] from hE) (by rw[hg];simp)
    |succ m=>exact⟨m,rfl⟩
   rw[hmm] at hE e1 e2
   have hl0:(0:Int)<((g::rest).length:Int):=by simp only[List.length_cons];omega
   have rU:=hW.stepW HK.out hP
   rw[hne] at rU
   rw[hg] at c12
   cases hgv:D'.gives with
   |true=>
    rw[hgv] at rU
    have rU:=hid rU
    have E:Hid (D'.step=D.iC n∧true=D.ji n):=hid (by
     rw[←e1,←e2]
     unfold Wd.iC Wd.ji
     rw[hne,hgv]
     exact⟨rfl,rfl⟩)
    clear hW hP hE e1 e2 hT hg hmm hgv hne
    go_wp2_with fail
    refine rU.out.mono ?_
    rintro e w3 ⟨rfl,k1,k2⟩
    have H3:=hid k1
    have T3:=hid (HT.out.trans k2)
    clear k1 k2
    go_wp2_with fail
    go_ret
    exact⟨by rw[←E.out.2];rfl,by rw[←E.out.1];exact H3.out,T3.out⟩
   |false=>
    rw[hgv] at rU
    have rU:=hid rU
    have E:Hid (Ends m D'.step∧D'.step.iC m=D.iC n∧D'.step.ji m=D.ji n):=hid (by
     rw[←e1,←e2]
     refine⟨?_,?_,?_⟩
     ·rcases hE with hE|hE|hE
      ·rw[hg] at hE;cases hE
      ·rw[hgv] at hE;cases hE
      ·exact hE
     ·conv=>rhs;unfold Wd.iC
      rw[hne,hgv]
      rfl
     ·conv=>rhs;unfold Wd.ji
      rw[hne,hgv]
      rfl)
    have HMm:=hid hmm
    clear hW hP hE e1 e2 hT hg hmm hgv hne
    go_wp2_with fail
    refine rU.out.mono ?_
    rintro e w3 ⟨rfl,k1,k2⟩
    have HN:Hid (∃D',bT w3 lo q D'∧P D'∧Ends m D'∧D'.iC m=D.iC n∧D'.ji m=D.ji n∧Touch (fun b=>lo≤b) w w3):=hid ⟨_,k1,HK.out.step _ HP.out,E.out.1,E.out.2.1,E.out.2.2,HT.out.trans k2⟩
    clear k1 k2
    go_wp2_with fail
    go_roundw
    case rel=>exact⟨rfl,m,HN.out⟩
    case measure=>have h1:=(HM.out w3 m HN.out).2;have h2:=HMm.out;omega
theorem Ij(r:Int):((D.nQ r).up r).aU r=false:=by
 unfold Wd.aU
 have e1:((D.nQ r).up r).find r=((D.find r).map (fun t=>if t.at r then {t with mr:={t.mr with color:=D.parity,count:=D.parity,shade:=D.parity,shadow:=0}} else t)).map (fun t=>if t.at r then {t with mr:={t.mr with refs:=t.mr.refs+1}} else t):=by
  unfold Wd.up
  rw[bG]
  unfold Wd.nQ
  rw[bG]
 rw[e1]
 cases hf:D.find r with
 |none=>rfl
 |some t=>
  have hat:=eQ hf
  have hat2:({t with mr:={t.mr with color:=D.parity,count:=D.parity,shade:=D.parity,shadow:=0}}:Th).at r=true:=hat
  simp only[Option.map_some,hat,if_true,hat2]
  show(!decide (((D.nQ r).up r).phase=0)&& !t.mr.dead&& !decide (D.parity=((D.nQ r).up r).parity))=false
  have:((D.nQ r).up r).parity=D.parity:=rfl
  rw[this]
  simp
theorem NM(r:Int):(D.nQ r).more r=(D.nQ r).up r:=by
 unfold Wd.more
 exact fZ (Ij r)
theorem bT.Xa(h:bT w lo q D){r:Int}(hf:D.find r=some t)(h0:0≤t.mr.refs)(h1:t.mr.refs<4294967295):Calls Tryz.prog 99 #[.pointer (some ⟨q,0,none⟩),.int .i64 r] w (dW w lo q (D.up r) (.tuple #[.int .i64 (t.mr.refs+1),.bool true])):=by
 obtain⟨lab,a,rfl,k⟩:=h
 refine(We k hf h0 h1).mono ?_
 rintro e w' ⟨rfl,k1,k2⟩
 exact⟨rfl,k1.nE rfl,k2⟩
theorem bT.Vk(h:bT w lo q D)(r:Int):Calls Tryz.prog 98 #[.pointer (some ⟨q,0,none⟩),.int .i64 r] w (dW w lo q (D.nQ r) (.bool (D.find r).isSome)):=by
 obtain⟨lab,a,rfl,k⟩:=h
 exact VW k r
theorem UD(h:bT w lo q D)(x y:Int)(hc:D.clean.length≤8000)(hts:D.ts.length≤8000)(hb:D.wD<1000000)(hn:D.kQ x y=0→∃t,(D.kG x y).find (D.jO x y)=some t∧t.mr.refs=0):
  Calls Tryz.prog 40 #[.pointer (some ⟨q,0,none⟩),.int .i64 x,.int .i64 y] w (dW w lo q (D.born x y) (.tuple #[.int .i64 (D.jO x y),.int .i64 (D.kQ x y)])):=by
 have HM:=UH x y h hc hts hb
 by_cases hE:D.kQ x y=0
 ·obtain⟨t,hf,h0⟩:=hn hE
  have E:Hid (D.born x y=((D.kG x y).nQ (D.jO x y)).up (D.jO x y)):=hid (by unfold Wd.born;rw[if_pos hE,NM])
  have hf2:((D.kG x y).nQ (D.jO x y)).find (D.jO x y)=some {t with mr:={t.mr with color:=(D.kG x y).parity,count:=(D.kG x y).parity,shade:=(D.kG x y).parity,shadow:=0}}:=by
   unfold Wd.nQ
   rw[bG,hf]
   simp[eQ hf]
  rw[hE] at HM ⊢
  have HM:=hid HM
  have HDy:=hid (fun w' (h':bT w' lo q (D.kG x y))=>h'.Vk (D.jO x y))
  have HUp:=hid (fun w' (h':bT w' lo q ((D.kG x y).nQ (D.jO x y)))=>h'.Xa hf2 (by show 0≤t.mr.refs;omega) (by show t.mr.refs<4294967295;omega))
  clear h hf h0 hf2 hE hn
  go_enter Tryz.func40,Tryz.ntmps40
  go_wp2_with fail
  refine HM.out.mono ?_
  rintro e w1 ⟨rfl,k1,k2⟩
  have H1:=hid k1
  have T1:=hid k2
  clear k1 k2
  go_wp2_with fail
  refine(HDy.out _ H1.out).mono ?_
  rintro e w2 ⟨rfl,k1,k2⟩
  have H2:=hid k1
  have T2:=hid (T1.out.trans k2)
  clear k1 k2
  go_wp2_with fail
  refine(HUp.out _ H2.out).mono ?_
  rintro e w3 ⟨rfl,k1,k2⟩
  have H3:=hid k1
  have T3:=hid (T2.out.trans k2)
  clear k1 k2
  go_wp2_with fail
  go_ret2
  exact⟨rfl,by rw[E.out];exact H3.out,T3.out⟩
 ·have hD:D.born x y=D.kG x y:=by unfold Wd.born Wd.kG;rw[if_neg hE,if_neg hE]
  have hR0:D.jO x y=0:=by unfold Wd.jO;rw[if_neg hE]
  rw[hD]
  rw[hR0] at HM ⊢
  have hb:(D.kQ x y==0)=false:=bL hE
  have HM:=hid HM
  generalize D.kQ x y=E at*
  clear h hE hn hD
  go_enter Tryz.func40,Tryz.ntmps40
  go_wp2_with fail
  refine HM.out.mono ?_
  rintro e w1 ⟨rfl,k1,k2⟩
  have H1:=hid k1
  have T1:=hid k2
  clear k1 k2
  go_wp2_with fail
  go_ret2
  exact⟨rfl,H1.out,T1.out⟩
theorem Fa{r s:Int}(f:cz→cz)(hi:D.ix r=some i)(ht:D.ts[i]? =some t):∃m,(D.mark s f).ix r=some i∧(D.mark s f).ts[i]? =some {t with mr:=m}:=by
 cases hs:D.ix s with
 |none=>
  have:D.mark s f=D:=by unfold Wd.mark Wd.upd;rw[yN hs]
  rw[this]
  exact⟨t.mr,hi,ht⟩
 |some j=>
  obtain⟨v,hv,_,_⟩:=lN hs
  rw[wO f hs hv]
  obtain⟨t2,ht2,ha,hn⟩:=lN hi
  rw[ht] at ht2
  cases ht2
  have hil:=(List.getElem?_eq_some_iff.1 ht).1
  have key:∀(l:Nat) (z:Th),(D.ts.set j {v with mr:=f v.mr})[l]? =some z→∃z0,D.ts[l]? =some z0∧∃m,z={z0 with mr:=m}:=fun l z hz=>by
   by_cases e:j=l
   ·subst e
    have hl:=(List.getElem?_eq_some_iff.1 hv).1
    rw[List.getElem?_set_self hl] at hz
    cases hz
    exact⟨v,hv,_,rfl⟩
   ·rw[List.getElem?_set_ne e] at hz
    exact⟨z,hz,z.mr,rfl⟩
  have hil2:i<(D.ts.set j {v with mr:=f v.mr}).length:=by simpa using hil
  obtain⟨z0,hz0,m,hm⟩:=key i _ (List.getElem?_eq_getElem hil2)
  rw[ht] at hz0
  cases hz0
  refine⟨m,?_,by rw[List.getElem?_eq_getElem hil2,hm]⟩
  refine xI (t:={t with mr:=m}) (by rw[List.getElem?_eq_getElem hil2,hm]) ha (fun l z hl hz=> ?_)
  obtain⟨z0,hz0,m,rfl⟩:=key l z hz
  exact hn l z0 hl hz0
theorem KE{r s:Int}(hi:D.ix r=some i)(ht:D.ts[i]? =some t):∃m,(D.more s).ix r=some i∧(D.more s).ts[i]? =some {t with mr:=m}:=by
 obtain⟨m1,h1,h2⟩:=Fa (s:=s) (fun m=>{m with refs:=m.refs+1}) hi ht
 unfold Wd.more
 rcases jJ (D:=D.up s) s with h|h
 ·exact⟨m1,by unfold Wd.ix;rw[h];exact h1,by rw[h];exact h2⟩
 ·obtain⟨m2,h3,h4⟩:=Fa (D:=D.up s) (s:=s) (fun m=>{m with color:=(D.up s).parity}) h1 h2
  exact⟨m2,by unfold Wd.ix;rw[h];exact h3,by rw[h];exact h4⟩
theorem wU{r:Int}(hi:D.ix r=some i)(ht:D.ts[i]? =some t)(k:Nat)(x:Int):D.ay r k x={D with ts:=D.ts.set i {t with pt:=t.pt.set k x}}:=mg hi ht
end
section
variable {w w':World} {lo Bd:Nat} {lab:Nat→Nat} {a:WA} {D D':Wd} {i:Nat} {t t' u:Th} {x:TA} {n v b:Nat} {cl:List Nat} {ts:List Th}
def XW(lo Bd:Nat)(a:WA)(b:Nat):Prop:=b=a.q∨∃x,x∈a.tas∧(b=x.mb∨(x.pa=some ⟨b,0,none⟩∧b<Bd∧lo≤b))
theorem XW.mb(hx:a.tas[i]? =some x):XW lo Bd a x.mb:=.inr ⟨x,List.mem_of_getElem? hx,.inl rfl⟩
theorem XW.pa{g:Nat}(hx:a.tas[i]? =some x)(h:x.pa=some ⟨g,0,none⟩)(hb:g<Bd)(hl:lo≤g):XW lo Bd a g:=.inr ⟨x,List.mem_of_getElem? hx,.inr ⟨h,hb,hl⟩⟩
theorem XW.eq{a':WA}(h1:a'.q=a.q)(h2:a'.tas=a.tas):XW lo Bd a'=XW lo Bd a:=by unfold XW;rw[h1,h2]
theorem sJ(hx:a.tas[i]? =some x)(k:Nat)(u:Value):Touch (XW lo Bd a) w (w.setCell ⟨x.mb,k,none⟩ u):=(Touch.refl _ _).setCell (fun _=>XW.mb hx) u
def Nr(Bd:Nat)(w:World)(lo:Nat)(a:WA)(D':Wd)(v:Value)(e:Ending)(w':World):Prop:=e=.returned v∧(∃lab' a',WA.q a'=a.q∧a'.hb=a.hb∧a'.tas=a.tas∧az w' lo lab' a' D')∧Touch (XW lo Bd a) w w'
def lD(Bd:Nat)(w:World)(lo:Nat)(a:WA)(D':Wd)(v:Value)(e:Ending)(w':World):Prop:=e=.returned v∧bT w' lo a.q D'∧Touch (XW lo Bd a) w w'
theorem Wh(h:az w lo lab a D){r:Int}(hf:D.find r=some t)(h0:0≤t.mr.refs)(h1:t.mr.refs<4294967295):
  Calls Tryz.prog 99 #[.pointer (some ⟨a.q,0,none⟩),.int .i64 r] w fun e w'=>e=.returned (.tuple #[.int .i64 (t.mr.refs+1),.bool true])∧az w' lo lab a (D.up r)∧Touch (XW lo Bd a) w w':=by
 obtain⟨i,x,hi,ht,hx⟩:=h.found hf
 have HC:=hid (aX h hi hx)
 have HR:Hid (az (w.setCell ⟨x.mb,0,none⟩ (.int .i64 (t.mr.refs+1))) lo lab a (D.up r)):=hid (h.kN (f:=fun m=>{m with refs:=m.refs+1}) hi ht hx (k:=0) (u:=.int .i64 (t.mr.refs+1)) rfl)
 have HT:=hid (sJ (lo:=lo) (Bd:=Bd) (w:=w) hx 0 (.int .i64 (t.mr.refs+1)))
 have m0:=h.m0 ht hx
 have fz0:=(h.mb i t x ht hx).1.free 0
 have hne:(t.mr.refs==4294967295)=false:=by rw[beq_eq_false_iff_ne];omega
 have hwr:IntKind.i64.wrap (t.mr.refs+1)=t.mr.refs+1:=IntWalk.i64_in _ (by omega)
 clear h hf hi ht hx
 go_enter Tryz.func99,Tryz.ntmps99
 go_wp2_with fail
 refine HC.out.mono ?_
 rintro e w1 ⟨rfl,rfl⟩
 go_wp2_with fail
 go_ret2
 exact⟨rfl,HR.out,HT.out⟩
theorem Sw(h:az w lo lab a D){r:Int}(hf:D.find r=some t)(h0:0<t.mr.refs)(h1:t.mr.refs≤4294967295):
  Calls Tryz.prog 59 #[.pointer (some ⟨a.q,0,none⟩),.int .i64 r] w fun e w'=>e=.returned (.tuple #[.int .i64 (t.mr.refs-1),.bool true])∧az w' lo lab a (D.down r)∧Touch (XW lo Bd a) w w':=by
 obtain⟨i,x,hi,ht,hx⟩:=h.found hf
 have HC:=hid (aX h hi hx)
 have HR:Hid (az (w.setCell ⟨x.mb,0,none⟩ (.int .i64 (t.mr.refs-1))) lo lab a (D.down r)):=hid (h.kN (f:=fun m=>{m with refs:=m.refs-1}) hi ht hx (k:=0) (u:=.int .i64 (t.mr.refs-1)) rfl)
 have HT:=hid (sJ (lo:=lo) (Bd:=Bd) (w:=w) hx 0 (.int .i64 (t.mr.refs-1)))
 have m0:=h.m0 ht hx
 have fz0:=(h.mb i t x ht hx).1.free 0
 have hne:(t.mr.refs==0)=false:=by rw[beq_eq_false_iff_ne];omega
 have hwr:IntKind.i64.wrap (t.mr.refs-1)=t.mr.refs-1:=IntWalk.i64_in _ (by omega)
 clear h hf hi ht hx
 go_enter Tryz.func59,Tryz.ntmps59
 go_wp2_with fail
 refine HC.out.mono ?_
 rintro e w1 ⟨rfl,rfl⟩
 go_wp2_with fail
 go_ret2
 exact⟨rfl,HR.out,HT.out⟩
theorem JN(h:az w lo lab a D){r:Int}(hn:D.gU r=false)(h0:D.cnt r=0):
  Calls Tryz.prog 60 #[.pointer (some ⟨a.q,0,none⟩),.int .i64 r] w (lD Bd w lo a (D.bU r) (.bool (D.gU r))):=by
 have E:Hid (D.bU r=D):=hid (by
  unfold Wd.gU at hn
  unfold Wd.bU
  cases hf:D.find r with
  |none=>rfl
  |some t=>rw[hf] at hn;simp only at hn ⊢;rw[if_pos (by simpa using hn)])
 have E2:=hid hn
 cases hf:D.find r with
 |none=>
  have HC:=hid (gY h hf)
  have H:=hid h
  clear h hf hn h0
  go_enter Tryz.func60,Tryz.ntmps60
  go_wp2_with fail
  refine HC.out.mono ?_
  rintro e w1 ⟨rfl,rfl⟩
  go_wp2_with fail
  go_ret
  exact⟨by rw[E2.out];rfl,by rw[E.out];exact⟨lab,a,rfl,H.out⟩,Touch.refl _ _⟩
 |some t=>
  obtain⟨i,x,hi,ht,hx⟩:=h.found hf
  have hd:t.mr.dead=true:=by
   unfold Wd.gU at hn
   rw[hf] at hn
   simpa using hn
  have HC:=hid (aX h hi hx)
  have m5:=h.m5 ht hx
  have m0:=h.m0 ht hx
  rw[hd] at m5
  have H:=hid h
  clear h hf hn h0 hi ht hx hd
  go_enter Tryz.func60,Tryz.ntmps60
  go_wp2_with fail
  refine HC.out.mono ?_
  rintro e w1 ⟨rfl,rfl⟩
  go_wp2_with fail
  go_ret
  exact⟨by rw[E2.out];rfl,by rw[E.out];exact⟨lab,a,rfl,H.out⟩,Touch.refl _ _⟩
set_option maxHeartbeats 2000000 in
theorem Dw(h:az w lo lab a D){r:Int}(hf:D.find r=some t)(hd:t.mr.dead=false)(h0:t.mr.refs=0)(hs:D.scan=r)(hrl:D.ring.length≤8000)(hgl:D.grave.length≤8000)(hp0:0≤D.pending)(hp1:D.pending≤4294900000)(hll:t.lv.length≤1000):
  Calls Tryz.prog 60 #[.pointer (some ⟨a.q,0,none⟩),.int .i64 r] w (lD Bd w lo a (D.lay r t) (.bool true)):=by
 obtain⟨i,x,hi,ht,hx⟩:=h.found hf
 obtain⟨_,_,hrt⟩:=df hf
 have hbd:=h.h.bd t (List.mem_of_getElem? ht)
 have HC:=hid (aX h hi hx)
 have HFi:=hid (fun w' (h':az w' lo lab a D)=>aY h' hi hx)
 have m5:=h.m5 ht hx
 have m0:=h.m0 ht hx
 rw[hd] at m5
 rw[h0] at m0
 have hwr:IntKind.i64.wrap (r-1)=(t.h:Int):=by rw[show r-1=(t.h:Int) by omega];exact IntWalk.i64_in _ (by omega)
 have hw1:IntKind.i64.wrap (D.pending+1)=D.pending+1:=IntWalk.i64_in _ (by omega)
 have hw2:IntKind.i64.wrap (D.pending+1+(t.lv.length:Int))=D.pending+1+(t.lv.length:Int):=IntWalk.i64_in _ (by omega)
 have hsc:(D.scan==r)=true:=wB hs
 have HRC:Hid (((t.h+1:Nat):Int)=r):=hid (by omega)
 obtain⟨n1,n2⟩:=h.ne ht hx
 obtain⟨k1,k2,k3,k4,k5,k6⟩:=h.zH ht hx
 have H:=hid h
 have HI:=hid hi
 have HT:=hid ht
 have HX:=hid hx
 have HRl:=hid hrl
 have HGl:=hid hgl
 have HS:=hid hs
 have c0:=h.c0
 clear h hf hi ht hx hd h0 hrt hbd hrl hgl hs
 go_enter Tryz.func60,Tryz.ntmps60
 go_wp2_with fail
 refine HC.out.mono ?_
 rintro e w1 ⟨rfl,rfl⟩
 go_wp2_with fail
 refine(HFi.out _ H.out).mono ?_
 rintro e w1 ⟨rfl,hw⟩
 have H1:Hid (az w1 lo lab a D):=hid (hw▸H.out)
 have T1:Hid (Touch (XW lo Bd a) w w1):=hid (hw▸Touch.refl _ _)
 clear hw m5 m0 c0
 have c11:=H1.out.c11
 have m5:=H1.out.m5 HT.out HX.out
 have f5:=(H1.out.mb i t x HT.out HX.out).1.free 5
 have HK:Hid (az (w1.setCell ⟨x.mb,5,none⟩ (.bool true)) lo lab a (D.kill r)):=hid (H1.out.kN (f:=fun m=>{m with dead:=true}) HI.out HT.out HX.out (k:=5) (u:=.bool true) rfl)
 have HKT:=hid (T1.out.trans (sJ (lo:=lo) (Bd:=Bd) HX.out 5 (.bool true)))
 have HA1:=hid (iJ (fun m=>{m with dead:=true}) HI.out HT.out)
 go_wp2_with fail
 generalize hw2:World.setCell _ _ _=w2 at*
 have H2:Hid (az w2 lo lab a (D.kill r)):=hid HK.out
 have T2:=hid HKT.out
 clear hw2 HK HKT H1 T1 c11 m5 f5
 have HWo:=hid (tZ a.ra a.rc D.ring (D.ring.filter (fun b=>b !=t.h)) (t.h:Int) w2 H2.out.rg (by have:=HRl.out;omega) (mF _ _))
 refine HWo.out.mono ?_
 rintro e w3 ⟨ra,rc,rfl,hr,hf,hb⟩
 obtain⟨lab3,k⟩:=H2.out.mQ hb rc hr hf
 have H3:Hid (az (w3.setCell ⟨a.q,11,none⟩ (.slice ra (D.ring.filter (fun b=>b !=t.h)).length rc)) lo lab3 {a with ra:=ra,rc:=rc} ((D.kill r).aS t.h)):=hid k
 have T3:=hid ((T2.out.trans (Touch.of_below hb)).setCell (p:=⟨a.q,11,none⟩) (fun _=>.inl rfl) (.slice ra (D.ring.filter (fun b=>b !=t.h)).length rc))
 have H2b:Hid (az w3 lo lab a (D.kill r)):=hid (H2.out.later hb)
 clear k hr hf hb HWo
 have q11:=H2b.out.c11
 have q6:w3.cell? ⟨a.q,6,none⟩=some (.int .i64 D.scan):=H2b.out.c6
 have q12:w3.cell? ⟨a.q,12,none⟩=some (.slice a.ga D.grave.length a.gc):=H2b.out.c12
 have f11:=H2b.out.wb.free 11
 have f6:=H2b.out.wb.free 6
 have y2:=(H2b.out.h.th i _ x HA1.out.2 HX.out).c2
 have y1:=(H2b.out.h.th i _ x HA1.out.2 HX.out).c1
 have y6:=(H2b.out.mb i _ x HA1.out.2 HX.out).1.cell 6 rfl
 have y7:=(H2b.out.mb i _ x HA1.out.2 HX.out).1.cell 7 rfl
 have g6:=(H2b.out.mb i _ x HA1.out.2 HX.out).1.free 6
 have g7:=(H2b.out.mb i _ x HA1.out.2 HX.out).1.free 7
 go_wp2_with fail
 generalize hw4:World.setCell (World.setCell (World.setCell (World.setCell _ _ _) _ _) _ _) _ _=w4 at*
 have HA2:=hid (iJ (D:=({(D.kill r).aS t.h with scan:=0}:Wd)) (fun m=>{m with left:=(t.pt.length:Int)}) HA1.out.1 HA1.out.2)
 have HA3:=hid (iJ (D:=({(D.kill r).aS t.h with scan:=0}:Wd).mark r (fun m=>{m with left:=(t.pt.length:Int)})) (fun m=>{m with leaves:=(t.lv.length:Int)}) HA2.out.1 HA2.out.2)
 have H4:Hid (az w4 lo lab3 {a with ra:=ra,rc:=rc} ((({(D.kill r).aS t.h with scan:=0}:Wd).mark r (fun m=>{m with left:=(t.pt.length:Int)})).mark r (fun m=>{m with leaves:=(t.lv.length:Int)}))):=hid (hw4▸((H3.out.fI (D':={(D.kill r).aS t.h with scan:=0}) (k:=6) (u:=.int .i64 0) rfl rfl rfl rfl rfl rfl rfl).kN (i:=i) (x:=x) (f:=fun m=>{m with left:=(t.pt.length:Int)}) HA1.out.1 HA1.out.2 HX.out (k:=6) (u:=.int .i64 (t.pt.length:Int)) rfl).kN (i:=i) (x:=x) (f:=fun m=>{m with leaves:=(t.lv.length:Int)}) HA2.out.1 HA2.out.2 HX.out (k:=7) (u:=.int .i64 (t.lv.length:Int)) rfl)
 have T4:Hid (Touch (XW lo Bd a) w w4):=hid (hw4▸((T3.out.setCell (p:=⟨a.q,6,none⟩) (fun _=>.inl rfl) (.int .i64 0)).setCell (p:=⟨x.mb,6,none⟩) (fun _=>XW.mb HX.out) _).setCell (p:=⟨x.mb,7,none⟩) (fun _=>XW.mb HX.out) _)
 have HLay:=hid (EK HS.out (t:=t))
 clear hw4 q11 q6 q12 f11 f6 y2 y1 y6 y7 g6 g7 H3 T3 H2b H2
 have c12:w4.cell? ⟨a.q,12,none⟩=some (.slice a.ga D.grave.length a.gc):=H4.out.c12
 have HBe:=hid (oD a.ga a.gc D.grave (t.h+1) w4 H4.out.gv (by have:=HGl.out;omega))
 rw[HRC.out] at HBe
 refine HBe.out.mono ?_
 rintro e w5 ⟨ga,gc,rfl,hr,hf,hb⟩
 obtain⟨lab5,k⟩:=H4.out.pU hb gc hr hf
 rw[show(D.grave++[t.h+1]).length=D.grave.length+1 by simp] at k
 have H4b:=hid (H4.out.later hb)
 have H5:=hid (k.fI (k:=13) (u:=.int .i64 (D.pending+1+(t.lv.length:Int))) (D':=D.lay r t) (by rw[HLay.out];rfl) (by rw[HLay.out]) (by rw[HLay.out]) (by rw[HLay.out]) (by rw[HLay.out]) (by rw[HLay.out]) (by rw[HLay.out]))
 have T5:=hid (((T4.out.trans (Touch.of_below hb)).setCell (p:=⟨a.q,12,none⟩) (fun _=>.inl rfl) (.slice ga (D.grave.length+1) gc)).setCell (p:=⟨a.q,13,none⟩) (fun _=>.inl rfl) (.int .i64 (D.pending+1+(t.lv.length:Int))))
 clear k hr hf hb HBe c12
 have q12:=H4b.out.c12
 have q13:w5.cell? ⟨a.q,13,none⟩=some (.int .i64 D.pending):=H4b.out.c13
 have f12:=H4b.out.wb.free 12
 have f13:=H4b.out.wb.free 13
 have y1:=(H4b.out.h.th i _ x HA3.out.2 HX.out).c1
 go_wp2_with fail
 go_region_with (fail)
 all_goals
  go_wp2_with fail
  go_ret
  exact⟨rfl,H5.out.drew.nE rfl,T5.out.drew⟩
set_option maxHeartbeats 2000000 in
theorem Dv(h:az w lo lab a D){r:Int}(hf:D.find r=some t)(hd:t.mr.dead=false)(h0:t.mr.refs=0)(hs:¬D.scan=r)(hrl:D.ring.length≤8000)(hgl:D.grave.length≤8000)(hp0:0≤D.pending)(hp1:D.pending≤4294900000)(hll:t.lv.length≤1000):
  Calls Tryz.prog 60 #[.pointer (some ⟨a.q,0,none⟩),.int .i64 r] w (lD Bd w lo a (D.lay r t) (.bool true)):=by
 obtain⟨i,x,hi,ht,hx⟩:=h.found hf
 obtain⟨_,_,hrt⟩:=df hf
 have hbd:=h.h.bd t (List.mem_of_getElem? ht)
 have HC:=hid (aX h hi hx)
 have HFi:=hid (fun w' (h':az w' lo lab a D)=>aY h' hi hx)
 have m5:=h.m5 ht hx
 have m0:=h.m0 ht hx
 rw[hd] at m5
 rw[h0] at m0
 have hwr:IntKind.i64.wrap (r-1)=(t.h:Int):=by rw[show r-1=(t.h:Int) by omega];exact IntWalk.i64_in _ (by omega)
 have hw1:IntKind.i64.wrap (D.pending+1)=D.pending+1:=IntWalk.i64_in _ (by omega)
 have hw2:IntKind.i64.wrap (D.pending+1+(t.lv.length:Int))=D.pending+1+(t.lv.length:Int):=IntWalk.i64_in _ (by omega)
 have hsc:(D.scan==r)=false:=bL hs
 have HRC:Hid (((t.h+1:Nat):Int)=r):=hid (by omega)
 obtain⟨n1,n2⟩:=h.ne ht hx
 obtain⟨k1,k2,k3,k4,k5,k6⟩:=h.zH ht hx
 have H:=hid h
 have HI:=hid hi
 have HT:=hid ht
 have HX:=hid hx
 have HRl:=hid hrl
 have HGl:=hid hgl
 have HS:=hid hs
 have c0:=h.c0
 clear h hf hi ht hx hd h0 hrt hbd hrl hgl hs
 go_enter Tryz.func60,Tryz.ntmps60
 go_wp2_with fail
 refine HC.out.mono ?_
 rintro e w1 ⟨rfl,rfl⟩
 go_wp2_with fail
 refine(HFi.out _ H.out).mono ?_
 rintro e w1 ⟨rfl,hw⟩
 have H1:Hid (az w1 lo lab a D):=hid (hw▸H.out)
 have T1:Hid (Touch (XW lo Bd a) w w1):=hid (hw▸Touch.refl _ _)
 clear hw m5 m0 c0
 have c11:=H1.out.c11
 have m5:=H1.out.m5 HT.out HX.out
 have f5:=(H1.out.mb i t x HT.out HX.out).1.free 5
 have HK:Hid (az (w1.setCell ⟨x.mb,5,none⟩ (.bool true)) lo lab a (D.kill r)):=hid (H1.out.kN (f:=fun m=>{m with dead:=true}) HI.out HT.out HX.out (k:=5) (u:=.bool true) rfl)
 have HKT:=hid (T1.out.trans (sJ (lo:=lo) (Bd:=Bd) HX.out 5 (.bool true)))
 have HA1:=hid (iJ (fun m=>{m with dead:=true}) HI.out HT.out)
 go_wp2_with fail
 generalize hw2:World.setCell _ _ _=w2 at*
 have H2:Hid (az w2 lo lab a (D.kill r)):=hid HK.out
 have T2:=hid HKT.out
 clear hw2 HK HKT H1 T1 c11 m5 f5
 have HWo:=hid (tZ a.ra a.rc D.ring (D.ring.filter (fun b=>b !=t.h)) (t.h:Int) w2 H2.out.rg (by have:=HRl.out;omega) (mF _ _))
 refine HWo.out.mono ?_
 rintro e w3 ⟨ra,rc,rfl,hr,hf,hb⟩
 obtain⟨lab3,k⟩:=H2.out.mQ hb rc hr hf
 have H3:Hid (az (w3.setCell ⟨a.q,11,none⟩ (.slice ra (D.ring.filter (fun b=>b !=t.h)).length rc)) lo lab3 {a with ra:=ra,rc:=rc} ((D.kill r).aS t.h)):=hid k
 have T3:=hid ((T2.out.trans (Touch.of_below hb)).setCell (p:=⟨a.q,11,none⟩) (fun _=>.inl rfl) (.slice ra (D.ring.filter (fun b=>b !=t.h)).length rc))
 have H2b:Hid (az w3 lo lab a (D.kill r)):=hid (H2.out.later hb)
 clear k hr hf hb HWo
 have q11:=H2b.out.c11
 have q6:w3.cell? ⟨a.q,6,none⟩=some (.int .i64 D.scan):=H2b.out.c6
 have q12:w3.cell? ⟨a.q,12,none⟩=some (.slice a.ga D.grave.length a.gc):=H2b.out.c12
 have f11:=H2b.out.wb.free 11
 have f6:=H2b.out.wb.free 6
 have y2:=(H2b.out.h.th i _ x HA1.out.2 HX.out).c2
 have y1:=(H2b.out.h.th i _ x HA1.out.2 HX.out).c1
 have y6:=(H2b.out.mb i _ x HA1.out.2 HX.out).1.cell 6 rfl
 have y7:=(H2b.out.mb i _ x HA1.out.2 HX.out).1.cell 7 rfl
 have g6:=(H2b.out.mb i _ x HA1.out.2 HX.out).1.free 6
 have g7:=(H2b.out.mb i _ x HA1.out.2 HX.out).1.free 7
 go_wp2_with fail
 generalize hw4:World.setCell (World.setCell (World.setCell _ _ _) _ _) _ _=w4 at*
 have HA2:=hid (iJ (D:=((D.kill r).aS t.h)) (fun m=>{m with left:=(t.pt.length:Int)}) HA1.out.1 HA1.out.2)
 have HA3:=hid (iJ (D:=((D.kill r).aS t.h).mark r (fun m=>{m with left:=(t.pt.length:Int)})) (fun m=>{m with leaves:=(t.lv.length:Int)}) HA2.out.1 HA2.out.2)
 have H4:Hid (az w4 lo lab3 {a with ra:=ra,rc:=rc} ((((D.kill r).aS t.h).mark r (fun m=>{m with left:=(t.pt.length:Int)})).mark r (fun m=>{m with leaves:=(t.lv.length:Int)}))):=hid (hw4▸((H3.out).kN (i:=i) (x:=x) (f:=fun m=>{m with left:=(t.pt.length:Int)}) HA1.out.1 HA1.out.2 HX.out (k:=6) (u:=.int .i64 (t.pt.length:Int)) rfl).kN (i:=i) (x:=x) (f:=fun m=>{m with leaves:=(t.lv.length:Int)}) HA2.out.1 HA2.out.2 HX.out (k:=7) (u:=.int .i64 (t.lv.length:Int)) rfl)
 have T4:Hid (Touch (XW lo Bd a) w w4):=hid (hw4▸(T3.out.setCell (p:=⟨x.mb,6,none⟩) (fun _=>XW.mb HX.out) _).setCell (p:=⟨x.mb,7,none⟩) (fun _=>XW.mb HX.out) _)
 have HLay:=hid (xK HS.out (t:=t))
 clear hw4 q11 q6 q12 f11 f6 y2 y1 y6 y7 g6 g7 H3 T3 H2b H2
 have c12:w4.cell? ⟨a.q,12,none⟩=some (.slice a.ga D.grave.length a.gc):=H4.out.c12
 have HBe:=hid (oD a.ga a.gc D.grave (t.h+1) w4 H4.out.gv (by have:=HGl.out;omega))
 rw[HRC.out] at HBe
 refine HBe.out.mono ?_
 rintro e w5 ⟨ga,gc,rfl,hr,hf,hb⟩
 obtain⟨lab5,k⟩:=H4.out.pU hb gc hr hf
 rw[show(D.grave++[t.h+1]).length=D.grave.length+1 by simp] at k
 have H4b:=hid (H4.out.later hb)
 have H5:=hid (k.fI (k:=13) (u:=.int .i64 (D.pending+1+(t.lv.length:Int))) (D':=D.lay r t) (by rw[HLay.out];rfl) (by rw[HLay.out]) (by rw[HLay.out]) (by rw[HLay.out]) (by rw[HLay.out]) (by rw[HLay.out]) (by rw[HLay.out]))
 have T5:=hid (((T4.out.trans (Touch.of_below hb)).setCell (p:=⟨a.q,12,none⟩) (fun _=>.inl rfl) (.slice ga (D.grave.length+1) gc)).setCell (p:=⟨a.q,13,none⟩) (fun _=>.inl rfl) (.int .i64 (D.pending+1+(t.lv.length:Int))))
 clear k hr hf hb HBe c12
 have q12:=H4b.out.c12
 have q13:w5.cell? ⟨a.q,13,none⟩=some (.int .i64 D.pending):=H4b.out.c13
 have f12:=H4b.out.wb.free 12
 have f13:=H4b.out.wb.free 13
 have y1:=(H4b.out.h.th i _ x HA3.out.2 HX.out).c1
 go_wp2_with fail
 go_region_with (fail)
 all_goals
  go_wp2_with fail
  go_ret
  exact⟨rfl,H5.out.drew.nE rfl,T5.out.drew⟩
theorem Sv(h:az w lo lab a D)(r:Int)(h0:D.cnt r=0)(hrl:D.ring.length≤8000)(hgl:D.grave.length≤8000)(hp0:0≤D.pending)(hp1:D.pending≤4294900000)(hll:∀t,D.find r=some t→t.lv.length≤1000):
  Calls Tryz.prog 60 #[.pointer (some ⟨a.q,0,none⟩),.int .i64 r] w (lD Bd w lo a (D.bU r) (.bool (D.gU r))):=by
 cases hb:D.gU r with
 |false=>rw[←hb];exact JN (Bd:=Bd) h hb h0
 |true=>
  unfold Wd.gU at hb
  unfold Wd.bU
  cases hf:D.find r with
  |none=>rw[hf] at hb;cases hb
  |some t=>
   rw[hf] at hb
   have hd:t.mr.dead=false:=by simpa using hb
   have hr0:t.mr.refs=0:=by unfold Wd.cnt at h0;rw[hf] at h0;exact h0
   simp only
   rw[if_neg (by rw[hd];decide)]
   by_cases hs:D.scan=r
   ·exact Dw (Bd:=Bd) h hf hd hr0 hs hrl hgl hp0 hp1 (hll t hf)
   ·exact Dv (Bd:=Bd) h hf hd hr0 hs hrl hgl hp0 hp1 (hll t hf)
theorem vE(h:az w lo lab a D)(r:Int)(hl:D.ring.length≤8000):
  Calls Tryz.prog 102 #[.pointer (some ⟨a.q,0,none⟩),.int .i64 r] w (Nr Bd w lo a (D.touch r) (.bool (D.aU r))):=by
 cases hf:D.find r with
 |none=>
  have E:Hid (D.aU r=false):=hid (by unfold Wd.aU;rw[hf])
  have HC:=hid (gY h hf)
  have H:=hid h
  clear h hf hl
  go_enter Tryz.func102,Tryz.ntmps102
  go_wp2_with fail
  refine HC.out.mono ?_
  rintro e w1 ⟨rfl,rfl⟩
  go_wp2_with fail
  go_quiet (fail)
  go_wp2_with fail
  go_ret
  exact⟨by rw[E.out];rfl,by rw[fZ E.out];exact⟨lab,a,rfl,rfl,rfl,H.out.dF ⟨_,rfl⟩⟩,Touch.of_below (dK.new ⟨_,rfl⟩)⟩
 |some t=>
  obtain⟨i,x,hi,ht,hx⟩:=h.found hf
  have ET:D.aU r=(!decide (D.phase=0)&& !t.mr.dead&& !decide (t.mr.color=D.parity)):=by unfold Wd.aU;rw[hf]
  obtain⟨_,_,hrt⟩:=df hf
  have hbd:=h.h.bd t (List.mem_of_getElem? ht)
  have HC:=hid (aX h hi hx)
  have c2:=h.c2
  have c3:=h.c3
  have m1:=h.m1 ht hx
  have m5:=h.m5 ht hx
  by_cases hp:D.phase=0
  ·have E:Hid (D.aU r=false):=hid (by rw[ET];simp[hp])
   have H:=hid h
   rw[hp] at c3
   clear h hf hl ET hi ht hx hrt hbd hp
   go_enter Tryz.func102,Tryz.ntmps102
   go_wp2_with fail
   refine HC.out.mono ?_
   rintro e w1 ⟨rfl,rfl⟩
   go_wp2_with fail
   go_quiet (fail)
   go_wp2_with fail
   go_ret
   exact⟨by rw[E.out];rfl,by rw[fZ E.out];exact⟨lab,a,rfl,rfl,rfl,H.out.dF ⟨_,rfl⟩⟩,Touch.of_below (dK.new ⟨_,rfl⟩)⟩
  ·have hpb:=bL hp
   cases hd:t.mr.dead with
   |true=>
    have E:Hid (D.aU r=false):=hid (by rw[ET];simp[hd])
    have H:=hid h
    rw[hd] at m5
    clear h hf hl ET hi ht hx hrt hbd hp hd
    go_enter Tryz.func102,Tryz.ntmps102
    go_wp2_with fail
    refine HC.out.mono ?_
    rintro e w1 ⟨rfl,rfl⟩
    go_wp2_with fail
    go_quiet (fail)
    go_wp2_with fail
    go_ret
    exact⟨by rw[E.out];rfl,by rw[fZ E.out];exact⟨lab,a,rfl,rfl,rfl,H.out.dF ⟨_,rfl⟩⟩,Touch.of_below (dK.new ⟨_,rfl⟩)⟩
   |false=>
    rw[hd] at m5
    by_cases hc:t.mr.color=D.parity
    ·have E:Hid (D.aU r=false):=hid (by rw[ET];simp[hc])
     have H:=hid h
     rw[hc] at m1
     clear h hf hl ET hi ht hx hrt hbd hp hd hc
     go_enter Tryz.func102,Tryz.ntmps102
     go_wp2_with fail
     refine HC.out.mono ?_
     rintro e w1 ⟨rfl,rfl⟩
     go_wp2_with fail
     go_quiet (fail)
     go_wp2_with fail
     go_ret
     exact⟨by rw[E.out];rfl,by rw[fZ E.out];exact⟨lab,a,rfl,rfl,rfl,H.out.dF ⟨_,rfl⟩⟩,Touch.of_below (dK.new ⟨_,rfl⟩)⟩
    ·have E:Hid (D.aU r=true):=hid (by rw[ET];simp[hd,hc,hp])
     have hcb:=bL hc
     have hwr:IntKind.i64.wrap (r-1)=(t.h:Int):=by rw[show r-1=(t.h:Int) by omega];exact IntWalk.i64_in _ (by omega)
     have HRT:Hid (r-1=(t.h:Int)):=hid (by omega)
     have HL:=hid hl
     have H:=hid h
     have HI:=hid hi
     have HT:=hid ht
     have HX:=hid hx
     obtain⟨n1,n2⟩:=h.ne ht hx
     have fz1:=(h.mb i t x ht hx).1.free 1
     have c11:=h.c11
     clear h hf hl ET hi ht hx hrt hbd hp hd hc
     go_enter Tryz.func102,Tryz.ntmps102
     go_wp2_with fail
     refine HC.out.mono ?_
     rintro e w1 ⟨rfl,rfl⟩
     go_wp2_with fail
     go_quiet (fail)
     have HQ:=hid (fun m=>((H.out.dF (w':=w.drewN m) ⟨m,rfl⟩).kN (f:=fun k=>{k with color:=D.parity}) HI.out HT.out HX.out (k:=1) (u:=.int .i64 D.parity) rfl))
     have HTQ:=hid (fun m=>(Touch.of_below (X:=XW lo Bd a) (dK.new (w:=w) (w':=w.drewN m) ⟨m,rfl⟩)).trans (sJ (lo:=lo) (Bd:=Bd) HX.out 1 (.int .i64 D.parity)))
     go_wp2_with fail
     generalize hw1:World.setCell _ _ _=w1 at*
     have H1:Hid (az w1 lo lab a (D.cO r)):=hid (hw1▸HQ.out _)
     have T1:Hid (Touch (XW lo Bd a) w w1):=hid (hw1▸HTQ.out _)
     clear hw1 HQ HTQ c2 c3 m1 m5 fz1 c11
     have c11:w1.cell? ⟨a.q,11,none⟩=some (.slice a.ra D.ring.length a.rc):=H1.out.c11
     have HH:=hid (Un a.ra a.rc D.ring (t.h:Int) w1 H1.out.rg (by have:=HL.out;omega))
     refine HH.out.mono ?_
     rintro e w2 ⟨rfl,rfl⟩
     cases hh:hasB (ints D.ring) (t.h:Int) with
     |true=>
      have HE:Hid (D.touch r=D.cO r):=hid (by
       unfold Wd.touch
       rw[E.out,if_pos rfl,HRT.out,hh,if_pos rfl]
       rfl)
      clear hh HH
      go_wp2_with fail
      go_ret
      exact⟨by rw[E.out];rfl,by rw[HE.out];exact⟨lab,a,rfl,rfl,rfl,H1.out⟩,T1.out⟩
     |false=>
      have HE:Hid (D.touch r={D.cO r with ring:=D.ring++[t.h]}):=hid (by
       unfold Wd.touch
       rw[E.out,if_pos rfl,HRT.out,hh,if_neg (by decide)]
       simp)
      have HB:=hid (oD a.ra a.rc D.ring t.h w1 H1.out.rg (by have:=HL.out;omega))
      clear hh HH
      go_wp2_with fail
      refine HB.out.mono ?_
      rintro e w2 ⟨ra,rc,rfl,hr,hf,hb⟩
      have h0:=az.mQ H1.out hb rc hr hf
      rw[show(D.ring++[t.h]).length=D.ring.length+1 by simp] at h0
      have HW:=hid h0
      clear h0
      have HTW:=hid ((T1.out.trans (Touch.of_below hb)).setCell (p:=⟨a.q,11,none⟩) (fun _=>.inl rfl) (.slice ra (D.ring.length+1) rc))
      have c11:w2.cell? ⟨a.q,11,none⟩=some (.slice a.ra D.ring.length a.rc):=(H1.out.later hb).c11
      have fz:=((H1.out.later hb).wb).free 11
      clear hr hf hb
      go_wp2_with fail
      go_ret
      exact⟨by rw[E.out];rfl,by rw[HE.out];obtain⟨lab2,k⟩:=HW.out;exact⟨lab2,{a with ra:=ra,rc:=rc},rfl,rfl,rfl,k⟩,HTW.out⟩
theorem KX(h:az w lo lab a D){r:Int}(hf:D.find r=some t)(hd:t.mr.dead=false)(h0:0≤t.mr.refs)(h1:t.mr.refs<4294967295)(hl:D.ring.length≤8000):
  Calls Tryz.prog 43 #[.pointer (some ⟨a.q,0,none⟩),.int .i64 r] w (Nr Bd w lo a (D.more r) (.bool true)):=by
 have HA:=gW h r
 rw[bv hf,hd] at HA
 have HA:=hid HA
 have H:=hid h
 have HUp:=hid (fun w' (h':az w' lo lab a D)=>Wh (Bd:=Bd) h' hf h0 h1)
 have HTo:=hid (fun w' (h':az w' lo lab a (D.up r))=>vE (Bd:=Bd) h' r hl)
 clear h hd hf h0 h1 hl
 go_enter Tryz.func43,Tryz.ntmps43
 go_wp2_with fail
 refine HA.out.mono ?_
 rintro e w1 ⟨rfl,hd⟩
 have H1:=hid (H.out.dF hd)
 have T1:=hid (Touch.of_below (X:=XW lo Bd a) hd.new)
 clear hd
 go_wp2_with fail
 refine(HUp.out _ H1.out).mono ?_
 rintro e w2 ⟨rfl,k1,k2⟩
 have H2:=hid k1
 have T2:=hid (T1.out.trans k2)
 clear k1 k2
 go_wp2_with fail
 refine(HTo.out _ H2.out).mono ?_
 rintro e w3 ⟨rfl,k1,k2⟩
 have H3:=hid k1
 have T3:=hid (T2.out.trans k2)
 clear k1 k2
 go_wp2_with fail
 go_ret
 exact⟨rfl,H3.out,T3.out⟩
theorem WB.Vg(B:WB D)(h:az w lo lab a D)(r:Int)(h0:D.cnt r=0):Calls Tryz.prog 60 #[.pointer (some ⟨a.q,0,none⟩),.int .i64 r] w (lD Bd w lo a (D.bU r) (.bool (D.gU r))):=
 Sv (Bd:=Bd) h r h0 B.rl B.gl B.p0 B.p1 (B.ll r)
theorem KY(h:az w lo lab a D)(B:WB D){r:Int}(hf:D.find r=some t)(h0:0<t.mr.refs):
  Calls Tryz.prog 103 #[.pointer (some ⟨a.q,0,none⟩),.int .i64 r] w (lD Bd w lo a (D.less r) (.tuple #[])):=by
 have hb:=B.rf r t hf
 have c8:=h.c8
 have f8:=h.wb.free 8
 have k1:=h.fI (k:=8) (u:=.int .i64 1) (D':=D.rR) rfl rfl rfl rfl rfl rfl rfl
 have HT1:Hid (Touch (XW lo Bd a) w (w.setCell ⟨a.q,8,none⟩ (.int .i64 1))):=hid ((Touch.refl (XW lo Bd a) w).setCell (p:=⟨a.q,8,none⟩) (fun _=>.inl rfl) _)
 have hfs:D.rR.find r=some t:=hf
 have HD:=hid (Sw (Bd:=Bd) k1 hfs h0 hb.2)
 have B2:WB (D.down r).rR:=(B.down hf h0).rR
 have hc:(D.down r).rR.cnt r=t.mr.refs-1:=by
  have:(D.down r).rR.find r=some {t with mr:={t.mr with refs:=t.mr.refs-1}}:=by
   show(D.down r).find r=_
   unfold Wd.down
   rw[bG,hf]
   simp[eQ hf]
  unfold Wd.cnt
  rw[this]
 by_cases h1:t.mr.refs-1=0
 ·have E:Hid (D.less r=(D.down r).rR.bU r):=hid (by unfold Wd.less Wd.inter;rw[if_pos (by rw[hc];exact h1)])
  have HBu:=hid (fun w' lab' a' (h':az w' lo lab' a' (D.down r).rR)=>B2.Vg (Bd:=Bd) h' r (by rw[hc];exact h1))
  rw[h1] at HD
  clear h hf h0 hb B B2 hc h1 hfs k1
  go_enter Tryz.func103,Tryz.ntmps103
  go_wp2_with fail
  refine HD.out.mono ?_
  rintro e w2 ⟨rfl,k1,k2⟩
  have H2:=hid k1
  have T2:=hid (HT1.out.trans k2)
  clear k1 k2
  go_wp2_with fail
  refine(HBu.out _ _ _ H2.out).mono ?_
  rintro e w3 ⟨rfl,k1,k2⟩
  have H3:=hid k1
  have T3:=hid (T2.out.trans k2)
  clear k1 k2
  go_wp2_with fail
  go_end0
  exact⟨rfl,by rw[E.out];exact H3.out,T3.out⟩
 ·have E:Hid (D.less r=(D.down r).rR):=hid (by unfold Wd.less Wd.inter;rw[if_neg (by rw[hc];exact h1)])
  have hb1:(t.mr.refs-1==0)=false:=bL h1
  clear h hf h0 hb B B2 hc h1 hfs k1
  go_enter Tryz.func103,Tryz.ntmps103
  go_wp2_with fail
  refine HD.out.mono ?_
  rintro e w2 ⟨rfl,k1,k2⟩
  have H2:=hid k1
  have T2:=hid (HT1.out.trans k2)
  clear k1 k2
  go_wp2_with fail
  go_end0
  exact⟨rfl,by rw[E.out];exact H2.out.nE rfl,T2.out⟩
theorem GX(h:az w lo lab a D){r:Int}(hn:D.dz r=false)(k x:Int):
  Calls Tryz.prog 41 #[.pointer (some ⟨a.q,0,none⟩),.int .i64 r,.int .i64 k,.int .i64 x] w (lD Bd w lo a D (.int .i64 8)):=by
 have HA:=gW h r
 rw[hn] at HA
 have HA:=hid HA
 have H:=hid h
 clear h hn
 go_enter Tryz.func41,Tryz.ntmps41
 go_wp2_with fail
 refine HA.out.mono ?_
 rintro e w1 ⟨rfl,hd⟩
 have H1:=hid (H.out.dF hd)
 have T1:=hid (Touch.of_below (X:=XW lo Bd a) hd.new)
 clear hd
 go_wp2_with fail
 go_ret
 exact⟨rfl,H1.out.nE rfl,T1.out⟩
theorem Dx(h:az w lo lab a D){r:Int}(hf:D.find r=some t)(hd:t.mr.dead=false){k:Int}(hk:¬(0≤k∧k<(t.pt.length:Int)))(x:Int):
  Calls Tryz.prog 41 #[.pointer (some ⟨a.q,0,none⟩),.int .i64 r,.int .i64 k,.int .i64 x] w (lD Bd w lo a D (.int .i64 7)):=by
 have HA:=gW h r
 rw[bv hf,hd] at HA
 have HA:=hid HA
 have HWr:=hid (fun w' (h':az w' lo lab a D)=>EE h' hf hk)
 have HC0:=hid (fun w' (h':az w' lo lab a D)=>h'.c0)
 have H:=hid h
 clear h hf hd hk
 go_enter Tryz.func41,Tryz.ntmps41
 go_wp2_with fail
 refine HA.out.mono ?_
 rintro e w1 ⟨rfl,hd⟩
 have H1:=hid (H.out.dF hd)
 have T1:=hid (Touch.of_below (X:=XW lo Bd a) hd.new)
 clear hd
 have c0:=HC0.out _ H1.out
 go_wp2_with fail
 refine(HWr.out _ H1.out).mono ?_
 rintro e w2 ⟨rfl,rfl⟩
 go_wp2_with fail
 go_ret
 exact⟨rfl,H1.out.nE rfl,T1.out⟩
theorem JQ(h:az w lo lab a D){r:Int}(hf:D.find r=some t)(hd:t.mr.dead=false)(z:Hm D.w t){k:Nat}(hk:k<t.pt.length)(hs:fK D.w t k=false){x:Int}(hx:x≠0)(hxa:D.dz x=false):
  Calls Tryz.prog 41 #[.pointer (some ⟨a.q,0,none⟩),.int .i64 r,.int .i64 (k:Int),.int .i64 x] w (lD Bd w lo a D (.int .i64 2)):=by
 have HA:=gW h r
 rw[bv hf,hd] at HA
 have HA:=hid HA
 have HWr:=fun w' (h':az w' lo lab a D)=>lM h' hf z hk
 rw[hs] at HWr
 have HWr:=hid HWr
 have HXa:=fun w' (h':az w' lo lab a D)=>gW h' x
 rw[hxa] at HXa
 have HXa:=hid HXa
 have HC0:=hid (fun w' (h':az w' lo lab a D)=>h'.c0)
 have hxb:(x !=0)=true:=by rw[bne_iff_ne];exact hx
 have hxe:(x==0)=false:=bL hx
 have H:=hid h
 clear h hf hd hk hs hx hxa z
 go_enter Tryz.func41,Tryz.ntmps41
 go_wp2_with fail
 refine HA.out.mono ?_
 rintro e w1 ⟨rfl,hd⟩
 have H1:=hid (H.out.dF hd)
 have T1:=hid (Touch.of_below (X:=XW lo Bd a) hd.new)
 clear hd
 have c0:=HC0.out _ H1.out
 go_wp2_with fail
 refine(HWr.out _ H1.out).mono ?_
 rintro e w2 ⟨rfl,hd⟩
 have H2:=hid (H1.out.dF hd)
 have T2:=hid (T1.out.trans (Touch.of_below (X:=XW lo Bd a) hd.new))
 clear hd c0
 go_wp2_with fail
 refine(HXa.out _ H2.out).mono ?_
 rintro e w3 ⟨rfl,hd⟩
 have H3:=hid (H2.out.dF hd)
 have T3:=hid (T2.out.trans (Touch.of_below (X:=XW lo Bd a) hd.new))
 clear hd
 go_wp2_with fail
 go_ret
 exact⟨rfl,H3.out.nE rfl,T3.out⟩
set_option maxHeartbeats 2000000 in
theorem Qj (h : az w lo lab a D) (hPB : ∀ (i : Nat) (t : Th) (x : TA), D.ts[i]? = some t → a.tas[i]? = some x → 0 < t.pt.length → ∀ g, x.pa = some ⟨g, 0, none⟩ → g < Bd) (B : WB D) (hrl : D.ring.length ≤ 6000) {r : Int} (hf : D.find r = some t) (hd : t.mr.dead = false) (z : Hm D.w t) {k : Nat} (hk : k < t.pt.length) (hs : fK D.w t k = false)  (hy : ¬ 0 < (D.bW r k 0).cnt (nth t.pt k)) :
  Calls Tryz.prog 41 #[.pointer (some ⟨a.q,0,none⟩),.int .i64 r,.int .i64 (k:Int),.int .i64 0] w (lD Bd w lo a (D.put r k 0 (nth t.pt k)) (.int .i64 0)):=by
 obtain⟨i,xa,hi,ht,hxa⟩:=h.found hf
 have HA:=gW h r
 rw[bv hf,hd] at HA
 have HA:=hid HA
 have HWr:=fun w' (h':az w' lo lab a D)=>lM h' hf z hk
 rw[hs] at HWr
 have HWr:=hid HWr
 have HFi:=hid (fun w' (h':az w' lo lab a D)=>aY h' hi hxa)
 have HC0:=hid (fun w' (h':az w' lo lab a D)=>h'.c0)
 have HTA:=hid (fun w' (h':az w' lo lab a D)=>h'.h.th i t xa ht hxa)
 obtain⟨g,hpa,_,_,_,glo,_⟩:=h.jG ht hxa hk
 have HPg:Hid (∀w' lab' a' D' t',az w' lo lab' a' D'→a'.tas=a.tas→D'.ts[i]? =some t'→t'.pt=t.pt→w'.cell? ⟨g,k,none⟩=some (.int .i64 (nth t.pt k))∧w'.frozen? ⟨g,k,none⟩=false∧g<w'.heap.size∧w'.cell? ⟨xa.tb,2,none⟩=some (.slice (some ⟨g,0,none⟩) t.pt.length xa.pc)∧∀zz:Int,az (w'.setCell ⟨g,k,none⟩ (.int .i64 zz)) lo lab' a' {D' with ts:=D'.ts.set i {t' with pt:=t'.pt.set k zz}}):=hid (fun w' lab' a' D' t' h' e1 e2 e3=>by
  have hx':a'.tas[i]? =some xa:=by rw[e1];exact hxa
  obtain⟨g2,hp2,b1,b2,b3,b4,b5⟩:=h'.jG e2 hx' (k:=k) (by rw[e3];exact hk)
  rw[hpa] at hp2
  cases hp2
  have d2:=(h'.h.th i t' xa e2 hx').c2
  rw[hpa,e3] at d2
  exact⟨by rw[e3] at b2;exact b2,b3,b1,d2,b5⟩)
 have HGl:=hid (XW.pa (Bd:=Bd) hxa hpa (hPB i t xa ht hxa (by omega) g hpa) glo)
 have hS:D.bW r k 0={D with ts:=D.ts.set i {t with pt:=t.pt.set k 0}}:=by unfold Wd.bW;rw[if_pos rfl];exact wU hi ht k 0
 have rU:Hid (∀w' lab' a',az w' lo lab' a' {D with ts:=D.ts.set i {t with pt:=t.pt.set k 0}}→az w' lo lab' a' (D.bW r k 0)):=hid (fun w' lab' a' h'=>by rw[hS];exact h')
 have BS:WB (D.bW r k 0):=by unfold Wd.bW;rw[if_pos rfl];exact B.ay r k 0
 have hrS:(D.bW r k 0).ring.length≤7000:=by unfold Wd.bW;rw[if_pos rfl];show D.ring.length≤7000;omega
 have h00:((0:Int)!=0)=false:=by decide
 have HIT:Hid (D.ix r=some i∧D.ts[i]? =some t):=hid ⟨hi,ht⟩
 have HCn:=hid (fun w' lab' a' (h':az w' lo lab' a' (D.bW r k 0))=>gX h' (nth t.pt k))
 have E:Hid (D.put r k 0 (nth t.pt k)=D.bW r k 0):=hid (by unfold Wd.put Wd.wE;rw[if_neg hy])
 have H:=hid h
 clear h hf hi ht hxa hd z hs hpa glo
 generalize nth t.pt k=y at*
 clear hS BS hrS B
 go_enter Tryz.func41,Tryz.ntmps41
 go_wp2_with fail
 refine HA.out.mono ?_
 rintro e w1 ⟨rfl,hd⟩
 have H1:=hid (H.out.dF hd)
 have T1:=hid (Touch.of_below (X:=XW lo Bd a) hd.new)
 clear hd
 have c0:=HC0.out _ H1.out
 go_wp2_with fail
 refine(HWr.out _ H1.out).mono ?_
 rintro e w2 ⟨rfl,hd⟩
 have H2:=hid (H1.out.dF hd)
 have T2:=hid (T1.out.trans (Touch.of_below (X:=XW lo Bd a) hd.new))
 clear hd c0
 have c0:=HC0.out _ H2.out
 go_wp2_with fail
 have H3:=hid H2.out
 have T3:=hid T2.out
 refine(HFi.out _ H3.out).mono ?_
 rintro e w4 ⟨rfl,rfl⟩
 have k3:=HPg.out _ _ _ _ _ H3.out rfl HIT.out.2 rfl
 have gc:=k3.1
 have d2:=k3.2.2.2.1
 have gf:=k3.2.1
 clear k3
 go_wp2_with fail
 have HQ:Hid (az (w2.setCell ⟨g,k,none⟩ (.int .i64 0)) lo lab a (D.bW r k 0)):=hid (rU.out _ _ _ ((HPg.out _ _ _ _ _ H3.out rfl HIT.out.2 rfl).2.2.2.2 0))
 have HTQ:Hid (Touch (XW lo Bd a) w (w2.setCell ⟨g,k,none⟩ (.int .i64 0))):=hid (T3.out.setCell (p:=⟨g,k,none⟩) (fun _=>HGl.out) _)
 have EA:Hid (a.q=a.q):=hid rfl
 generalize hw6:World.setCell _ _ _=w6 at*
 have H6:=hid (by first|exact hw6▸HQ.out|(rw[←hw6];exact HQ.out):az w6 lo lab a (D.bW r k 0))
 have T6:=hid (by first|exact hw6▸HTQ.out|(rw[←hw6];exact HTQ.out):Touch (XW lo Bd a) w w6)
 clear hw6 HQ HTQ gc gf d2
 refine(HCn.out _ _ _ H6.out).mono ?_
 rintro e w7 ⟨rfl,rfl⟩
 go_wp2_with fail
 go_ret
 exact⟨rfl,by rw[E.out];exact H6.out.nE rfl,T6.out⟩
set_option maxHeartbeats 2000000 in
theorem Qk (h : az w lo lab a D) (hPB : ∀ (i : Nat) (t : Th) (x : TA), D.ts[i]? = some t → a.tas[i]? = some x → 0 < t.pt.length → ∀ g, x.pa = some ⟨g, 0, none⟩ → g < Bd) (B : WB D) (hrl : D.ring.length ≤ 6000) {r : Int} (hf : D.find r = some t) (hd : t.mr.dead = false) (z : Hm D.w t) {k : Nat} (hk : k < t.pt.length) (hs : fK D.w t k = false)  (hy : 0 < (D.bW r k 0).cnt (nth t.pt k)) :
  Calls Tryz.prog 41 #[.pointer (some ⟨a.q,0,none⟩),.int .i64 r,.int .i64 (k:Int),.int .i64 0] w (lD Bd w lo a (D.put r k 0 (nth t.pt k)) (.int .i64 0)):=by
 obtain⟨i,xa,hi,ht,hxa⟩:=h.found hf
 have HA:=gW h r
 rw[bv hf,hd] at HA
 have HA:=hid HA
 have HWr:=fun w' (h':az w' lo lab a D)=>lM h' hf z hk
 rw[hs] at HWr
 have HWr:=hid HWr
 have HFi:=hid (fun w' (h':az w' lo lab a D)=>aY h' hi hxa)
 have HC0:=hid (fun w' (h':az w' lo lab a D)=>h'.c0)
 have HTA:=hid (fun w' (h':az w' lo lab a D)=>h'.h.th i t xa ht hxa)
 obtain⟨g,hpa,_,_,_,glo,_⟩:=h.jG ht hxa hk
 have HPg:Hid (∀w' lab' a' D' t',az w' lo lab' a' D'→a'.tas=a.tas→D'.ts[i]? =some t'→t'.pt=t.pt→w'.cell? ⟨g,k,none⟩=some (.int .i64 (nth t.pt k))∧w'.frozen? ⟨g,k,none⟩=false∧g<w'.heap.size∧w'.cell? ⟨xa.tb,2,none⟩=some (.slice (some ⟨g,0,none⟩) t.pt.length xa.pc)∧∀zz:Int,az (w'.setCell ⟨g,k,none⟩ (.int .i64 zz)) lo lab' a' {D' with ts:=D'.ts.set i {t' with pt:=t'.pt.set k zz}}):=hid (fun w' lab' a' D' t' h' e1 e2 e3=>by
  have hx':a'.tas[i]? =some xa:=by rw[e1];exact hxa
  obtain⟨g2,hp2,b1,b2,b3,b4,b5⟩:=h'.jG e2 hx' (k:=k) (by rw[e3];exact hk)
  rw[hpa] at hp2
  cases hp2
  have d2:=(h'.h.th i t' xa e2 hx').c2
  rw[hpa,e3] at d2
  exact⟨by rw[e3] at b2;exact b2,b3,b1,d2,b5⟩)
 have HGl:=hid (XW.pa (Bd:=Bd) hxa hpa (hPB i t xa ht hxa (by omega) g hpa) glo)
 have hS:D.bW r k 0={D with ts:=D.ts.set i {t with pt:=t.pt.set k 0}}:=by unfold Wd.bW;rw[if_pos rfl];exact wU hi ht k 0
 have rU:Hid (∀w' lab' a',az w' lo lab' a' {D with ts:=D.ts.set i {t with pt:=t.pt.set k 0}}→az w' lo lab' a' (D.bW r k 0)):=hid (fun w' lab' a' h'=>by rw[hS];exact h')
 have BS:WB (D.bW r k 0):=by unfold Wd.bW;rw[if_pos rfl];exact B.ay r k 0
 have hrS:(D.bW r k 0).ring.length≤7000:=by unfold Wd.bW;rw[if_pos rfl];show D.ring.length≤7000;omega
 have h00:((0:Int)!=0)=false:=by decide
 have HIT:Hid (D.ix r=some i∧D.ts[i]? =some t):=hid ⟨hi,ht⟩
 have HCn:=hid (fun w' lab' a' (h':az w' lo lab' a' (D.bW r k 0))=>gX h' (nth t.pt k))
 have E:Hid (D.put r k 0 (nth t.pt k)=((D.bW r k 0).touch (nth t.pt k)).less (nth t.pt k)):=hid (by unfold Wd.put Wd.wE;rw[if_pos hy])
 have HTo:=hid (fun w' lab' a' (h':az w' lo lab' a' (D.bW r k 0))=>vE (Bd:=Bd) h' (nth t.pt k) (by omega))
 obtain⟨v,hv,hv0⟩:∃v,((D.bW r k 0).touch (nth t.pt k)).find (nth t.pt k)=some v∧0<v.mr.refs:=by
  cases hq:(D.bW r k 0).find (nth t.pt k) with
  |none=>unfold Wd.cnt at hy;rw[hq] at hy;simp at hy
  |some v=>
   obtain⟨kk,hkk⟩:=oL (nth t.pt k) hq (nth t.pt k)
   refine⟨_,hkk,?_⟩
   unfold Wd.cnt at hy
   rw[hq] at hy
   exact hy
 have HLs:=hid (fun w' lab' a' (h':az w' lo lab' a' ((D.bW r k 0).touch (nth t.pt k)))=>KY (Bd:=Bd) h' (BS.touch _ hrS) hv hv0)
 have H:=hid h
 clear h hf hi ht hxa hd z hs hpa glo
 generalize nth t.pt k=y at*
 clear hS BS hrS B hv hv0
 go_enter Tryz.func41,Tryz.ntmps41
 go_wp2_with fail
 refine HA.out.mono ?_
 rintro e w1 ⟨rfl,hd⟩
 have H1:=hid (H.out.dF hd)
 have T1:=hid (Touch.of_below (X:=XW lo Bd a) hd.new)
 clear hd
 have c0:=HC0.out _ H1.out
 go_wp2_with fail
 refine(HWr.out _ H1.out).mono ?_
 rintro e w2 ⟨rfl,hd⟩
 have H2:=hid (H1.out.dF hd)
 have T2:=hid (T1.out.trans (Touch.of_below (X:=XW lo Bd a) hd.new))
 clear hd c0
 have c0:=HC0.out _ H2.out
 go_wp2_with fail
 have H3:=hid H2.out
 have T3:=hid T2.out
 refine(HFi.out _ H3.out).mono ?_
 rintro e w4 ⟨rfl,rfl⟩
 have k3:=HPg.out _ _ _ _ _ H3.out rfl HIT.out.2 rfl
 have gc:=k3.1
 have d2:=k3.2.2.2.1
 have gf:=k3.2.1
 clear k3
 go_wp2_with fail
 have HQ:Hid (az (w2.setCell ⟨g,k,none⟩ (.int .i64 0)) lo lab a (D.bW r k 0)):=hid (rU.out _ _ _ ((HPg.out _ _ _ _ _ H3.out rfl HIT.out.2 rfl).2.2.2.2 0))
 have HTQ:Hid (Touch (XW lo Bd a) w (w2.setCell ⟨g,k,none⟩ (.int .i64 0))):=hid (T3.out.setCell (p:=⟨g,k,none⟩) (fun _=>HGl.out) _)
 have EA:Hid (a.q=a.q):=hid rfl
 generalize hw6:World.setCell _ _ _=w6 at*
 have H6:=hid (by first|exact hw6▸HQ.out|(rw[←hw6];exact HQ.out):az w6 lo lab a (D.bW r k 0))
 have T6:=hid (by first|exact hw6▸HTQ.out|(rw[←hw6];exact HTQ.out):Touch (XW lo Bd a) w w6)
 clear hw6 HQ HTQ gc gf d2
 refine(HCn.out _ _ _ H6.out).mono ?_
 rintro e w7 ⟨rfl,rfl⟩
 go_wp2_with fail
 refine(HTo.out _ _ _ H6.out).mono ?_
 rintro e w8 ⟨rfl,⟨lab8,a8,e1,e2,e3,k9⟩,k8⟩
 have H8:=hid k9
 have EB:=hid e1
 have T8:=hid (T6.out.trans k8)
 have HXf:Hid (XW lo Bd a8=XW lo Bd a):=hid (XW.eq e1 e3)
 clear k9 k8 e1 e2 e3
 go_wp2_with fail
 rw[←EB.out]
 refine(HLs.out _ _ _ H8.out).mono ?_
 rintro e w9 ⟨rfl,k9,k8⟩
 have H9:=hid k9
 rw[HXf.out] at k8
 have T9:=hid (T8.out.trans k8)
 clear k9 k8
 go_wp2_with fail
 go_ret
 exact⟨rfl,by rw[E.out];(rw[←EB.out];exact H9.out),T9.out⟩
set_option maxHeartbeats 2000000 in
theorem Ql(h:az w lo lab a D)(hPB:∀(i:Nat) (t:Th) (x:TA),D.ts[i]? =some t→a.tas[i]? =some x→0<t.pt.length→∀g,x.pa=some ⟨g,0,none⟩→g<Bd)(B:WB D)(hrl:D.ring.length≤6000){r:Int}(hf:D.find r=some t)(hd:t.mr.dead=false)(z:Hm D.w t){k:Nat}(hk:k<t.pt.length)(hs:fK D.w t k=false){x:Int}(hx0:x≠0)(hxu:∃u,D.find x=some u∧u.mr.dead=false∧u.mr.refs<4294967295)(hy:¬0<(D.bW r k x).cnt (nth t.pt k)):
  Calls Tryz.prog 41 #[.pointer (some ⟨a.q,0,none⟩),.int .i64 r,.int .i64 (k:Int),.int .i64 x] w (lD Bd w lo a (D.put r k x (nth t.pt k)) (.int .i64 0)):=by
 obtain⟨i,xa,hi,ht,hxa⟩:=h.found hf
 have HA:=gW h r
 rw[bv hf,hd] at HA
 have HA:=hid HA
 have HWr:=fun w' (h':az w' lo lab a D)=>lM h' hf z hk
 rw[hs] at HWr
 have HWr:=hid HWr
 have HFi:=hid (fun w' (h':az w' lo lab a D)=>aY h' hi hxa)
 have HC0:=hid (fun w' (h':az w' lo lab a D)=>h'.c0)
 have HTA:=hid (fun w' (h':az w' lo lab a D)=>h'.h.th i t xa ht hxa)
 obtain⟨g,hpa,_,_,_,glo,_⟩:=h.jG ht hxa hk
 have HPg:Hid (∀w' lab' a' D' t',az w' lo lab' a' D'→a'.tas=a.tas→D'.ts[i]? =some t'→t'.pt=t.pt→w'.cell? ⟨g,k,none⟩=some (.int .i64 (nth t.pt k))∧w'.frozen? ⟨g,k,none⟩=false∧g<w'.heap.size∧w'.cell? ⟨xa.tb,2,none⟩=some (.slice (some ⟨g,0,none⟩) t.pt.length xa.pc)∧∀zz:Int,az (w'.setCell ⟨g,k,none⟩ (.int .i64 zz)) lo lab' a' {D' with ts:=D'.ts.set i {t' with pt:=t'.pt.set k zz}}):=hid (fun w' lab' a' D' t' h' e1 e2 e3=>by
  have hx':a'.tas[i]? =some xa:=by rw[e1];exact hxa
  obtain⟨g2,hp2,b1,b2,b3,b4,b5⟩:=h'.jG e2 hx' (k:=k) (by rw[e3];exact hk)
  rw[hpa] at hp2
  cases hp2
  have d2:=(h'.h.th i t' xa e2 hx').c2
  rw[hpa,e3] at d2
  exact⟨by rw[e3] at b2;exact b2,b3,b1,d2,b5⟩)
 have HGl:=hid (XW.pa (Bd:=Bd) hxa hpa (hPB i t xa ht hxa (by omega) g hpa) glo)
 obtain⟨u,hu,hud,hub⟩:=hxu
 have hxa2:D.dz x=true:=by rw[bv hu,hud];rfl
 have HXa:=fun w' (h':az w' lo lab a D)=>gW h' x
 rw[hxa2] at HXa
 have HXa:=hid HXa
 have HHo:=hid (fun w' (h':az w' lo lab a D)=>KX (Bd:=Bd) h' hu hud (B.rf _ _ hu).1 hub B.rl)
 obtain⟨mm,hi2,ht2⟩:=KE (s:=x) hi ht
 have HIT2:Hid ((D.more x).ts[i]? =some {t with mr:=mm}):=hid ht2
 have hS:D.bW r k x={D.more x with ts:=(D.more x).ts.set i {t with pt:=t.pt.set k x,mr:=mm}}:=by unfold Wd.bW;rw[if_neg hx0];exact wU hi2 ht2 k x
 have rU:Hid (∀w' lab' a',az w' lo lab' a' {D.more x with ts:=(D.more x).ts.set i {t with pt:=t.pt.set k x,mr:=mm}}→az w' lo lab' a' (D.bW r k x)):=hid (fun w' lab' a' h'=>by rw[hS];exact h')
 have BU:WB (D.more x):=(B.up (r:=x) (fun t ht=>by rw[hu] at ht;cases ht;exact hub)).touch x (by show D.ring.length≤7000;omega)
 have BS:WB (D.bW r k x):=by unfold Wd.bW;rw[if_neg hx0];exact BU.ay r k x
 have hrS:(D.bW r k x).ring.length≤7000:=by
  unfold Wd.bW
  rw[if_neg hx0]
  show(D.more x).ring.length≤7000
  unfold Wd.more Wd.touch
  split
  ·show(if hasB (ints D.ring) (x-1) then D.ring else D.ring++[(x-1).toNat]).length≤7000
   split
   ·omega
   ·simp;omega
  ·show D.ring.length≤7000;omega
 have hxb:(x !=0)=true:=by rw[bne_iff_ne];exact hx0
 have hxe:(x==0)=false:=bL hx0
 have HIT:Hid (D.ix r=some i∧D.ts[i]? =some t):=hid ⟨hi,ht⟩
 have HCn:=hid (fun w' lab' a' (h':az w' lo lab' a' (D.bW r k x))=>gX h' (nth t.pt k))
 have E:Hid (D.put r k x (nth t.pt k)=D.bW r k x):=hid (by unfold Wd.put Wd.wE;rw[if_neg hy])
 have H:=hid h
 clear h hf hi ht hxa hd z hs hpa glo
 generalize nth t.pt k=y at*
 clear hS BS hrS B hu hud hub hxa2 hi2 ht2 BU
 go_enter Tryz.func41,Tryz.ntmps41
 go_wp2_with fail
 refine HA.out.mono ?_
 rintro e w1 ⟨rfl,hd⟩
 have H1:=hid (H.out.dF hd)
 have T1:=hid (Touch.of_below (X:=XW lo Bd a) hd.new)
 clear hd
 have c0:=HC0.out _ H1.out
 go_wp2_with fail
 refine(HWr.out _ H1.out).mono ?_
 rintro e w2 ⟨rfl,hd⟩
 have H2:=hid (H1.out.dF hd)
 have T2:=hid (T1.out.trans (Touch.of_below (X:=XW lo Bd a) hd.new))
 clear hd c0
 have c0:=HC0.out _ H2.out
 go_wp2_with fail
 refine(HXa.out _ H2.out).mono ?_
 rintro e w3 ⟨rfl,hd⟩
 have H3:=hid (H2.out.dF hd)
 have T3:=hid (T2.out.trans (Touch.of_below (X:=XW lo Bd a) hd.new))
 clear hd c0
 have c0:=HC0.out _ H3.out
 go_wp2_with fail
 refine(HFi.out _ H3.out).mono ?_
 rintro e w4 ⟨rfl,rfl⟩
 have k3:=HPg.out _ _ _ _ _ H3.out rfl HIT.out.2 rfl
 have gc:=k3.1
 have d2:=k3.2.2.2.1
 have gf:=k3.2.1
 clear k3
 go_wp2_with fail
 refine(HHo.out _ H3.out).mono ?_
 rintro e w5 ⟨rfl,⟨lab5,a5,e1,e2,e3,k9⟩,k8⟩
 have H5:=hid k9
 have EA:=hid e1
 have ET:=hid e3
 have T5:=hid (T3.out.trans k8)
 have HXe:Hid (XW lo Bd a5=XW lo Bd a):=hid (XW.eq e1 e3)
 clear k9 k8 e1 e2 e3 gc gf d2 c0
 have k5:=HPg.out _ _ _ _ _ H5.out ET.out HIT2.out rfl
 have gc:=k5.1
 have gf:=k5.2.1
 have d2:=k5.2.2.2.1
 have HQ:Hid (az (w5.setCell ⟨g,k,none⟩ (.int .i64 x)) lo lab5 a5 (D.bW r k x)):=hid (rU.out _ _ _ (k5.2.2.2.2 x))
 have HTQ:Hid (Touch (XW lo Bd a) w (w5.setCell ⟨g,k,none⟩ (.int .i64 x))):=hid (T5.out.setCell (p:=⟨g,k,none⟩) (fun _=>HGl.out) _)
 clear k5
 go_wp2_with fail
 generalize hw6:World.setCell _ _ _=w6 at*
 have H6:=hid (by first|exact hw6▸HQ.out|(rw[←hw6];exact HQ.out):az w6 lo lab5 a5 (D.bW r k x))
 have T6:=hid (by first|exact hw6▸HTQ.out|(rw[←hw6];exact HTQ.out):Touch (XW lo Bd a) w w6)
 clear hw6 HQ HTQ gc gf d2
 rw[←EA.out]
 refine(HCn.out _ _ _ H6.out).mono ?_
 rintro e w7 ⟨rfl,rfl⟩
 go_wp2_with fail
 go_ret
 exact⟨rfl,by rw[E.out];exact H6.out.nE EA.out,T6.out⟩
set_option maxHeartbeats 2000000 in
theorem Qm(h:az w lo lab a D)(hPB:∀(i:Nat) (t:Th) (x:TA),D.ts[i]? =some t→a.tas[i]? =some x→0<t.pt.length→∀g,x.pa=some ⟨g,0,none⟩→g<Bd)(B:WB D)(hrl:D.ring.length≤6000){r:Int}(hf:D.find r=some t)(hd:t.mr.dead=false)(z:Hm D.w t){k:Nat}(hk:k<t.pt.length)(hs:fK D.w t k=false){x:Int}(hx0:x≠0)(hxu:∃u,D.find x=some u∧u.mr.dead=false∧u.mr.refs<4294967295)(hy:0<(D.bW r k x).cnt (nth t.pt k)):
  Calls Tryz.prog 41 #[.pointer (some ⟨a.q,0,none⟩),.int .i64 r,.int .i64 (k:Int),.int .i64 x] w (lD Bd w lo a (D.put r k x (nth t.pt k)) (.int .i64 0)):=by
 obtain⟨i,xa,hi,ht,hxa⟩:=h.found hf
 have HA:=gW h r
 rw[bv hf,hd] at HA
 have HA:=hid HA
 have HWr:=fun w' (h':az w' lo lab a D)=>lM h' hf z hk
 rw[hs] at HWr
 have HWr:=hid HWr
 have HFi:=hid (fun w' (h':az w' lo lab a D)=>aY h' hi hxa)
 have HC0:=hid (fun w' (h':az w' lo lab a D)=>h'.c0)
 have HTA:=hid (fun w' (h':az w' lo lab a D)=>h'.h.th i t xa ht hxa)
 obtain⟨g,hpa,_,_,_,glo,_⟩:=h.jG ht hxa hk
 have HPg:Hid (∀w' lab' a' D' t',az w' lo lab' a' D'→a'.tas=a.tas→D'.ts[i]? =some t'→t'.pt=t.pt→w'.cell? ⟨g,k,none⟩=some (.int .i64 (nth t.pt k))∧w'.frozen? ⟨g,k,none⟩=false∧g<w'.heap.size∧w'.cell? ⟨xa.tb,2,none⟩=some (.slice (some ⟨g,0,none⟩) t.pt.length xa.pc)∧∀zz:Int,az (w'.setCell ⟨g,k,none⟩ (.int .i64 zz)) lo lab' a' {D' with ts:=D'.ts.set i {t' with pt:=t'.pt.set k zz}}):=hid (fun w' lab' a' D' t' h' e1 e2 e3=>by
  have hx':a'.tas[i]? =some xa:=by rw[e1];exact hxa
  obtain⟨g2,hp2,b1,b2,b3,b4,b5⟩:=h'.jG e2 hx' (k:=k) (by rw[e3];exact hk)
  rw[hpa] at hp2
  cases hp2
  have d2:=(h'.h.th i t' xa e2 hx').c2
  rw[hpa,e3] at d2
  exact⟨by rw[e3] at b2;exact b2,b3,b1,d2,b5⟩)
 have HGl:=hid (XW.pa (Bd:=Bd) hxa hpa (hPB i t xa ht hxa (by omega) g hpa) glo)
 obtain⟨u,hu,hud,hub⟩:=hxu
 have hxa2:D.dz x=true:=by rw[bv hu,hud];rfl
 have HXa:=fun w' (h':az w' lo lab a D)=>gW h' x
 rw[hxa2] at HXa
 have HXa:=hid HXa
 have HHo:=hid (fun w' (h':az w' lo lab a D)=>KX (Bd:=Bd) h' hu hud (B.rf _ _ hu).1 hub B.rl)
 obtain⟨mm,hi2,ht2⟩:=KE (s:=x) hi ht
 have HIT2:Hid ((D.more x).ts[i]? =some {t with mr:=mm}):=hid ht2
 have hS:D.bW r k x={D.more x with ts:=(D.more x).ts.set i {t with pt:=t.pt.set k x,mr:=mm}}:=by unfold Wd.bW;rw[if_neg hx0];exact wU hi2 ht2 k x
 have rU:Hid (∀w' lab' a',az w' lo lab' a' {D.more x with ts:=(D.more x).ts.set i {t with pt:=t.pt.set k x,mr:=mm}}→az w' lo lab' a' (D.bW r k x)):=hid (fun w' lab' a' h'=>by rw[hS];exact h')
 have BU:WB (D.more x):=(B.up (r:=x) (fun t ht=>by rw[hu] at ht;cases ht;exact hub)).touch x (by show D.ring.length≤7000;omega)
 have BS:WB (D.bW r k x):=by unfold Wd.bW;rw[if_neg hx0];exact BU.ay r k x
 have hrS:(D.bW r k x).ring.length≤7000:=by
  unfold Wd.bW
  rw[if_neg hx0]
  show(D.more x).ring.length≤7000
  unfold Wd.more Wd.touch
  split
  ·show(if hasB (ints D.ring) (x-1) then D.ring else D.ring++[(x-1).toNat]).length≤7000
   split
   ·omega
   ·simp;omega
  ·show D.ring.length≤7000;omega
 have hxb:(x !=0)=true:=by rw[bne_iff_ne];exact hx0
 have hxe:(x==0)=false:=bL hx0
 have HIT:Hid (D.ix r=some i∧D.ts[i]? =some t):=hid ⟨hi,ht⟩
 have HCn:=hid (fun w' lab' a' (h':az w' lo lab' a' (D.bW r k x))=>gX h' (nth t.pt k))
 have E:Hid (D.put r k x (nth t.pt k)=((D.bW r k x).touch (nth t.pt k)).less (nth t.pt k)):=hid (by unfold Wd.put Wd.wE;rw[if_pos hy])
 have HTo:=hid (fun w' lab' a' (h':az w' lo lab' a' (D.bW r k x))=>vE (Bd:=Bd) h' (nth t.pt k) (by omega))
 obtain⟨v,hv,hv0⟩:∃v,((D.bW r k x).touch (nth t.pt k)).find (nth t.pt k)=some v∧0<v.mr.refs:=by
  cases hq:(D.bW r k x).find (nth t.pt k) with
  |none=>unfold Wd.cnt at hy;rw[hq] at hy;simp at hy
  |some v=>
   obtain⟨kk,hkk⟩:=oL (nth t.pt k) hq (nth t.pt k)
   refine⟨_,hkk,?_⟩
   unfold Wd.cnt at hy
   rw[hq] at hy
   exact hy
 have HLs:=hid (fun w' lab' a' (h':az w' lo lab' a' ((D.bW r k x).touch (nth t.pt k)))=>KY (Bd:=Bd) h' (BS.touch _ hrS) hv hv0)
 have H:=hid h
 clear h hf hi ht hxa hd z hs hpa glo
 generalize nth t.pt k=y at*
 clear hS BS hrS B hu hud hub hxa2 hi2 ht2 BU hv hv0
 go_enter Tryz.func41,Tryz.ntmps41
 go_wp2_with fail
 refine HA.out.mono ?_
 rintro e w1 ⟨rfl,hd⟩
 have H1:=hid (H.out.dF hd)
 have T1:=hid (Touch.of_below (X:=XW lo Bd a) hd.new)
 clear hd
 have c0:=HC0.out _ H1.out
 go_wp2_with fail
 refine(HWr.out _ H1.out).mono ?_
 rintro e w2 ⟨rfl,hd⟩
 have H2:=hid (H1.out.dF hd)
 have T2:=hid (T1.out.trans (Touch.of_below (X:=XW lo Bd a) hd.new))
 clear hd c0
 have c0:=HC0.out _ H2.out
 go_wp2_with fail
 refine(HXa.out _ H2.out).mono ?_
 rintro e w3 ⟨rfl,hd⟩
 have H3:=hid (H2.out.dF hd)
 have T3:=hid (T2.out.trans (Touch.of_below (X:=XW lo Bd a) hd.new))
 clear hd c0
 have c0:=HC0.out _ H3.out
 go_wp2_with fail
 refine(HFi.out _ H3.out).mono ?_
 rintro e w4 ⟨rfl,rfl⟩
 have k3:=HPg.out _ _ _ _ _ H3.out rfl HIT.out.2 rfl
 have gc:=k3.1
 have d2:=k3.2.2.2.1
 have gf:=k3.2.1
 clear k3
 go_wp2_with fail
 refine(HHo.out _ H3.out).mono ?_
 rintro e w5 ⟨rfl,⟨lab5,a5,e1,e2,e3,k9⟩,k8⟩
 have H5:=hid k9
 have EA:=hid e1
 have ET:=hid e3
 have T5:=hid (T3.out.trans k8)
 have HXe:Hid (XW lo Bd a5=XW lo Bd a):=hid (XW.eq e1 e3)
 clear k9 k8 e1 e2 e3 gc gf d2 c0
 have k5:=HPg.out _ _ _ _ _ H5.out ET.out HIT2.out rfl
 have gc:=k5.1
 have gf:=k5.2.1
 have d2:=k5.2.2.2.1
 have HQ:Hid (az (w5.setCell ⟨g,k,none⟩ (.int .i64 x)) lo lab5 a5 (D.bW r k x)):=hid (rU.out _ _ _ (k5.2.2.2.2 x))
 have HTQ:Hid (Touch (XW lo Bd a) w (w5.setCell ⟨g,k,none⟩ (.int .i64 x))):=hid (T5.out.setCell (p:=⟨g,k,none⟩) (fun _=>HGl.out) _)
 clear k5
 go_wp2_with fail
 generalize hw6:World.setCell _ _ _=w6 at*
 have H6:=hid (by first|exact hw6▸HQ.out|(rw[←hw6];exact HQ.out):az w6 lo lab5 a5 (D.bW r k x))
 have T6:=hid (by first|exact hw6▸HTQ.out|(rw[←hw6];exact HTQ.out):Touch (XW lo Bd a) w w6)
 clear hw6 HQ HTQ gc gf d2
 rw[←EA.out]
 refine(HCn.out _ _ _ H6.out).mono ?_
 rintro e w7 ⟨rfl,rfl⟩
 go_wp2_with fail
 try rw[←EA.out]
 refine(HTo.out _ _ _ H6.out).mono ?_
 rintro e w8 ⟨rfl,⟨lab8,a8,e1,e2,e3,k9⟩,k8⟩
 have H8:=hid k9
 have EB:=hid e1
 have HXf:Hid (XW lo Bd a8=XW lo Bd a):=hid ((XW.eq e1 e3).trans HXe.out)
 rw[HXe.out] at k8
 have T8:=hid (T6.out.trans k8)
 clear k9 k8 e1 e2 e3
 go_wp2_with fail
 rw[←EB.out]
 refine(HLs.out _ _ _ H8.out).mono ?_
 rintro e w9 ⟨rfl,k9,k8⟩
 have H9:=hid k9
 rw[HXf.out] at k8
 have T9:=hid (T8.out.trans k8)
 clear k9 k8
 go_wp2_with fail
 go_ret
 exact⟨rfl,by rw[E.out];(rw[←EA.out,←EB.out];exact H9.out),T9.out⟩
end
end Go.Proofs.YtjmifnljckmimaaGreat.Pk
