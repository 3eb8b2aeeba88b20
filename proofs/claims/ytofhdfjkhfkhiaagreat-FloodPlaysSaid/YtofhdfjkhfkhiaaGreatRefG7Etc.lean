/-
  Texts laid together: RefG7, RefX.
-/
import Derived.Test.YtofhdfjkhfkhiaaGreatRefG3Etc
import Derived.Test.YtofhdfjkhfkhiaaGreatRefMkEtc
namespace Go.Proofs.YtofhdfjkhfkhiaaGreat.Pk
open Lib (hid)
open Go.RowKit
set_option linter.unusedVariables false
set_option linter.unusedSimpArgs false
set_option maxRecDepth 100000
def Wd.fM:Nat→Wd→Wd
 |0,D=>D
 |n+1,D=>if D.grave.isEmpty then D else if D.gives then D.step else Wd.fM n D.step
def Wd.gY:Nat→Wd→Bool
 |0,_=>false
 |n+1,D=>if D.grave.isEmpty then false else if D.gives then true else Wd.gY n D.step
def Ends:Nat→Wd→Prop
 |0,D=>D.grave=[]
 |n+1,D=>D.grave=[]∨D.gives=true∨Ends n D.step
theorem least_fn(P:Nat→World→Prop):∃μ:World→Nat,∀wr n,P n wr→P (μ wr) wr∧μ wr≤n:=by
 have h:∀wr,∃m,∀n,P n wr→P m wr∧m≤n:=fun wr=>by
  by_cases hx:∃n,P n wr
  ·obtain⟨n,hn⟩:=hx
   induction n using Nat.strongRecOn with
   |ind n ih=>
    by_cases hy:∃k,k<n∧P k wr
    ·obtain⟨k,hk,hp⟩:=hy
     exact ih k hk hp
    ·exact⟨n,fun k hk=>⟨hn,by
      by_cases hlt:k<n
      ·exact absurd ⟨k,hlt,hk⟩ hy
      ·omega⟩⟩
  ·exact⟨0,fun n hn=>absurd ⟨n,hn⟩ hx⟩
 exact⟨fun wr=>Classical.choose (h wr),fun wr=>Classical.choose_spec (h wr)⟩
section
variable {w w':World} {lo q:Nat} {lab:Nat→Nat} {a:WA} {D D':Wd} {i:Nat} {t t' u:Th} {x:TA} {n v b:Nat} {cl:List Nat} {ts:List Th}
structure Stp (P:Wd→Prop):Prop where
 wb:∀D,P D→WB D
 san:∀D,P D→San D
 w1:∀D,P D→D.w≤256
 pt:∀D,P D→∀t,t∈D.live→t.pt.length≤1000000
 step:∀D,P D→P D.step
theorem bf.stepW(h:bf w lo q D){P:Wd→Prop}(K:Stp P)(hP:P D):Calls Tryz.prog 72 #[.pointer (some ⟨q,0,none⟩)] w (bD w lo q D.step (.tuple #[.bool (!D.grave.isEmpty),.bool D.gives])):=by
 obtain⟨lab,a,rfl,k⟩:=h
 exact Sl k (K.wb D hP) (K.san D hP) (K.w1 D hP) (K.pt D hP)
theorem bf.c12(h:bf w lo q D):∃ga gc,w.cell? ⟨q,12,none⟩=some (.slice ga D.grave.length gc):=by
 obtain⟨lab,a,rfl,k⟩:=h
 exact⟨_,_,k.c12⟩
set_option maxHeartbeats 1000000 in
theorem KE(h:bf w lo q D){P:Wd→Prop}(K:Stp P)(hP:P D)(hE:Ends n D):
  Calls Tryz.prog 74 #[.pointer (some ⟨q,0,none⟩)] w (bD w lo q (D.fM n) (.bool (D.gY n))):=by
 obtain⟨μ,hμ⟩:=least_fn (fun m wr=>∃D',bf wr lo q D'∧P D'∧Ends m D'∧D'.fM m=D.fM n∧D'.gY m=D.gY n∧Touch (fun b=>lo≤b) w wr)
 have HM:=hid hμ
 have H0:Hid (∃D',bf w lo q D'∧P D'∧Ends n D'∧D'.fM n=D.fM n∧D'.gY n=D.gY n∧Touch (fun b=>lo≤b) w w):=hid ⟨D,h,hP,hE,rfl,rfl,Touch.refl _ _⟩
 have HK:=hid K
 clear h hP hE hμ K
 go_enter Tryz.func74,Tryz.ntmps74
 go_wp2_with fail
 go_loopw [2] (fun s wr=>s=.bool false∧∃m,∃D',bf wr lo q D'∧P D'∧Ends m D'∧D'.fM m=D.fM n∧D'.gY m=D.gY n∧Touch (fun b=>lo≤b) w wr) (fun _ wr=>μ wr)
 case atStart=>exact⟨rfl,n,H0.out⟩
 case round=>
  obtain⟨rfl,m0,hm0⟩:=hrel
  obtain⟨⟨D',hW,hP,hE,e1,e2,hT⟩,_⟩:=HM.out wr m0 hm0
  clear hm0
  obtain⟨ga,gc,c12⟩:=hW.c12
  have HW:=hid hW
  have HP:=hid hP
  have HT:=hid hT
  cases hg:D'.grave with
  |nil=>
   have E:Hid (D'=D.fM n∧false=D.gY n):=hid (by
    rw[←e1,←e2]
    cases hmm:μ wr with
    |zero=>exact⟨rfl,rfl⟩
    |succ m=>unfold Wd.fM Wd.gY;rw[hg];exact⟨rfl,rfl⟩)
   rw[hg] at c12
   clear hW hP hE e1 e2 hT hg
   go_wp2_with fail
   go_ret
   exact⟨by rw[←E.out.2];rfl,by rw[←E.out.1];exact HW.out,HT.out⟩
  |cons g rest=>
   have hne:D'.grave.isEmpty=false:=by rw[hg];rfl
   obtain⟨m,hmm⟩:∃m,μ wr=m+1:=by
    cases hmm:μ wr with
    |zero=>rw[hmm] at hE;exact absurd (show D'.grave=[] from hE) (by rw[hg];simp)
    |succ m=>exact⟨m,rfl⟩
   rw[hmm] at hE e1 e2
   have hl0:(0:Int)<((g::rest).length:Int):=by simp only[List.length_cons];omega
   have pU:=hW.stepW HK.out hP
   rw[hne] at pU
   rw[hg] at c12
   cases hgv:D'.gives with
   |true=>
    rw[hgv] at pU
    have pU:=hid pU
    have E:Hid (D'.step=D.fM n∧true=D.gY n):=hid (by
     rw[←e1,←e2]
     unfold Wd.fM Wd.gY
     rw[hne,hgv]
     exact⟨rfl,rfl⟩)
    clear hW hP hE e1 e2 hT hg hmm hgv hne
    go_wp2_with fail
    refine pU.out.mono ?_
    rintro e w3 ⟨rfl,k1,k2⟩
    have H3:=hid k1
    have T3:=hid (HT.out.trans k2)
    clear k1 k2
    go_wp2_with fail
    go_ret
    exact⟨by rw[←E.out.2];rfl,by rw[←E.out.1];exact H3.out,T3.out⟩
   |false=>
    rw[hgv] at pU
    have pU:=hid pU
    have E:Hid (Ends m D'.step∧D'.step.fM m=D.fM n∧D'.step.gY m=D.gY n):=hid (by
     rw[←e1,←e2]
     refine⟨?_,?_,?_⟩
     ·rcases hE with hE|hE|hE
      ·rw[hg] at hE;cases hE
      ·rw[hgv] at hE;cases hE
      ·exact hE
     ·conv=>rhs;unfold Wd.fM
      rw[hne,hgv]
      rfl
     ·conv=>rhs;unfold Wd.gY
      rw[hne,hgv]
      rfl)
    have HMm:=hid hmm
    clear hW hP hE e1 e2 hT hg hmm hgv hne
    go_wp2_with fail
    refine pU.out.mono ?_
    rintro e w3 ⟨rfl,k1,k2⟩
    have HN:Hid (∃D',bf w3 lo q D'∧P D'∧Ends m D'∧D'.fM m=D.fM n∧D'.gY m=D.gY n∧Touch (fun b=>lo≤b) w w3):=hid ⟨_,k1,HK.out.step _ HP.out,E.out.1,E.out.2.1,E.out.2.2,HT.out.trans k2⟩
    clear k1 k2
    go_wp2_with fail
    go_roundw
    case rel=>exact⟨rfl,m,HN.out⟩
    case measure=>have h1:=(HM.out w3 m HN.out).2;have h2:=HMm.out;omega
theorem Fq(r:Int):((D.lT r).up r).aH r=false:=by
 unfold Wd.aH
 have e1:((D.lT r).up r).find r=((D.find r).map (fun t=>if t.at r then {t with mr:={t.mr with color:=D.parity,count:=D.parity,shade:=D.parity,shadow:=0}} else t)).map (fun t=>if t.at r then {t with mr:={t.mr with refs:=t.mr.refs+1}} else t):=by
  unfold Wd.up
  rw[find_mark]
  unfold Wd.lT
  rw[find_mark]
 rw[e1]
 cases hf:D.find r with
 |none=>rfl
 |some t=>
  have hat:=find_at_r hf
  have hat2:({t with mr:={t.mr with color:=D.parity,count:=D.parity,shade:=D.parity,shadow:=0}}:Th).at r=true:=hat
  simp only[Option.map_some,hat,if_true,hat2]
  show(!decide (((D.lT r).up r).phase=0)&& !t.mr.dead&& !decide (D.parity=((D.lT r).up r).parity))=false
  have:((D.lT r).up r).parity=D.parity:=rfl
  rw[this]
  simp
theorem Lr(r:Int):(D.lT r).more r=(D.lT r).up r:=by
 unfold Wd.more
 exact dP (Fq r)
theorem bf.UI(h:bf w lo q D){r:Int}(hf:D.find r=some t)(h0:0≤t.mr.refs)(h1:t.mr.refs<4294967295):Calls Tryz.prog 130 #[.pointer (some ⟨q,0,none⟩),.int .i64 r] w (bD w lo q (D.up r) (.tuple #[.int .i64 (t.mr.refs+1),.bool true])):=by
 obtain⟨lab,a,rfl,k⟩:=h
 refine(TV k hf h0 h1).mono ?_
 rintro e w' ⟨rfl,k1,k2⟩
 exact⟨rfl,k1.iK rfl,k2⟩
theorem bf.SX(h:bf w lo q D)(r:Int):Calls Tryz.prog 129 #[.pointer (some ⟨q,0,none⟩),.int .i64 r] w (bD w lo q (D.lT r) (.bool (D.find r).isSome)):=by
 obtain⟨lab,a,rfl,k⟩:=h
 exact TR k r
theorem RZ(h:bf w lo q D)(x y:Int)(hc:D.clean.length≤8000)(hts:D.ts.length≤8000)(hb:D.mkB<1000000)(hn:D.mkE x y=0→∃t,(D.jl x y).find (D.mkR x y)=some t∧t.mr.refs=0):
  Calls Tryz.prog 68 #[.pointer (some ⟨q,0,none⟩),.int .i64 x,.int .i64 y] w (bD w lo q (D.born x y) (.tuple #[.int .i64 (D.mkR x y),.int .i64 (D.mkE x y)])):=by
 have HM:=Si x y h hc hts hb
 by_cases hE:D.mkE x y=0
 ·obtain⟨t,hf,h0⟩:=hn hE
  have E:Hid (D.born x y=((D.jl x y).lT (D.mkR x y)).up (D.mkR x y)):=hid (by unfold Wd.born;rw[if_pos hE,Lr])
  have hf2:((D.jl x y).lT (D.mkR x y)).find (D.mkR x y)=some {t with mr:={t.mr with color:=(D.jl x y).parity,count:=(D.jl x y).parity,shade:=(D.jl x y).parity,shadow:=0}}:=by
   unfold Wd.lT
   rw[find_mark,hf]
   simp[find_at_r hf]
  rw[hE] at HM ⊢
  have HM:=hid HM
  have HDy:=hid (fun w' (h':bf w' lo q (D.jl x y))=>h'.SX (D.mkR x y))
  have HUp:=hid (fun w' (h':bf w' lo q ((D.jl x y).lT (D.mkR x y)))=>h'.UI hf2 (by show 0≤t.mr.refs;omega) (by show t.mr.refs<4294967295;omega))
  clear h hf h0 hf2 hE hn
  go_enter Tryz.func68,Tryz.ntmps68
  go_wp2_with fail
  refine HM.out.mono ?_
  rintro e w1 ⟨rfl,k1,k2⟩
  have H1:=hid k1
  have T1:=hid k2
  clear k1 k2
  go_wp2_with fail
  refine(HDy.out _ H1.out).mono ?_
  rintro e w2 ⟨rfl,k1,k2⟩
  have H2:=hid k1
  have T2:=hid (T1.out.trans k2)
  clear k1 k2
  go_wp2_with fail
  refine(HUp.out _ H2.out).mono ?_
  rintro e w3 ⟨rfl,k1,k2⟩
  have H3:=hid k1
  have T3:=hid (T2.out.trans k2)
  clear k1 k2
  go_wp2_with fail
  go_ret2
  exact⟨rfl,by rw[E.out];exact H3.out,T3.out⟩
 ·have hD:D.born x y=D.jl x y:=by unfold Wd.born Wd.jl;rw[if_neg hE,if_neg hE]
  have hR0:D.mkR x y=0:=by unfold Wd.mkR;rw[if_neg hE]
  rw[hD]
  rw[hR0] at HM ⊢
  have hb:(D.mkE x y==0)=false:=aV hE
  have HM:=hid HM
  generalize D.mkE x y=E at*
  clear h hE hn hD
  go_enter Tryz.func68,Tryz.ntmps68
  go_wp2_with fail
  refine HM.out.mono ?_
  rintro e w1 ⟨rfl,k1,k2⟩
  have H1:=hid k1
  have T1:=hid k2
  clear k1 k2
  go_wp2_with fail
  go_ret2
  exact⟨rfl,H1.out,T1.out⟩
theorem CU{r s:Int}(f:Mrk→Mrk)(hi:D.ix r=some i)(ht:D.ts[i]? =some t):∃m,(D.mark s f).ix r=some i∧(D.mark s f).ts[i]? =some {t with mr:=m}:=by
 cases hs:D.ix s with
 |none=>
  have:D.mark s f=D:=by unfold Wd.mark Wd.upd;rw[wZ hs]
  rw[this]
  exact⟨t.mr,hi,ht⟩
 |some j=>
  obtain⟨v,hv,_,_⟩:=jX hs
  rw[kJ f hs hv]
  obtain⟨t2,ht2,ha,hn⟩:=jX hi
  rw[ht] at ht2
  cases ht2
  have hil:=(List.getElem?_eq_some_iff.1 ht).1
  have key:∀(l:Nat) (z:Th),(D.ts.set j {v with mr:=f v.mr})[l]? =some z→∃z0,D.ts[l]? =some z0∧∃m,z={z0 with mr:=m}:=fun l z hz=>by
   by_cases e:j=l
   ·subst e
    have hl:=(List.getElem?_eq_some_iff.1 hv).1
    rw[List.getElem?_set_self hl] at hz
    cases hz
    exact⟨v,hv,_,rfl⟩
   ·rw[List.getElem?_set_ne e] at hz
    exact⟨z,hz,z.mr,rfl⟩
  have hil2:i<(D.ts.set j {v with mr:=f v.mr}).length:=by simpa using hil
  obtain⟨z0,hz0,m,hm⟩:=key i _ (List.getElem?_eq_getElem hil2)
  rw[ht] at hz0
  cases hz0
  refine⟨m,?_,by rw[List.getElem?_eq_getElem hil2,hm]⟩
  refine vK (t:={t with mr:=m}) (by rw[List.getElem?_eq_getElem hil2,hm]) ha (fun l z hl hz=> ?_)
  obtain⟨z0,hz0,m,rfl⟩:=key l z hz
  exact hn l z0 hl hz0
theorem Iq{r s:Int}(hi:D.ix r=some i)(ht:D.ts[i]? =some t):∃m,(D.more s).ix r=some i∧(D.more s).ts[i]? =some {t with mr:=m}:=by
 obtain⟨m1,h1,h2⟩:=CU (s:=s) (fun m=>{m with refs:=m.refs+1}) hi ht
 unfold Wd.more
 rcases iG (D:=D.up s) s with h|h
 ·exact⟨m1,by unfold Wd.ix;rw[h];exact h1,by rw[h];exact h2⟩
 ·obtain⟨m2,h3,h4⟩:=CU (D:=D.up s) (s:=s) (fun m=>{m with color:=(D.up s).parity}) h1 h2
  exact⟨m2,by unfold Wd.ix;rw[h];exact h3,by rw[h];exact h4⟩
theorem uR{r:Int}(hi:D.ix r=some i)(ht:D.ts[i]? =some t)(k:Nat)(x:Int):D.setP r k x={D with ts:=D.ts.set i {t with pt:=t.pt.set k x}}:=nZ hi ht
end
section
variable {w w':World} {lo Bd:Nat} {lab:Nat→Nat} {a:WA} {D D':Wd} {i:Nat} {t t' u:Th} {x:TA} {n v b:Nat} {cl:List Nat} {ts:List Th}
def XW(lo Bd:Nat)(a:WA)(b:Nat):Prop:=b=a.q∨∃x,x∈a.tas∧(b=x.mb∨(x.pa=some ⟨b,0,none⟩∧b<Bd∧lo≤b))
theorem XW.mb(hx:a.tas[i]? =some x):XW lo Bd a x.mb:=.inr ⟨x,List.mem_of_getElem? hx,.inl rfl⟩
theorem XW.pa{g:Nat}(hx:a.tas[i]? =some x)(h:x.pa=some ⟨g,0,none⟩)(hb:g<Bd)(hl:lo≤g):XW lo Bd a g:=.inr ⟨x,List.mem_of_getElem? hx,.inr ⟨h,hb,hl⟩⟩
theorem XW.eq{a':WA}(h1:a'.q=a.q)(h2:a'.tas=a.tas):XW lo Bd a'=XW lo Bd a:=by unfold XW;rw[h1,h2]
theorem oq(hx:a.tas[i]? =some x)(k:Nat)(u:Value):Touch (XW lo Bd a) w (w.setCell ⟨x.mb,k,none⟩ u):=(Touch.refl _ _).setCell (fun _=>XW.mb hx) u
def KV(Bd:Nat)(w:World)(lo:Nat)(a:WA)(D':Wd)(v:Value)(e:Ending)(w':World):Prop:=e=.returned v∧(∃lab' a',WA.q a'=a.q∧a'.hb=a.hb∧a'.tas=a.tas∧aj w' lo lab' a' D')∧Touch (XW lo Bd a) w w'
def fo(Bd:Nat)(w:World)(lo:Nat)(a:WA)(D':Wd)(v:Value)(e:Ending)(w':World):Prop:=e=.returned v∧bf w' lo a.q D'∧Touch (XW lo Bd a) w w'
theorem TW(h:aj w lo lab a D){r:Int}(hf:D.find r=some t)(h0:0≤t.mr.refs)(h1:t.mr.refs<4294967295):
  Calls Tryz.prog 130 #[.pointer (some ⟨a.q,0,none⟩),.int .i64 r] w fun e w'=>e=.returned (.tuple #[.int .i64 (t.mr.refs+1),.bool true])∧aj w' lo lab a (D.up r)∧Touch (XW lo Bd a) w w':=by
 obtain⟨i,x,hi,ht,hx⟩:=h.found hf
 have HC:=hid (aC h hi hx)
 have HR:Hid (aj (w.setCell ⟨x.mb,0,none⟩ (.int .i64 (t.mr.refs+1))) lo lab a (D.up r)):=hid (h.ji (f:=fun m=>{m with refs:=m.refs+1}) hi ht hx (k:=0) (u:=.int .i64 (t.mr.refs+1)) rfl)
 have HT:=hid (oq (lo:=lo) (Bd:=Bd) (w:=w) hx 0 (.int .i64 (t.mr.refs+1)))
 have m0:=h.m0 ht hx
 have fz0:=(h.mb i t x ht hx).1.free 0
 have hne:(t.mr.refs==4294967295)=false:=by rw[beq_eq_false_iff_ne];omega
 have hwr:IntKind.i64.wrap (t.mr.refs+1)=t.mr.refs+1:=IntWalk.i64_in _ (by omega)
 clear h hf hi ht hx
 go_enter Tryz.func130,Tryz.ntmps130
 go_wp2_with fail
 refine HC.out.mono ?_
 rintro e w1 ⟨rfl,rfl⟩
 go_wp2_with fail
 go_ret2
 exact⟨rfl,HR.out,HT.out⟩
theorem Qg(h:aj w lo lab a D){r:Int}(hf:D.find r=some t)(h0:0<t.mr.refs)(h1:t.mr.refs≤4294967295):
  Calls Tryz.prog 187 #[.pointer (some ⟨a.q,0,none⟩),.int .i64 r] w fun e w'=>e=.returned (.tuple #[.int .i64 (t.mr.refs-1),.bool true])∧aj w' lo lab a (D.down r)∧Touch (XW lo Bd a) w w':=by
 obtain⟨i,x,hi,ht,hx⟩:=h.found hf
 have HC:=hid (aC h hi hx)
 have HR:Hid (aj (w.setCell ⟨x.mb,0,none⟩ (.int .i64 (t.mr.refs-1))) lo lab a (D.down r)):=hid (h.ji (f:=fun m=>{m with refs:=m.refs-1}) hi ht hx (k:=0) (u:=.int .i64 (t.mr.refs-1)) rfl)
 have HT:=hid (oq (lo:=lo) (Bd:=Bd) (w:=w) hx 0 (.int .i64 (t.mr.refs-1)))
 have m0:=h.m0 ht hx
 have fz0:=(h.mb i t x ht hx).1.free 0
 have hne:(t.mr.refs==0)=false:=by rw[beq_eq_false_iff_ne];omega
 have hwr:IntKind.i64.wrap (t.mr.refs-1)=t.mr.refs-1:=IntWalk.i64_in _ (by omega)
 clear h hf hi ht hx
 go_enter Tryz.func187,Tryz.ntmps187
 go_wp2_with fail
 refine HC.out.mono ?_
 rintro e w1 ⟨rfl,rfl⟩
 go_wp2_with fail
 go_ret2
 exact⟨rfl,HR.out,HT.out⟩
theorem GK(h:aj w lo lab a D){r:Int}(hn:D.fu r=false)(h0:D.cnt r=0):
  Calls Tryz.prog 188 #[.pointer (some ⟨a.q,0,none⟩),.int .i64 r] w (fo Bd w lo a (D.bury r) (.bool (D.fu r))):=by
 have E:Hid (D.bury r=D):=hid (by
  unfold Wd.fu at hn
  unfold Wd.bury
  cases hf:D.find r with
  |none=>rfl
  |some t=>rw[hf] at hn;simp only at hn ⊢;rw[if_pos (by simpa using hn)])
 have E2:=hid hn
 cases hf:D.find r with
 |none=>
  have HC:=hid (dE h hf)
  have H:=hid h
  clear h hf hn h0
  go_enter Tryz.func188,Tryz.ntmps188
  go_wp2_with fail
  refine HC.out.mono ?_
  rintro e w1 ⟨rfl,rfl⟩
  go_wp2_with fail
  go_ret
  exact⟨by rw[E2.out];rfl,by rw[E.out];exact⟨lab,a,rfl,H.out⟩,Touch.refl _ _⟩
 |some t=>
  obtain⟨i,x,hi,ht,hx⟩:=h.found hf
  have hd:t.mr.dead=true:=by
   unfold Wd.fu at hn
   rw[hf] at hn
   simpa using hn
  have HC:=hid (aC h hi hx)
  have m5:=h.m5 ht hx
  have m0:=h.m0 ht hx
  rw[hd] at m5
  have H:=hid h
  clear h hf hn h0 hi ht hx hd
  go_enter Tryz.func188,Tryz.ntmps188
  go_wp2_with fail
  refine HC.out.mono ?_
  rintro e w1 ⟨rfl,rfl⟩
  go_wp2_with fail
  go_ret
  exact⟨by rw[E2.out];rfl,by rw[E.out];exact⟨lab,a,rfl,H.out⟩,Touch.refl _ _⟩
set_option maxHeartbeats 2000000 in
theorem Bf(h:aj w lo lab a D){r:Int}(hf:D.find r=some t)(hd:t.mr.dead=false)(h0:t.mr.refs=0)(hs:D.scan=r)(hrl:D.ring.length≤8000)(hgl:D.grave.length≤8000)(hp0:0≤D.pending)(hp1:D.pending≤4294900000)(hll:t.lv.length≤1000):
  Calls Tryz.prog 188 #[.pointer (some ⟨a.q,0,none⟩),.int .i64 r] w (fo Bd w lo a (D.lay r t) (.bool true)):=by
 obtain⟨i,x,hi,ht,hx⟩:=h.found hf
 obtain⟨_,_,hrt⟩:=bG hf
 have hbd:=h.h.bd t (List.mem_of_getElem? ht)
 have HC:=hid (aC h hi hx)
 have HFi:=hid (fun w' (h':aj w' lo lab a D)=>aI h' hi hx)
 have m5:=h.m5 ht hx
 have m0:=h.m0 ht hx
 rw[hd] at m5
 rw[h0] at m0
 have hwr:IntKind.i64.wrap (r-1)=(t.h:Int):=by rw[show r-1=(t.h:Int) by omega];exact IntWalk.i64_in _ (by omega)
 have hw1:IntKind.i64.wrap (D.pending+1)=D.pending+1:=IntWalk.i64_in _ (by omega)
 have hw2:IntKind.i64.wrap (D.pending+1+(t.lv.length:Int))=D.pending+1+(t.lv.length:Int):=IntWalk.i64_in _ (by omega)
 have hsc:(D.scan==r)=true:=uj hs
 have HRC:Hid (((t.h+1:Nat):Int)=r):=hid (by omega)
 obtain⟨n1,n2⟩:=h.ne ht hx
 obtain⟨k1,k2,k3,k4,k5,k6⟩:=h.xP ht hx
 have H:=hid h
 have HI:=hid hi
 have HT:=hid ht
 have HX:=hid hx
 have HRl:=hid hrl
 have HGl:=hid hgl
 have HS:=hid hs
 have c0:=h.c0
 clear h hf hi ht hx hd h0 hrt hbd hrl hgl hs
 go_enter Tryz.func188,Tryz.ntmps188
 go_wp2_with fail
 refine HC.out.mono ?_
 rintro e w1 ⟨rfl,rfl⟩
 go_wp2_with fail
 refine(HFi.out _ H.out).mono ?_
 rintro e w1 ⟨rfl,hw⟩
 have H1:Hid (aj w1 lo lab a D):=hid (hw▸H.out)
 have T1:Hid (Touch (XW lo Bd a) w w1):=hid (hw▸Touch.refl _ _)
 clear hw m5 m0 c0
 have c11:=H1.out.c11
 have m5:=H1.out.m5 HT.out HX.out
 have f5:=(H1.out.mb i t x HT.out HX.out).1.free 5
 have HK:Hid (aj (w1.setCell ⟨x.mb,5,none⟩ (.bool true)) lo lab a (D.kill r)):=hid (H1.out.ji (f:=fun m=>{m with dead:=true}) HI.out HT.out HX.out (k:=5) (u:=.bool true) rfl)
 have HKT:=hid (T1.out.trans (oq (lo:=lo) (Bd:=Bd) HX.out 5 (.bool true)))
 have HA1:=hid (fV (fun m=>{m with dead:=true}) HI.out HT.out)
 go_wp2_with fail
 generalize hw2:World.setCell _ _ _=w2 at*
 have H2:Hid (aj w2 lo lab a (D.kill r)):=hid HK.out
 have T2:=hid HKT.out
 clear hw2 HK HKT H1 T1 c11 m5 f5
 have HWo:=hid (qU a.ra a.rc D.ring (D.ring.filter (fun b=>b !=t.h)) (t.h:Int) w2 H2.out.rg (by have:=HRl.out;omega) (kI _ _))
 refine HWo.out.mono ?_
 rintro e w3 ⟨ra,rc,rfl,hr,hf,hb⟩
 obtain⟨lab3,k⟩:=H2.out.jG hb rc hr hf
 have H3:Hid (aj (w3.setCell ⟨a.q,11,none⟩ (.slice ra (D.ring.filter (fun b=>b !=t.h)).length rc)) lo lab3 {a with ra:=ra,rc:=rc} ((D.kill r).aJ t.h)):=hid k
 have T3:=hid ((T2.out.trans (Touch.of_below hb)).setCell (p:=⟨a.q,11,none⟩) (fun _=>.inl rfl) (.slice ra (D.ring.filter (fun b=>b !=t.h)).length rc))
 have H2b:Hid (aj w3 lo lab a (D.kill r)):=hid (H2.out.later hb)
 clear k hr hf hb HWo
 have q11:=H2b.out.c11
 have q6:w3.cell? ⟨a.q,6,none⟩=some (.int .i64 D.scan):=H2b.out.c6
 have q12:w3.cell? ⟨a.q,12,none⟩=some (.slice a.ga D.grave.length a.gc):=H2b.out.c12
 have f11:=H2b.out.wb.free 11
 have f6:=H2b.out.wb.free 6
 have y2:=(H2b.out.h.th i _ x HA1.out.2 HX.out).c2
 have y1:=(H2b.out.h.th i _ x HA1.out.2 HX.out).c1
 have y6:=(H2b.out.mb i _ x HA1.out.2 HX.out).1.cell 6 rfl
 have y7:=(H2b.out.mb i _ x HA1.out.2 HX.out).1.cell 7 rfl
 have g6:=(H2b.out.mb i _ x HA1.out.2 HX.out).1.free 6
 have g7:=(H2b.out.mb i _ x HA1.out.2 HX.out).1.free 7
 go_wp2_with fail
 generalize hw4:World.setCell (World.setCell (World.setCell (World.setCell _ _ _) _ _) _ _) _ _=w4 at*
 have HA2:=hid (fV (D:=({(D.kill r).aJ t.h with scan:=0}:Wd)) (fun m=>{m with left:=(t.pt.length:Int)}) HA1.out.1 HA1.out.2)
 have HA3:=hid (fV (D:=({(D.kill r).aJ t.h with scan:=0}:Wd).mark r (fun m=>{m with left:=(t.pt.length:Int)})) (fun m=>{m with leaves:=(t.lv.length:Int)}) HA2.out.1 HA2.out.2)
 have H4:Hid (aj w4 lo lab3 {a with ra:=ra,rc:=rc} ((({(D.kill r).aJ t.h with scan:=0}:Wd).mark r (fun m=>{m with left:=(t.pt.length:Int)})).mark r (fun m=>{m with leaves:=(t.lv.length:Int)}))):=hid (hw4▸((H3.out.bP (D':={(D.kill r).aJ t.h with scan:=0}) (k:=6) (u:=.int .i64 0) rfl rfl rfl rfl rfl rfl rfl).ji (i:=i) (x:=x) (f:=fun m=>{m with left:=(t.pt.length:Int)}) HA1.out.1 HA1.out.2 HX.out (k:=6) (u:=.int .i64 (t.pt.length:Int)) rfl).ji (i:=i) (x:=x) (f:=fun m=>{m with leaves:=(t.lv.length:Int)}) HA2.out.1 HA2.out.2 HX.out (k:=7) (u:=.int .i64 (t.lv.length:Int)) rfl)
 have T4:Hid (Touch (XW lo Bd a) w w4):=hid (hw4▸((T3.out.setCell (p:=⟨a.q,6,none⟩) (fun _=>.inl rfl) (.int .i64 0)).setCell (p:=⟨x.mb,6,none⟩) (fun _=>XW.mb HX.out) _).setCell (p:=⟨x.mb,7,none⟩) (fun _=>XW.mb HX.out) _)
 have HLay:=hid (CG HS.out (t:=t))
 clear hw4 q11 q6 q12 f11 f6 y2 y1 y6 y7 g6 g7 H3 T3 H2b H2
 have c12:w4.cell? ⟨a.q,12,none⟩=some (.slice a.ga D.grave.length a.gc):=H4.out.c12
 have HBe:=hid (mE a.ga a.gc D.grave (t.h+1) w4 H4.out.gv (by have:=HGl.out;omega))
 rw[HRC.out] at HBe
 refine HBe.out.mono ?_
 rintro e w5 ⟨ga,gc,rfl,hr,hf,hb⟩
 obtain⟨lab5,k⟩:=H4.out.nJ hb gc hr hf
 rw[show(D.grave++[t.h+1]).length=D.grave.length+1 by simp] at k
 have H4b:=hid (H4.out.later hb)
 have H5:=hid (k.bP (k:=13) (u:=.int .i64 (D.pending+1+(t.lv.length:Int))) (D':=D.lay r t) (by rw[HLay.out];rfl) (by rw[HLay.out]) (by rw[HLay.out]) (by rw[HLay.out]) (by rw[HLay.out]) (by rw[HLay.out]) (by rw[HLay.out]))
 have T5:=hid (((T4.out.trans (Touch.of_below hb)).setCell (p:=⟨a.q,12,none⟩) (fun _=>.inl rfl) (.slice ga (D.grave.length+1) gc)).setCell (p:=⟨a.q,13,none⟩) (fun _=>.inl rfl) (.int .i64 (D.pending+1+(t.lv.length:Int))))
 clear k hr hf hb HBe c12
 have q12:=H4b.out.c12
 have q13:w5.cell? ⟨a.q,13,none⟩=some (.int .i64 D.pending):=H4b.out.c13
 have f12:=H4b.out.wb.free 12
 have f13:=H4b.out.wb.free 13
 have y1:=(H4b.out.h.th i _ x HA3.out.2 HX.out).c1
 go_wp2_with fail
 go_region_with (fail)
 all_goals
  go_wp2_with fail
  go_ret
  exact⟨rfl,H5.out.drew.iK rfl,T5.out.drew⟩
set_option maxHeartbeats 2000000 in
theorem Be(h:aj w lo lab a D){r:Int}(hf:D.find r=some t)(hd:t.mr.dead=false)(h0:t.mr.refs=0)(hs:¬D.scan=r)(hrl:D.ring.length≤8000)(hgl:D.grave.length≤8000)(hp0:0≤D.pending)(hp1:D.pending≤4294900000)(hll:t.lv.length≤1000):
  Calls Tryz.prog 188 #[.pointer (some ⟨a.q,0,none⟩),.int .i64 r] w (fo Bd w lo a (D.lay r t) (.bool true)):=by
 obtain⟨i,x,hi,ht,hx⟩:=h.found hf
 obtain⟨_,_,hrt⟩:=bG hf
 have hbd:=h.h.bd t (List.mem_of_getElem? ht)
 have HC:=hid (aC h hi hx)
 have HFi:=hid (fun w' (h':aj w' lo lab a D)=>aI h' hi hx)
 have m5:=h.m5 ht hx
 have m0:=h.m0 ht hx
 rw[hd] at m5
 rw[h0] at m0
 have hwr:IntKind.i64.wrap (r-1)=(t.h:Int):=by rw[show r-1=(t.h:Int) by omega];exact IntWalk.i64_in _ (by omega)
 have hw1:IntKind.i64.wrap (D.pending+1)=D.pending+1:=IntWalk.i64_in _ (by omega)
 have hw2:IntKind.i64.wrap (D.pending+1+(t.lv.length:Int))=D.pending+1+(t.lv.length:Int):=IntWalk.i64_in _ (by omega)
 have hsc:(D.scan==r)=false:=aV hs
 have HRC:Hid (((t.h+1:Nat):Int)=r):=hid (by omega)
 obtain⟨n1,n2⟩:=h.ne ht hx
 obtain⟨k1,k2,k3,k4,k5,k6⟩:=h.xP ht hx
 have H:=hid h
 have HI:=hid hi
 have HT:=hid ht
 have HX:=hid hx
 have HRl:=hid hrl
 have HGl:=hid hgl
 have HS:=hid hs
 have c0:=h.c0
 clear h hf hi ht hx hd h0 hrt hbd hrl hgl hs
 go_enter Tryz.func188,Tryz.ntmps188
 go_wp2_with fail
 refine HC.out.mono ?_
 rintro e w1 ⟨rfl,rfl⟩
 go_wp2_with fail
 refine(HFi.out _ H.out).mono ?_
 rintro e w1 ⟨rfl,hw⟩
 have H1:Hid (aj w1 lo lab a D):=hid (hw▸H.out)
 have T1:Hid (Touch (XW lo Bd a) w w1):=hid (hw▸Touch.refl _ _)
 clear hw m5 m0 c0
 have c11:=H1.out.c11
 have m5:=H1.out.m5 HT.out HX.out
 have f5:=(H1.out.mb i t x HT.out HX.out).1.free 5
 have HK:Hid (aj (w1.setCell ⟨x.mb,5,none⟩ (.bool true)) lo lab a (D.kill r)):=hid (H1.out.ji (f:=fun m=>{m with dead:=true}) HI.out HT.out HX.out (k:=5) (u:=.bool true) rfl)
 have HKT:=hid (T1.out.trans (oq (lo:=lo) (Bd:=Bd) HX.out 5 (.bool true)))
 have HA1:=hid (fV (fun m=>{m with dead:=true}) HI.out HT.out)
 go_wp2_with fail
 generalize hw2:World.setCell _ _ _=w2 at*
 have H2:Hid (aj w2 lo lab a (D.kill r)):=hid HK.out
 have T2:=hid HKT.out
 clear hw2 HK HKT H1 T1 c11 m5 f5
 have HWo:=hid (qU a.ra a.rc D.ring (D.ring.filter (fun b=>b !=t.h)) (t.h:Int) w2 H2.out.rg (by have:=HRl.out;omega) (kI _ _))
 refine HWo.out.mono ?_
 rintro e w3 ⟨ra,rc,rfl,hr,hf,hb⟩
 obtain⟨lab3,k⟩:=H2.out.jG hb rc hr hf
 have H3:Hid (aj (w3.setCell ⟨a.q,11,none⟩ (.slice ra (D.ring.filter (fun b=>b !=t.h)).length rc)) lo lab3 {a with ra:=ra,rc:=rc} ((D.kill r).aJ t.h)):=hid k
 have T3:=hid ((T2.out.trans (Touch.of_below hb)).setCell (p:=⟨a.q,11,none⟩) (fun _=>.inl rfl) (.slice ra (D.ring.filter (fun b=>b !=t.h)).length rc))
 have H2b:Hid (aj w3 lo lab a (D.kill r)):=hid (H2.out.later hb)
 clear k hr hf hb HWo
 have q11:=H2b.out.c11
 have q6:w3.cell? ⟨a.q,6,none⟩=some (.int .i64 D.scan):=H2b.out.c6
 have q12:w3.cell? ⟨a.q,12,none⟩=some (.slice a.ga D.grave.length a.gc):=H2b.out.c12
 have f11:=H2b.out.wb.free 11
 have f6:=H2b.out.wb.free 6
 have y2:=(H2b.out.h.th i _ x HA1.out.2 HX.out).c2
 have y1:=(H2b.out.h.th i _ x HA1.out.2 HX.out).c1
 have y6:=(H2b.out.mb i _ x HA1.out.2 HX.out).1.cell 6 rfl
 have y7:=(H2b.out.mb i _ x HA1.out.2 HX.out).1.cell 7 rfl
 have g6:=(H2b.out.mb i _ x HA1.out.2 HX.out).1.free 6
 have g7:=(H2b.out.mb i _ x HA1.out.2 HX.out).1.free 7
 go_wp2_with fail
 generalize hw4:World.setCell (World.setCell (World.setCell _ _ _) _ _) _ _=w4 at*
 have HA2:=hid (fV (D:=((D.kill r).aJ t.h)) (fun m=>{m with left:=(t.pt.length:Int)}) HA1.out.1 HA1.out.2)
 have HA3:=hid (fV (D:=((D.kill r).aJ t.h).mark r (fun m=>{m with left:=(t.pt.length:Int)})) (fun m=>{m with leaves:=(t.lv.length:Int)}) HA2.out.1 HA2.out.2)
 have H4:Hid (aj w4 lo lab3 {a with ra:=ra,rc:=rc} ((((D.kill r).aJ t.h).mark r (fun m=>{m with left:=(t.pt.length:Int)})).mark r (fun m=>{m with leaves:=(t.lv.length:Int)}))):=hid (hw4▸((H3.out).ji (i:=i) (x:=x) (f:=fun m=>{m with left:=(t.pt.length:Int)}) HA1.out.1 HA1.out.2 HX.out (k:=6) (u:=.int .i64 (t.pt.length:Int)) rfl).ji (i:=i) (x:=x) (f:=fun m=>{m with leaves:=(t.lv.length:Int)}) HA2.out.1 HA2.out.2 HX.out (k:=7) (u:=.int .i64 (t.lv.length:Int)) rfl)
 have T4:Hid (Touch (XW lo Bd a) w w4):=hid (hw4▸(T3.out.setCell (p:=⟨x.mb,6,none⟩) (fun _=>XW.mb HX.out) _).setCell (p:=⟨x.mb,7,none⟩) (fun _=>XW.mb HX.out) _)
 have HLay:=hid (vM HS.out (t:=t))
 clear hw4 q11 q6 q12 f11 f6 y2 y1 y6 y7 g6 g7 H3 T3 H2b H2
 have c12:w4.cell? ⟨a.q,12,none⟩=some (.slice a.ga D.grave.length a.gc):=H4.out.c12
 have HBe:=hid (mE a.ga a.gc D.grave (t.h+1) w4 H4.out.gv (by have:=HGl.out;omega))
 rw[HRC.out] at HBe
 refine HBe.out.mono ?_
 rintro e w5 ⟨ga,gc,rfl,hr,hf,hb⟩
 obtain⟨lab5,k⟩:=H4.out.nJ hb gc hr hf
 rw[show(D.grave++[t.h+1]).length=D.grave.length+1 by simp] at k
 have H4b:=hid (H4.out.later hb)
 have H5:=hid (k.bP (k:=13) (u:=.int .i64 (D.pending+1+(t.lv.length:Int))) (D':=D.lay r t) (by rw[HLay.out];rfl) (by rw[HLay.out]) (by rw[HLay.out]) (by rw[HLay.out]) (by rw[HLay.out]) (by rw[HLay.out]) (by rw[HLay.out]))
 have T5:=hid (((T4.out.trans (Touch.of_below hb)).setCell (p:=⟨a.q,12,none⟩) (fun _=>.inl rfl) (.slice ga (D.grave.length+1) gc)).setCell (p:=⟨a.q,13,none⟩) (fun _=>.inl rfl) (.int .i64 (D.pending+1+(t.lv.length:Int))))
 clear k hr hf hb HBe c12
 have q12:=H4b.out.c12
 have q13:w5.cell? ⟨a.q,13,none⟩=some (.int .i64 D.pending):=H4b.out.c13
 have f12:=H4b.out.wb.free 12
 have f13:=H4b.out.wb.free 13
 have y1:=(H4b.out.h.th i _ x HA3.out.2 HX.out).c1
 go_wp2_with fail
 go_region_with (fail)
 all_goals
  go_wp2_with fail
  go_ret
  exact⟨rfl,H5.out.drew.iK rfl,T5.out.drew⟩
theorem Qe(h:aj w lo lab a D)(r:Int)(h0:D.cnt r=0)(hrl:D.ring.length≤8000)(hgl:D.grave.length≤8000)(hp0:0≤D.pending)(hp1:D.pending≤4294900000)(hll:∀t,D.find r=some t→t.lv.length≤1000):
  Calls Tryz.prog 188 #[.pointer (some ⟨a.q,0,none⟩),.int .i64 r] w (fo Bd w lo a (D.bury r) (.bool (D.fu r))):=by
 cases hb:D.fu r with
 |false=>rw[←hb];exact GK (Bd:=Bd) h hb h0
 |true=>
  unfold Wd.fu at hb
  unfold Wd.bury
  cases hf:D.find r with
  |none=>rw[hf] at hb;cases hb
  |some t=>
   rw[hf] at hb
   have hd:t.mr.dead=false:=by simpa using hb
   have hr0:t.mr.refs=0:=by unfold Wd.cnt at h0;rw[hf] at h0;exact h0
   simp only
   rw[if_neg (by rw[hd];decide)]
   by_cases hs:D.scan=r
   ·exact Bf (Bd:=Bd) h hf hd hr0 hs hrl hgl hp0 hp1 (hll t hf)
   ·exact Be (Bd:=Bd) h hf hd hr0 hs hrl hgl hp0 hp1 (hll t hf)
theorem sQ(h:aj w lo lab a D)(r:Int)(hl:D.ring.length≤8000):
  Calls Tryz.prog 133 #[.pointer (some ⟨a.q,0,none⟩),.int .i64 r] w (KV Bd w lo a (D.touch r) (.bool (D.aH r))):=by
 cases hf:D.find r with
 |none=>
  have E:Hid (D.aH r=false):=hid (by unfold Wd.aH;rw[hf])
  have HC:=hid (dE h hf)
  have H:=hid h
  clear h hf hl
  go_enter Tryz.func133,Tryz.ntmps133
  go_wp2_with fail
  refine HC.out.mono ?_
  rintro e w1 ⟨rfl,rfl⟩
  go_wp2_with fail
  go_quiet (fail)
  go_wp2_with fail
  go_ret
  exact⟨by rw[E.out];rfl,by rw[dP E.out];exact⟨lab,a,rfl,rfl,rfl,H.out.bE ⟨_,rfl⟩⟩,Touch.of_below (bR.new ⟨_,rfl⟩)⟩
 |some t=>
  obtain⟨i,x,hi,ht,hx⟩:=h.found hf
  have ET:D.aH r=(!decide (D.phase=0)&& !t.mr.dead&& !decide (t.mr.color=D.parity)):=by unfold Wd.aH;rw[hf]
  obtain⟨_,_,hrt⟩:=bG hf
  have hbd:=h.h.bd t (List.mem_of_getElem? ht)
  have HC:=hid (aC h hi hx)
  have c2:=h.c2
  have c3:=h.c3
  have m1:=h.m1 ht hx
  have m5:=h.m5 ht hx
  by_cases hp:D.phase=0
  ·have E:Hid (D.aH r=false):=hid (by rw[ET];simp[hp])
   have H:=hid h
   rw[hp] at c3
   clear h hf hl ET hi ht hx hrt hbd hp
   go_enter Tryz.func133,Tryz.ntmps133
   go_wp2_with fail
   refine HC.out.mono ?_
   rintro e w1 ⟨rfl,rfl⟩
   go_wp2_with fail
   go_quiet (fail)
   go_wp2_with fail
   go_ret
   exact⟨by rw[E.out];rfl,by rw[dP E.out];exact⟨lab,a,rfl,rfl,rfl,H.out.bE ⟨_,rfl⟩⟩,Touch.of_below (bR.new ⟨_,rfl⟩)⟩
  ·have hpb:=aV hp
   cases hd:t.mr.dead with
   |true=>
    have E:Hid (D.aH r=false):=hid (by rw[ET];simp[hd])
    have H:=hid h
    rw[hd] at m5
    clear h hf hl ET hi ht hx hrt hbd hp hd
    go_enter Tryz.func133,Tryz.ntmps133
    go_wp2_with fail
    refine HC.out.mono ?_
    rintro e w1 ⟨rfl,rfl⟩
    go_wp2_with fail
    go_quiet (fail)
    go_wp2_with fail
    go_ret
    exact⟨by rw[E.out];rfl,by rw[dP E.out];exact⟨lab,a,rfl,rfl,rfl,H.out.bE ⟨_,rfl⟩⟩,Touch.of_below (bR.new ⟨_,rfl⟩)⟩
   |false=>
    rw[hd] at m5
    by_cases hc:t.mr.color=D.parity
    ·have E:Hid (D.aH r=false):=hid (by rw[ET];simp[hc])
     have H:=hid h
     rw[hc] at m1
     clear h hf hl ET hi ht hx hrt hbd hp hd hc
     go_enter Tryz.func133,Tryz.ntmps133
     go_wp2_with fail
     refine HC.out.mono ?_
     rintro e w1 ⟨rfl,rfl⟩
     go_wp2_with fail
     go_quiet (fail)
     go_wp2_with fail
     go_ret
     exact⟨by rw[E.out];rfl,by rw[dP E.out];exact⟨lab,a,rfl,rfl,rfl,H.out.bE ⟨_,rfl⟩⟩,Touch.of_below (bR.new ⟨_,rfl⟩)⟩
    ·have E:Hid (D.aH r=true):=hid (by rw[ET];simp[hd,hc,hp])
     have hcb:=aV hc
     have hwr:IntKind.i64.wrap (r-1)=(t.h:Int):=by rw[show r-1=(t.h:Int) by omega];exact IntWalk.i64_in _ (by omega)
     have HRT:Hid (r-1=(t.h:Int)):=hid (by omega)
     have HL:=hid hl
     have H:=hid h
     have HI:=hid hi
     have HT:=hid ht
     have HX:=hid hx
     obtain⟨n1,n2⟩:=h.ne ht hx
     have fz1:=(h.mb i t x ht hx).1.free 1
     have c11:=h.c11
     clear h hf hl ET hi ht hx hrt hbd hp hd hc
     go_enter Tryz.func133,Tryz.ntmps133
     go_wp2_with fail
     refine HC.out.mono ?_
     rintro e w1 ⟨rfl,rfl⟩
     go_wp2_with fail
     go_quiet (fail)
     have HQ:=hid (fun m=>((H.out.bE (w':=w.drewN m) ⟨m,rfl⟩).ji (f:=fun k=>{k with color:=D.parity}) HI.out HT.out HX.out (k:=1) (u:=.int .i64 D.parity) rfl))
     have HTQ:=hid (fun m=>(Touch.of_below (X:=XW lo Bd a) (bR.new (w:=w) (w':=w.drewN m) ⟨m,rfl⟩)).trans (oq (lo:=lo) (Bd:=Bd) HX.out 1 (.int .i64 D.parity)))
     go_wp2_with fail
     generalize hw1:World.setCell _ _ _=w1 at*
     have H1:Hid (aj w1 lo lab a (D.paint r)):=hid (hw1▸HQ.out _)
     have T1:Hid (Touch (XW lo Bd a) w w1):=hid (hw1▸HTQ.out _)
     clear hw1 HQ HTQ c2 c3 m1 m5 fz1 c11
     have c11:w1.cell? ⟨a.q,11,none⟩=some (.slice a.ra D.ring.length a.rc):=H1.out.c11
     have HH:=hid (RD a.ra a.rc D.ring (t.h:Int) w1 H1.out.rg (by have:=HL.out;omega))
     refine HH.out.mono ?_
     rintro e w2 ⟨rfl,rfl⟩
     cases hh:hasB (ints D.ring) (t.h:Int) with
     |true=>
      have HE:Hid (D.touch r=D.paint r):=hid (by
       unfold Wd.touch
       rw[E.out,if_pos rfl,HRT.out,hh,if_pos rfl]
       rfl)
      clear hh HH
      go_wp2_with fail
      go_ret
      exact⟨by rw[E.out];rfl,by rw[HE.out];exact⟨lab,a,rfl,rfl,rfl,H1.out⟩,T1.out⟩
     |false=>
      have HE:Hid (D.touch r={D.paint r with ring:=D.ring++[t.h]}):=hid (by
       unfold Wd.touch
       rw[E.out,if_pos rfl,HRT.out,hh,if_neg (by decide)]
       simp)
      have HB:=hid (mE a.ra a.rc D.ring t.h w1 H1.out.rg (by have:=HL.out;omega))
      clear hh HH
      go_wp2_with fail
      refine HB.out.mono ?_
      rintro e w2 ⟨ra,rc,rfl,hr,hf,hb⟩
      have h0:=aj.jG H1.out hb rc hr hf
      rw[show(D.ring++[t.h]).length=D.ring.length+1 by simp] at h0
      have HW:=hid h0
      clear h0
      have HTW:=hid ((T1.out.trans (Touch.of_below hb)).setCell (p:=⟨a.q,11,none⟩) (fun _=>.inl rfl) (.slice ra (D.ring.length+1) rc))
      have c11:w2.cell? ⟨a.q,11,none⟩=some (.slice a.ra D.ring.length a.rc):=(H1.out.later hb).c11
      have fz:=((H1.out.later hb).wb).free 11
      clear hr hf hb
      go_wp2_with fail
      go_ret
      exact⟨by rw[E.out];rfl,by rw[HE.out];obtain⟨lab2,k⟩:=HW.out;exact⟨lab2,{a with ra:=ra,rc:=rc},rfl,rfl,rfl,k⟩,HTW.out⟩
theorem IU(h:aj w lo lab a D){r:Int}(hf:D.find r=some t)(hd:t.mr.dead=false)(h0:0≤t.mr.refs)(h1:t.mr.refs<4294967295)(hl:D.ring.length≤8000):
  Calls Tryz.prog 71 #[.pointer (some ⟨a.q,0,none⟩),.int .i64 r] w (KV Bd w lo a (D.more r) (.bool true)):=by
 have HA:=fB h r
 rw[aQ hf,hd] at HA
 have HA:=hid HA
 have H:=hid h
 have HUp:=hid (fun w' (h':aj w' lo lab a D)=>TW (Bd:=Bd) h' hf h0 h1)
 have HTo:=hid (fun w' (h':aj w' lo lab a (D.up r))=>sQ (Bd:=Bd) h' r hl)
 clear h hd hf h0 h1 hl
 go_enter Tryz.func71,Tryz.ntmps71
 go_wp2_with fail
 refine HA.out.mono ?_
 rintro e w1 ⟨rfl,hd⟩
 have H1:=hid (H.out.bE hd)
 have T1:=hid (Touch.of_below (X:=XW lo Bd a) hd.new)
 clear hd
 go_wp2_with fail
 refine(HUp.out _ H1.out).mono ?_
 rintro e w2 ⟨rfl,k1,k2⟩
 have H2:=hid k1
 have T2:=hid (T1.out.trans k2)
 clear k1 k2
 go_wp2_with fail
 refine(HTo.out _ H2.out).mono ?_
 rintro e w3 ⟨rfl,k1,k2⟩
 have H3:=hid k1
 have T3:=hid (T2.out.trans k2)
 clear k1 k2
 go_wp2_with fail
 go_ret
 exact⟨rfl,H3.out,T3.out⟩
theorem WB.SN(B:WB D)(h:aj w lo lab a D)(r:Int)(h0:D.cnt r=0):Calls Tryz.prog 188 #[.pointer (some ⟨a.q,0,none⟩),.int .i64 r] w (fo Bd w lo a (D.bury r) (.bool (D.fu r))):=
 Qe (Bd:=Bd) h r h0 B.rl B.gl B.p0 B.p1 (B.ll r)
theorem IV(h:aj w lo lab a D)(B:WB D){r:Int}(hf:D.find r=some t)(h0:0<t.mr.refs):
  Calls Tryz.prog 134 #[.pointer (some ⟨a.q,0,none⟩),.int .i64 r] w (fo Bd w lo a (D.less r) (.tuple #[])):=by
 have hb:=B.rf r t hf
 have c8:=h.c8
 have f8:=h.wb.free 8
 have k1:=h.bP (k:=8) (u:=.int .i64 1) (D':=D.pR) rfl rfl rfl rfl rfl rfl rfl
 have HT1:Hid (Touch (XW lo Bd a) w (w.setCell ⟨a.q,8,none⟩ (.int .i64 1))):=hid ((Touch.refl (XW lo Bd a) w).setCell (p:=⟨a.q,8,none⟩) (fun _=>.inl rfl) _)
 have hfs:D.pR.find r=some t:=hf
 have HD:=hid (Qg (Bd:=Bd) k1 hfs h0 hb.2)
 have B2:WB (D.down r).pR:=(B.down hf h0).pR
 have hc:(D.down r).pR.cnt r=t.mr.refs-1:=by
  have:(D.down r).pR.find r=some {t with mr:={t.mr with refs:=t.mr.refs-1}}:=by
   show(D.down r).find r=_
   unfold Wd.down
   rw[find_mark,hf]
   simp[find_at_r hf]
  unfold Wd.cnt
  rw[this]
 by_cases h1:t.mr.refs-1=0
 ·have E:Hid (D.less r=(D.down r).pR.bury r):=hid (by unfold Wd.less Wd.inter;rw[if_pos (by rw[hc];exact h1)])
  have HBu:=hid (fun w' lab' a' (h':aj w' lo lab' a' (D.down r).pR)=>B2.SN (Bd:=Bd) h' r (by rw[hc];exact h1))
  rw[h1] at HD
  clear h hf h0 hb B B2 hc h1 hfs k1
  go_enter Tryz.func134,Tryz.ntmps134
  go_wp2_with fail
  refine HD.out.mono ?_
  rintro e w2 ⟨rfl,k1,k2⟩
  have H2:=hid k1
  have T2:=hid (HT1.out.trans k2)
  clear k1 k2
  go_wp2_with fail
  refine(HBu.out _ _ _ H2.out).mono ?_
  rintro e w3 ⟨rfl,k1,k2⟩
  have H3:=hid k1
  have T3:=hid (T2.out.trans k2)
  clear k1 k2
  go_wp2_with fail
  go_end0
  exact⟨rfl,by rw[E.out];exact H3.out,T3.out⟩
 ·have E:Hid (D.less r=(D.down r).pR):=hid (by unfold Wd.less Wd.inter;rw[if_neg (by rw[hc];exact h1)])
  have hb1:(t.mr.refs-1==0)=false:=aV h1
  clear h hf h0 hb B B2 hc h1 hfs k1
  go_enter Tryz.func134,Tryz.ntmps134
  go_wp2_with fail
  refine HD.out.mono ?_
  rintro e w2 ⟨rfl,k1,k2⟩
  have H2:=hid k1
  have T2:=hid (HT1.out.trans k2)
  clear k1 k2
  go_wp2_with fail
  go_end0
  exact⟨rfl,by rw[E.out];exact H2.out.iK rfl,T2.out⟩
theorem EK(h:aj w lo lab a D){r:Int}(hn:D.aliveB r=false)(k x:Int):
  Calls Tryz.prog 69 #[.pointer (some ⟨a.q,0,none⟩),.int .i64 r,.int .i64 k,.int .i64 x] w (fo Bd w lo a D (.int .i64 8)):=by
 have HA:=fB h r
 rw[hn] at HA
 have HA:=hid HA
 have H:=hid h
 clear h hn
 go_enter Tryz.func69,Tryz.ntmps69
 go_wp2_with fail
 refine HA.out.mono ?_
 rintro e w1 ⟨rfl,hd⟩
 have H1:=hid (H.out.bE hd)
 have T1:=hid (Touch.of_below (X:=XW lo Bd a) hd.new)
 clear hd
 go_wp2_with fail
 go_ret
 exact⟨rfl,H1.out.iK rfl,T1.out⟩
theorem Bo(h:aj w lo lab a D){r:Int}(hf:D.find r=some t)(hd:t.mr.dead=false){k:Int}(hk:¬(0≤k∧k<(t.pt.length:Int)))(x:Int):
  Calls Tryz.prog 69 #[.pointer (some ⟨a.q,0,none⟩),.int .i64 r,.int .i64 k,.int .i64 x] w (fo Bd w lo a D (.int .i64 7)):=by
 have HA:=fB h r
 rw[aQ hf,hd] at HA
 have HA:=hid HA
 have HWr:=hid (fun w' (h':aj w' lo lab a D)=>Cy h' hf hk)
 have HC0:=hid (fun w' (h':aj w' lo lab a D)=>h'.c0)
 have H:=hid h
 clear h hf hd hk
 go_enter Tryz.func69,Tryz.ntmps69
 go_wp2_with fail
 refine HA.out.mono ?_
 rintro e w1 ⟨rfl,hd⟩
 have H1:=hid (H.out.bE hd)
 have T1:=hid (Touch.of_below (X:=XW lo Bd a) hd.new)
 clear hd
 have c0:=HC0.out _ H1.out
 go_wp2_with fail
 refine(HWr.out _ H1.out).mono ?_
 rintro e w2 ⟨rfl,rfl⟩
 go_wp2_with fail
 go_ret
 exact⟨rfl,H1.out.iK rfl,T1.out⟩
theorem GN(h:aj w lo lab a D){r:Int}(hf:D.find r=some t)(hd:t.mr.dead=false)(z:ES D.w t){k:Nat}(hk:k<t.pt.length)(hs:dS D.w t k=false){x:Int}(hx:x≠0)(hxa:D.aliveB x=false):
  Calls Tryz.prog 69 #[.pointer (some ⟨a.q,0,none⟩),.int .i64 r,.int .i64 (k:Int),.int .i64 x] w (fo Bd w lo a D (.int .i64 2)):=by
 have HA:=fB h r
 rw[aQ hf,hd] at HA
 have HA:=hid HA
 have HWr:=fun w' (h':aj w' lo lab a D)=>jW h' hf z hk
 rw[hs] at HWr
 have HWr:=hid HWr
 have HXa:=fun w' (h':aj w' lo lab a D)=>fB h' x
 rw[hxa] at HXa
 have HXa:=hid HXa
 have HC0:=hid (fun w' (h':aj w' lo lab a D)=>h'.c0)
 have hxb:(x !=0)=true:=by rw[bne_iff_ne];exact hx
 have hxe:(x==0)=false:=aV hx
 have H:=hid h
 clear h hf hd hk hs hx hxa z
 go_enter Tryz.func69,Tryz.ntmps69
 go_wp2_with fail
 refine HA.out.mono ?_
 rintro e w1 ⟨rfl,hd⟩
 have H1:=hid (H.out.bE hd)
 have T1:=hid (Touch.of_below (X:=XW lo Bd a) hd.new)
 clear hd
 have c0:=HC0.out _ H1.out
 go_wp2_with fail
 refine(HWr.out _ H1.out).mono ?_
 rintro e w2 ⟨rfl,hd⟩
 have H2:=hid (H1.out.bE hd)
 have T2:=hid (T1.out.trans (Touch.of_below (X:=XW lo Bd a) hd.new))
 clear hd c0
 go_wp2_with fail
 refine(HXa.out _ H2.out).mono ?_
 rintro e w3 ⟨rfl,hd⟩
 have H3:=hid (H2.out.bE hd)
 have T3:=hid (T2.out.trans (Touch.of_below (X:=XW lo Bd a) hd.new))
 clear hd
 go_wp2_with fail
 go_ret
 exact⟨rfl,H3.out.iK rfl,T3.out⟩
set_option maxHeartbeats 2000000 in
theorem NL (h : aj w lo lab a D) (hPB : ∀ (i : Nat) (t : Th) (x : TA), D.ts[i]? = some t → a.tas[i]? = some x → 0 < t.pt.length → ∀ g, x.pa = some ⟨g, 0, none⟩ → g < Bd) (B : WB D) (hrl : D.ring.length ≤ 6000) {r : Int} (hf : D.find r = some t) (hd : t.mr.dead = false) (z : ES D.w t) {k : Nat} (hk : k < t.pt.length) (hs : dS D.w t k = false)  (hy : ¬ 0 < (D.bB r k 0).cnt (nth t.pt k)) :
  Calls Tryz.prog 69 #[.pointer (some ⟨a.q,0,none⟩),.int .i64 r,.int .i64 (k:Int),.int .i64 0] w (fo Bd w lo a (D.put r k 0 (nth t.pt k)) (.int .i64 0)):=by
 obtain⟨i,xa,hi,ht,hxa⟩:=h.found hf
 have HA:=fB h r
 rw[aQ hf,hd] at HA
 have HA:=hid HA
 have HWr:=fun w' (h':aj w' lo lab a D)=>jW h' hf z hk
 rw[hs] at HWr
 have HWr:=hid HWr
 have HFi:=hid (fun w' (h':aj w' lo lab a D)=>aI h' hi hxa)
 have HC0:=hid (fun w' (h':aj w' lo lab a D)=>h'.c0)
 have HTA:=hid (fun w' (h':aj w' lo lab a D)=>h'.h.th i t xa ht hxa)
 obtain⟨g,hpa,_,_,_,glo,_⟩:=h.jA ht hxa hk
 have HPg:Hid (∀w' lab' a' D' t',aj w' lo lab' a' D'→a'.tas=a.tas→D'.ts[i]? =some t'→t'.pt=t.pt→w'.cell? ⟨g,k,none⟩=some (.int .i64 (nth t.pt k))∧w'.frozen? ⟨g,k,none⟩=false∧g<w'.heap.size∧w'.cell? ⟨xa.tb,2,none⟩=some (.slice (some ⟨g,0,none⟩) t.pt.length xa.pc)∧∀zz:Int,aj (w'.setCell ⟨g,k,none⟩ (.int .i64 zz)) lo lab' a' {D' with ts:=D'.ts.set i {t' with pt:=t'.pt.set k zz}}):=hid (fun w' lab' a' D' t' h' e1 e2 e3=>by
  have hx':a'.tas[i]? =some xa:=by rw[e1];exact hxa
  obtain⟨g2,hp2,b1,b2,b3,b4,b5⟩:=h'.jA e2 hx' (k:=k) (by rw[e3];exact hk)
  rw[hpa] at hp2
  cases hp2
  have d2:=(h'.h.th i t' xa e2 hx').c2
  rw[hpa,e3] at d2
  exact⟨by rw[e3] at b2;exact b2,b3,b1,d2,b5⟩)
 have HGl:=hid (XW.pa (Bd:=Bd) hxa hpa (hPB i t xa ht hxa (by omega) g hpa) glo)
 have hS:D.bB r k 0={D with ts:=D.ts.set i {t with pt:=t.pt.set k 0}}:=by unfold Wd.bB;rw[if_pos rfl];exact uR hi ht k 0
 have pU:Hid (∀w' lab' a',aj w' lo lab' a' {D with ts:=D.ts.set i {t with pt:=t.pt.set k 0}}→aj w' lo lab' a' (D.bB r k 0)):=hid (fun w' lab' a' h'=>by rw[hS];exact h')
 have BS:WB (D.bB r k 0):=by unfold Wd.bB;rw[if_pos rfl];exact B.setP r k 0
 have hrS:(D.bB r k 0).ring.length≤7000:=by unfold Wd.bB;rw[if_pos rfl];show D.ring.length≤7000;omega
 have h00:((0:Int)!=0)=false:=by decide
 have HIT:Hid (D.ix r=some i∧D.ts[i]? =some t):=hid ⟨hi,ht⟩
 have HCn:=hid (fun w' lab' a' (h':aj w' lo lab' a' (D.bB r k 0))=>iH h' (nth t.pt k))
 have E:Hid (D.put r k 0 (nth t.pt k)=D.bB r k 0):=hid (by unfold Wd.put Wd.ul;rw[if_neg hy])
 have H:=hid h
 clear h hf hi ht hxa hd z hs hpa glo
 generalize nth t.pt k=y at*
 clear hS BS hrS B
 go_enter Tryz.func69,Tryz.ntmps69
 go_wp2_with fail
 refine HA.out.mono ?_
 rintro e w1 ⟨rfl,hd⟩
 have H1:=hid (H.out.bE hd)
 have T1:=hid (Touch.of_below (X:=XW lo Bd a) hd.new)
 clear hd
 have c0:=HC0.out _ H1.out
 go_wp2_with fail
 refine(HWr.out _ H1.out).mono ?_
 rintro e w2 ⟨rfl,hd⟩
 have H2:=hid (H1.out.bE hd)
 have T2:=hid (T1.out.trans (Touch.of_below (X:=XW lo Bd a) hd.new))
 clear hd c0
 have c0:=HC0.out _ H2.out
 go_wp2_with fail
 have H3:=hid H2.out
 have T3:=hid T2.out
 refine(HFi.out _ H3.out).mono ?_
 rintro e w4 ⟨rfl,rfl⟩
 have k3:=HPg.out _ _ _ _ _ H3.out rfl HIT.out.2 rfl
 have gc:=k3.1
 have d2:=k3.2.2.2.1
 have gf:=k3.2.1
 clear k3
 go_wp2_with fail
 have HQ:Hid (aj (w2.setCell ⟨g,k,none⟩ (.int .i64 0)) lo lab a (D.bB r k 0)):=hid (pU.out _ _ _ ((HPg.out _ _ _ _ _ H3.out rfl HIT.out.2 rfl).2.2.2.2 0))
 have HTQ:Hid (Touch (XW lo Bd a) w (w2.setCell ⟨g,k,none⟩ (.int .i64 0))):=hid (T3.out.setCell (p:=⟨g,k,none⟩) (fun _=>HGl.out) _)
 have EA:Hid (a.q=a.q):=hid rfl
 generalize hw6:World.setCell _ _ _=w6 at*
 have H6:=hid (by first|exact hw6▸HQ.out|(rw[←hw6];exact HQ.out):aj w6 lo lab a (D.bB r k 0))
 have T6:=hid (by first|exact hw6▸HTQ.out|(rw[←hw6];exact HTQ.out):Touch (XW lo Bd a) w w6)
 clear hw6 HQ HTQ gc gf d2
 refine(HCn.out _ _ _ H6.out).mono ?_
 rintro e w7 ⟨rfl,rfl⟩
 go_wp2_with fail
 go_ret
 exact⟨rfl,by rw[E.out];exact H6.out.iK rfl,T6.out⟩
set_option maxHeartbeats 2000000 in
theorem NM (h : aj w lo lab a D) (hPB : ∀ (i : Nat) (t : Th) (x : TA), D.ts[i]? = some t → a.tas[i]? = some x → 0 < t.pt.length → ∀ g, x.pa = some ⟨g, 0, none⟩ → g < Bd) (B : WB D) (hrl : D.ring.length ≤ 6000) {r : Int} (hf : D.find r = some t) (hd : t.mr.dead = false) (z : ES D.w t) {k : Nat} (hk : k < t.pt.length) (hs : dS D.w t k = false)  (hy : 0 < (D.bB r k 0).cnt (nth t.pt k)) :
  Calls Tryz.prog 69 #[.pointer (some ⟨a.q,0,none⟩),.int .i64 r,.int .i64 (k:Int),.int .i64 0] w (fo Bd w lo a (D.put r k 0 (nth t.pt k)) (.int .i64 0)):=by
 obtain⟨i,xa,hi,ht,hxa⟩:=h.found hf
 have HA:=fB h r
 rw[aQ hf,hd] at HA
 have HA:=hid HA
 have HWr:=fun w' (h':aj w' lo lab a D)=>jW h' hf z hk
 rw[hs] at HWr
 have HWr:=hid HWr
 have HFi:=hid (fun w' (h':aj w' lo lab a D)=>aI h' hi hxa)
 have HC0:=hid (fun w' (h':aj w' lo lab a D)=>h'.c0)
 have HTA:=hid (fun w' (h':aj w' lo lab a D)=>h'.h.th i t xa ht hxa)
 obtain⟨g,hpa,_,_,_,glo,_⟩:=h.jA ht hxa hk
 have HPg:Hid (∀w' lab' a' D' t',aj w' lo lab' a' D'→a'.tas=a.tas→D'.ts[i]? =some t'→t'.pt=t.pt→w'.cell? ⟨g,k,none⟩=some (.int .i64 (nth t.pt k))∧w'.frozen? ⟨g,k,none⟩=false∧g<w'.heap.size∧w'.cell? ⟨xa.tb,2,none⟩=some (.slice (some ⟨g,0,none⟩) t.pt.length xa.pc)∧∀zz:Int,aj (w'.setCell ⟨g,k,none⟩ (.int .i64 zz)) lo lab' a' {D' with ts:=D'.ts.set i {t' with pt:=t'.pt.set k zz}}):=hid (fun w' lab' a' D' t' h' e1 e2 e3=>by
  have hx':a'.tas[i]? =some xa:=by rw[e1];exact hxa
  obtain⟨g2,hp2,b1,b2,b3,b4,b5⟩:=h'.jA e2 hx' (k:=k) (by rw[e3];exact hk)
  rw[hpa] at hp2
  cases hp2
  have d2:=(h'.h.th i t' xa e2 hx').c2
  rw[hpa,e3] at d2
  exact⟨by rw[e3] at b2;exact b2,b3,b1,d2,b5⟩)
 have HGl:=hid (XW.pa (Bd:=Bd) hxa hpa (hPB i t xa ht hxa (by omega) g hpa) glo)
 have hS:D.bB r k 0={D with ts:=D.ts.set i {t with pt:=t.pt.set k 0}}:=by unfold Wd.bB;rw[if_pos rfl];exact uR hi ht k 0
 have pU:Hid (∀w' lab' a',aj w' lo lab' a' {D with ts:=D.ts.set i {t with pt:=t.pt.set k 0}}→aj w' lo lab' a' (D.bB r k 0)):=hid (fun w' lab' a' h'=>by rw[hS];exact h')
 have BS:WB (D.bB r k 0):=by unfold Wd.bB;rw[if_pos rfl];exact B.setP r k 0
 have hrS:(D.bB r k 0).ring.length≤7000:=by unfold Wd.bB;rw[if_pos rfl];show D.ring.length≤7000;omega
 have h00:((0:Int)!=0)=false:=by decide
 have HIT:Hid (D.ix r=some i∧D.ts[i]? =some t):=hid ⟨hi,ht⟩
 have HCn:=hid (fun w' lab' a' (h':aj w' lo lab' a' (D.bB r k 0))=>iH h' (nth t.pt k))
 have E:Hid (D.put r k 0 (nth t.pt k)=((D.bB r k 0).touch (nth t.pt k)).less (nth t.pt k)):=hid (by unfold Wd.put Wd.ul;rw[if_pos hy])
 have HTo:=hid (fun w' lab' a' (h':aj w' lo lab' a' (D.bB r k 0))=>sQ (Bd:=Bd) h' (nth t.pt k) (by omega))
 obtain⟨v,hv,hv0⟩:∃v,((D.bB r k 0).touch (nth t.pt k)).find (nth t.pt k)=some v∧0<v.mr.refs:=by
  cases hq:(D.bB r k 0).find (nth t.pt k) with
  |none=>unfold Wd.cnt at hy;rw[hq] at hy;simp at hy
  |some v=>
   obtain⟨kk,hkk⟩:=mP (nth t.pt k) hq (nth t.pt k)
   refine⟨_,hkk,?_⟩
   unfold Wd.cnt at hy
   rw[hq] at hy
   exact hy
 have HLs:=hid (fun w' lab' a' (h':aj w' lo lab' a' ((D.bB r k 0).touch (nth t.pt k)))=>IV (Bd:=Bd) h' (BS.touch _ hrS) hv hv0)
 have H:=hid h
 clear h hf hi ht hxa hd z hs hpa glo
 generalize nth t.pt k=y at*
 clear hS BS hrS B hv hv0
 go_enter Tryz.func69,Tryz.ntmps69
 go_wp2_with fail
 refine HA.out.mono ?_
 rintro e w1 ⟨rfl,hd⟩
 have H1:=hid (H.out.bE hd)
 have T1:=hid (Touch.of_below (X:=XW lo Bd a) hd.new)
 clear hd
 have c0:=HC0.out _ H1.out
 go_wp2_with fail
 refine(HWr.out _ H1.out).mono ?_
 rintro e w2 ⟨rfl,hd⟩
 have H2:=hid (H1.out.bE hd)
 have T2:=hid (T1.out.trans (Touch.of_below (X:=XW lo Bd a) hd.new))
 clear hd c0
 have c0:=HC0.out _ H2.out
 go_wp2_with fail
 have H3:=hid H2.out
 have T3:=hid T2.out
 refine(HFi.out _ H3.out).mono ?_
 rintro e w4 ⟨rfl,rfl⟩
 have k3:=HPg.out _ _ _ _ _ H3.out rfl HIT.out.2 rfl
 have gc:=k3.1
 have d2:=k3.2.2.2.1
 have gf:=k3.2.1
 clear k3
 go_wp2_with fail
 have HQ:Hid (aj (w2.setCell ⟨g,k,none⟩ (.int .i64 0)) lo lab a (D.bB r k 0)):=hid (pU.out _ _ _ ((HPg.out _ _ _ _ _ H3.out rfl HIT.out.2 rfl).2.2.2.2 0))
 have HTQ:Hid (Touch (XW lo Bd a) w (w2.setCell ⟨g,k,none⟩ (.int .i64 0))):=hid (T3.out.setCell (p:=⟨g,k,none⟩) (fun _=>HGl.out) _)
 have EA:Hid (a.q=a.q):=hid rfl
 generalize hw6:World.setCell _ _ _=w6 at*
 have H6:=hid (by first|exact hw6▸HQ.out|(rw[←hw6];exact HQ.out):aj w6 lo lab a (D.bB r k 0))
 have T6:=hid (by first|exact hw6▸HTQ.out|(rw[←hw6];exact HTQ.out):Touch (XW lo Bd a) w w6)
 clear hw6 HQ HTQ gc gf d2
 refine(HCn.out _ _ _ H6.out).mono ?_
 rintro e w7 ⟨rfl,rfl⟩
 go_wp2_with fail
 refine(HTo.out _ _ _ H6.out).mono ?_
 rintro e w8 ⟨rfl,⟨lab8,a8,e1,e2,e3,k9⟩,k8⟩
 have H8:=hid k9
 have EB:=hid e1
 have T8:=hid (T6.out.trans k8)
 have HXf:Hid (XW lo Bd a8=XW lo Bd a):=hid (XW.eq e1 e3)
 clear k9 k8 e1 e2 e3
 go_wp2_with fail
 rw[←EB.out]
 refine(HLs.out _ _ _ H8.out).mono ?_
 rintro e w9 ⟨rfl,k9,k8⟩
 have H9:=hid k9
 rw[HXf.out] at k8
 have T9:=hid (T8.out.trans k8)
 clear k9 k8
 go_wp2_with fail
 go_ret
 exact⟨rfl,by rw[E.out];(rw[←EB.out];exact H9.out),T9.out⟩
set_option maxHeartbeats 2000000 in
theorem NN(h:aj w lo lab a D)(hPB:∀(i:Nat) (t:Th) (x:TA),D.ts[i]? =some t→a.tas[i]? =some x→0<t.pt.length→∀g,x.pa=some ⟨g,0,none⟩→g<Bd)(B:WB D)(hrl:D.ring.length≤6000){r:Int}(hf:D.find r=some t)(hd:t.mr.dead=false)(z:ES D.w t){k:Nat}(hk:k<t.pt.length)(hs:dS D.w t k=false){x:Int}(hx0:x≠0)(hxu:∃u,D.find x=some u∧u.mr.dead=false∧u.mr.refs<4294967295)(hy:¬0<(D.bB r k x).cnt (nth t.pt k)):
  Calls Tryz.prog 69 #[.pointer (some ⟨a.q,0,none⟩),.int .i64 r,.int .i64 (k:Int),.int .i64 x] w (fo Bd w lo a (D.put r k x (nth t.pt k)) (.int .i64 0)):=by
 obtain⟨i,xa,hi,ht,hxa⟩:=h.found hf
 have HA:=fB h r
 rw[aQ hf,hd] at HA
 have HA:=hid HA
 have HWr:=fun w' (h':aj w' lo lab a D)=>jW h' hf z hk
 rw[hs] at HWr
 have HWr:=hid HWr
 have HFi:=hid (fun w' (h':aj w' lo lab a D)=>aI h' hi hxa)
 have HC0:=hid (fun w' (h':aj w' lo lab a D)=>h'.c0)
 have HTA:=hid (fun w' (h':aj w' lo lab a D)=>h'.h.th i t xa ht hxa)
 obtain⟨g,hpa,_,_,_,glo,_⟩:=h.jA ht hxa hk
 have HPg:Hid (∀w' lab' a' D' t',aj w' lo lab' a' D'→a'.tas=a.tas→D'.ts[i]? =some t'→t'.pt=t.pt→w'.cell? ⟨g,k,none⟩=some (.int .i64 (nth t.pt k))∧w'.frozen? ⟨g,k,none⟩=false∧g<w'.heap.size∧w'.cell? ⟨xa.tb,2,none⟩=some (.slice (some ⟨g,0,none⟩) t.pt.length xa.pc)∧∀zz:Int,aj (w'.setCell ⟨g,k,none⟩ (.int .i64 zz)) lo lab' a' {D' with ts:=D'.ts.set i {t' with pt:=t'.pt.set k zz}}):=hid (fun w' lab' a' D' t' h' e1 e2 e3=>by
  have hx':a'.tas[i]? =some xa:=by rw[e1];exact hxa
  obtain⟨g2,hp2,b1,b2,b3,b4,b5⟩:=h'.jA e2 hx' (k:=k) (by rw[e3];exact hk)
  rw[hpa] at hp2
  cases hp2
  have d2:=(h'.h.th i t' xa e2 hx').c2
  rw[hpa,e3] at d2
  exact⟨by rw[e3] at b2;exact b2,b3,b1,d2,b5⟩)
 have HGl:=hid (XW.pa (Bd:=Bd) hxa hpa (hPB i t xa ht hxa (by omega) g hpa) glo)
 obtain⟨u,hu,hud,hub⟩:=hxu
 have hxa2:D.aliveB x=true:=by rw[aQ hu,hud];rfl
 have HXa:=fun w' (h':aj w' lo lab a D)=>fB h' x
 rw[hxa2] at HXa
 have HXa:=hid HXa
 have HHo:=hid (fun w' (h':aj w' lo lab a D)=>IU (Bd:=Bd) h' hu hud (B.rf _ _ hu).1 hub B.rl)
 obtain⟨mm,hi2,ht2⟩:=Iq (s:=x) hi ht
 have HIT2:Hid ((D.more x).ts[i]? =some {t with mr:=mm}):=hid ht2
 have hS:D.bB r k x={D.more x with ts:=(D.more x).ts.set i {t with pt:=t.pt.set k x,mr:=mm}}:=by unfold Wd.bB;rw[if_neg hx0];exact uR hi2 ht2 k x
 have pU:Hid (∀w' lab' a',aj w' lo lab' a' {D.more x with ts:=(D.more x).ts.set i {t with pt:=t.pt.set k x,mr:=mm}}→aj w' lo lab' a' (D.bB r k x)):=hid (fun w' lab' a' h'=>by rw[hS];exact h')
 have BU:WB (D.more x):=(B.up (r:=x) (fun t ht=>by rw[hu] at ht;cases ht;exact hub)).touch x (by show D.ring.length≤7000;omega)
 have BS:WB (D.bB r k x):=by unfold Wd.bB;rw[if_neg hx0];exact BU.setP r k x
 have hrS:(D.bB r k x).ring.length≤7000:=by
  unfold Wd.bB
  rw[if_neg hx0]
  show(D.more x).ring.length≤7000
  unfold Wd.more Wd.touch
  split
  ·show(if hasB (ints D.ring) (x-1) then D.ring else D.ring++[(x-1).toNat]).length≤7000
   split
   ·omega
   ·simp;omega
  ·show D.ring.length≤7000;omega
 have hxb:(x !=0)=true:=by rw[bne_iff_ne];exact hx0
 have hxe:(x==0)=false:=aV hx0
 have HIT:Hid (D.ix r=some i∧D.ts[i]? =some t):=hid ⟨hi,ht⟩
 have HCn:=hid (fun w' lab' a' (h':aj w' lo lab' a' (D.bB r k x))=>iH h' (nth t.pt k))
 have E:Hid (D.put r k x (nth t.pt k)=D.bB r k x):=hid (by unfold Wd.put Wd.ul;rw[if_neg hy])
 have H:=hid h
 clear h hf hi ht hxa hd z hs hpa glo
 generalize nth t.pt k=y at*
 clear hS BS hrS B hu hud hub hxa2 hi2 ht2 BU
 go_enter Tryz.func69,Tryz.ntmps69
 go_wp2_with fail
 refine HA.out.mono ?_
 rintro e w1 ⟨rfl,hd⟩
 have H1:=hid (H.out.bE hd)
 have T1:=hid (Touch.of_below (X:=XW lo Bd a) hd.new)
 clear hd
 have c0:=HC0.out _ H1.out
 go_wp2_with fail
 refine(HWr.out _ H1.out).mono ?_
 rintro e w2 ⟨rfl,hd⟩
 have H2:=hid (H1.out.bE hd)
 have T2:=hid (T1.out.trans (Touch.of_below (X:=XW lo Bd a) hd.new))
 clear hd c0
 have c0:=HC0.out _ H2.out
 go_wp2_with fail
 refine(HXa.out _ H2.out).mono ?_
 rintro e w3 ⟨rfl,hd⟩
 have H3:=hid (H2.out.bE hd)
 have T3:=hid (T2.out.trans (Touch.of_below (X:=XW lo Bd a) hd.new))
 clear hd c0
 have c0:=HC0.out _ H3.out
 go_wp2_with fail
 refine(HFi.out _ H3.out).mono ?_
 rintro e w4 ⟨rfl,rfl⟩
 have k3:=HPg.out _ _ _ _ _ H3.out rfl HIT.out.2 rfl
 have gc:=k3.1
 have d2:=k3.2.2.2.1
 have gf:=k3.2.1
 clear k3
 go_wp2_with fail
 refine(HHo.out _ H3.out).mono ?_
 rintro e w5 ⟨rfl,⟨lab5,a5,e1,e2,e3,k9⟩,k8⟩
 have H5:=hid k9
 have EA:=hid e1
 have ET:=hid e3
 have T5:=hid (T3.out.trans k8)
 have HXe:Hid (XW lo Bd a5=XW lo Bd a):=hid (XW.eq e1 e3)
 clear k9 k8 e1 e2 e3 gc gf d2 c0
 have k5:=HPg.out _ _ _ _ _ H5.out ET.out HIT2.out rfl
 have gc:=k5.1
 have gf:=k5.2.1
 have d2:=k5.2.2.2.1
 have HQ:Hid (aj (w5.setCell ⟨g,k,none⟩ (.int .i64 x)) lo lab5 a5 (D.bB r k x)):=hid (pU.out _ _ _ (k5.2.2.2.2 x))
 have HTQ:Hid (Touch (XW lo Bd a) w (w5.setCell ⟨g,k,none⟩ (.int .i64 x))):=hid (T5.out.setCell (p:=⟨g,k,none⟩) (fun _=>HGl.out) _)
 clear k5
 go_wp2_with fail
 generalize hw6:World.setCell _ _ _=w6 at*
 have H6:=hid (by first|exact hw6▸HQ.out|(rw[←hw6];exact HQ.out):aj w6 lo lab5 a5 (D.bB r k x))
 have T6:=hid (by first|exact hw6▸HTQ.out|(rw[←hw6];exact HTQ.out):Touch (XW lo Bd a) w w6)
 clear hw6 HQ HTQ gc gf d2
 rw[←EA.out]
 refine(HCn.out _ _ _ H6.out).mono ?_
 rintro e w7 ⟨rfl,rfl⟩
 go_wp2_with fail
 go_ret
 exact⟨rfl,by rw[E.out];exact H6.out.iK EA.out,T6.out⟩
set_option maxHeartbeats 2000000 in
theorem NP(h:aj w lo lab a D)(hPB:∀(i:Nat) (t:Th) (x:TA),D.ts[i]? =some t→a.tas[i]? =some x→0<t.pt.length→∀g,x.pa=some ⟨g,0,none⟩→g<Bd)(B:WB D)(hrl:D.ring.length≤6000){r:Int}(hf:D.find r=some t)(hd:t.mr.dead=false)(z:ES D.w t){k:Nat}(hk:k<t.pt.length)(hs:dS D.w t k=false){x:Int}(hx0:x≠0)(hxu:∃u,D.find x=some u∧u.mr.dead=false∧u.mr.refs<4294967295)(hy:0<(D.bB r k x).cnt (nth t.pt k)):
  Calls Tryz.prog 69 #[.pointer (some ⟨a.q,0,none⟩),.int .i64 r,.int .i64 (k:Int),.int .i64 x] w (fo Bd w lo a (D.put r k x (nth t.pt k)) (.int .i64 0)):=by
 obtain⟨i,xa,hi,ht,hxa⟩:=h.found hf
 have HA:=fB h r
 rw[aQ hf,hd] at HA
 have HA:=hid HA
 have HWr:=fun w' (h':aj w' lo lab a D)=>jW h' hf z hk
 rw[hs] at HWr
 have HWr:=hid HWr
 have HFi:=hid (fun w' (h':aj w' lo lab a D)=>aI h' hi hxa)
 have HC0:=hid (fun w' (h':aj w' lo lab a D)=>h'.c0)
 have HTA:=hid (fun w' (h':aj w' lo lab a D)=>h'.h.th i t xa ht hxa)
 obtain⟨g,hpa,_,_,_,glo,_⟩:=h.jA ht hxa hk
 have HPg:Hid (∀w' lab' a' D' t',aj w' lo lab' a' D'→a'.tas=a.tas→D'.ts[i]? =some t'→t'.pt=t.pt→w'.cell? ⟨g,k,none⟩=some (.int .i64 (nth t.pt k))∧w'.frozen? ⟨g,k,none⟩=false∧g<w'.heap.size∧w'.cell? ⟨xa.tb,2,none⟩=some (.slice (some ⟨g,0,none⟩) t.pt.length xa.pc)∧∀zz:Int,aj (w'.setCell ⟨g,k,none⟩ (.int .i64 zz)) lo lab' a' {D' with ts:=D'.ts.set i {t' with pt:=t'.pt.set k zz}}):=hid (fun w' lab' a' D' t' h' e1 e2 e3=>by
  have hx':a'.tas[i]? =some xa:=by rw[e1];exact hxa
  obtain⟨g2,hp2,b1,b2,b3,b4,b5⟩:=h'.jA e2 hx' (k:=k) (by rw[e3];exact hk)
  rw[hpa] at hp2
  cases hp2
  have d2:=(h'.h.th i t' xa e2 hx').c2
  rw[hpa,e3] at d2
  exact⟨by rw[e3] at b2;exact b2,b3,b1,d2,b5⟩)
 have HGl:=hid (XW.pa (Bd:=Bd) hxa hpa (hPB i t xa ht hxa (by omega) g hpa) glo)
 obtain⟨u,hu,hud,hub⟩:=hxu
 have hxa2:D.aliveB x=true:=by rw[aQ hu,hud];rfl
 have HXa:=fun w' (h':aj w' lo lab a D)=>fB h' x
 rw[hxa2] at HXa
 have HXa:=hid HXa
 have HHo:=hid (fun w' (h':aj w' lo lab a D)=>IU (Bd:=Bd) h' hu hud (B.rf _ _ hu).1 hub B.rl)
 obtain⟨mm,hi2,ht2⟩:=Iq (s:=x) hi ht
 have HIT2:Hid ((D.more x).ts[i]? =some {t with mr:=mm}):=hid ht2
 have hS:D.bB r k x={D.more x with ts:=(D.more x).ts.set i {t with pt:=t.pt.set k x,mr:=mm}}:=by unfold Wd.bB;rw[if_neg hx0];exact uR hi2 ht2 k x
 have pU:Hid (∀w' lab' a',aj w' lo lab' a' {D.more x with ts:=(D.more x).ts.set i {t with pt:=t.pt.set k x,mr:=mm}}→aj w' lo lab' a' (D.bB r k x)):=hid (fun w' lab' a' h'=>by rw[hS];exact h')
 have BU:WB (D.more x):=(B.up (r:=x) (fun t ht=>by rw[hu] at ht;cases ht;exact hub)).touch x (by show D.ring.length≤7000;omega)
 have BS:WB (D.bB r k x):=by unfold Wd.bB;rw[if_neg hx0];exact BU.setP r k x
 have hrS:(D.bB r k x).ring.length≤7000:=by
  unfold Wd.bB
  rw[if_neg hx0]
  show(D.more x).ring.length≤7000
  unfold Wd.more Wd.touch
  split
  ·show(if hasB (ints D.ring) (x-1) then D.ring else D.ring++[(x-1).toNat]).length≤7000
   split
   ·omega
   ·simp;omega
  ·show D.ring.length≤7000;omega
 have hxb:(x !=0)=true:=by rw[bne_iff_ne];exact hx0
 have hxe:(x==0)=false:=aV hx0
 have HIT:Hid (D.ix r=some i∧D.ts[i]? =some t):=hid ⟨hi,ht⟩
 have HCn:=hid (fun w' lab' a' (h':aj w' lo lab' a' (D.bB r k x))=>iH h' (nth t.pt k))
 have E:Hid (D.put r k x (nth t.pt k)=((D.bB r k x).touch (nth t.pt k)).less (nth t.pt k)):=hid (by unfold Wd.put Wd.ul;rw[if_pos hy])
 have HTo:=hid (fun w' lab' a' (h':aj w' lo lab' a' (D.bB r k x))=>sQ (Bd:=Bd) h' (nth t.pt k) (by omega))
 obtain⟨v,hv,hv0⟩:∃v,((D.bB r k x).touch (nth t.pt k)).find (nth t.pt k)=some v∧0<v.mr.refs:=by
  cases hq:(D.bB r k x).find (nth t.pt k) with
  |none=>unfold Wd.cnt at hy;rw[hq] at hy;simp at hy
  |some v=>
   obtain⟨kk,hkk⟩:=mP (nth t.pt k) hq (nth t.pt k)
   refine⟨_,hkk,?_⟩
   unfold Wd.cnt at hy
   rw[hq] at hy
   exact hy
 have HLs:=hid (fun w' lab' a' (h':aj w' lo lab' a' ((D.bB r k x).touch (nth t.pt k)))=>IV (Bd:=Bd) h' (BS.touch _ hrS) hv hv0)
 have H:=hid h
 clear h hf hi ht hxa hd z hs hpa glo
 generalize nth t.pt k=y at*
 clear hS BS hrS B hu hud hub hxa2 hi2 ht2 BU hv hv0
 go_enter Tryz.func69,Tryz.ntmps69
 go_wp2_with fail
 refine HA.out.mono ?_
 rintro e w1 ⟨rfl,hd⟩
 have H1:=hid (H.out.bE hd)
 have T1:=hid (Touch.of_below (X:=XW lo Bd a) hd.new)
 clear hd
 have c0:=HC0.out _ H1.out
 go_wp2_with fail
 refine(HWr.out _ H1.out).mono ?_
 rintro e w2 ⟨rfl,hd⟩
 have H2:=hid (H1.out.bE hd)
 have T2:=hid (T1.out.trans (Touch.of_below (X:=XW lo Bd a) hd.new))
 clear hd c0
 have c0:=HC0.out _ H2.out
 go_wp2_with fail
 refine(HXa.out _ H2.out).mono ?_
 rintro e w3 ⟨rfl,hd⟩
 have H3:=hid (H2.out.bE hd)
 have T3:=hid (T2.out.trans (Touch.of_below (X:=XW lo Bd a) hd.new))
 clear hd c0
 have c0:=HC0.out _ H3.out
 go_wp2_with fail
 refine(HFi.out _ H3.out).mono ?_
 rintro e w4 ⟨rfl,rfl⟩
 have k3:=HPg.out _ _ _ _ _ H3.out rfl HIT.out.2 rfl
 have gc:=k3.1
 have d2:=k3.2.2.2.1
 have gf:=k3.2.1
 clear k3
 go_wp2_with fail
 refine(HHo.out _ H3.out).mono ?_
 rintro e w5 ⟨rfl,⟨lab5,a5,e1,e2,e3,k9⟩,k8⟩
 have H5:=hid k9
 have EA:=hid e1
 have ET:=hid e3
 have T5:=hid (T3.out.trans k8)
 have HXe:Hid (XW lo Bd a5=XW lo Bd a):=hid (XW.eq e1 e3)
 clear k9 k8 e1 e2 e3 gc gf d2 c0
 have k5:=HPg.out _ _ _ _ _ H5.out ET.out HIT2.out rfl
 have gc:=k5.1
 have gf:=k5.2.1
 have d2:=k5.2.2.2.1
 have HQ:Hid (aj (w5.setCell ⟨g,k,none⟩ (.int .i64 x)) lo lab5 a5 (D.bB r k x)):=hid (pU.out _ _ _ (k5.2.2.2.2 x))
 have HTQ:Hid (Touch (XW lo Bd a) w (w5.setCell ⟨g,k,none⟩ (.int .i64 x))):=hid (T5.out.setCell (p:=⟨g,k,none⟩) (fun _=>HGl.out) _)
 clear k5
 go_wp2_with fail
 generalize hw6:World.setCell _ _ _=w6 at*
 have H6:=hid (by first|exact hw6▸HQ.out|(rw[←hw6];exact HQ.out):aj w6 lo lab5 a5 (D.bB r k x))
 have T6:=hid (by first|exact hw6▸HTQ.out|(rw[←hw6];exact HTQ.out):Touch (XW lo Bd a) w w6)
 clear hw6 HQ HTQ gc gf d2
 rw[←EA.out]
 refine(HCn.out _ _ _ H6.out).mono ?_
 rintro e w7 ⟨rfl,rfl⟩
 go_wp2_with fail
 try rw[←EA.out]
 refine(HTo.out _ _ _ H6.out).mono ?_
 rintro e w8 ⟨rfl,⟨lab8,a8,e1,e2,e3,k9⟩,k8⟩
 have H8:=hid k9
 have EB:=hid e1
 have HXf:Hid (XW lo Bd a8=XW lo Bd a):=hid ((XW.eq e1 e3).trans HXe.out)
 rw[HXe.out] at k8
 have T8:=hid (T6.out.trans k8)
 clear k9 k8 e1 e2 e3
 go_wp2_with fail
 rw[←EB.out]
 refine(HLs.out _ _ _ H8.out).mono ?_
 rintro e w9 ⟨rfl,k9,k8⟩
 have H9:=hid k9
 rw[HXf.out] at k8
 have T9:=hid (T8.out.trans k8)
 clear k9 k8
 go_wp2_with fail
 go_ret
 exact⟨rfl,by rw[E.out];(rw[←EA.out,←EB.out];exact H9.out),T9.out⟩
end
end Go.Proofs.YtofhdfjkhfkhiaaGreat.Pk
