/-
  Texts laid together: RefW, RefW2, RefW3.
-/
import Derived.Test.YtjmifnljckmimaaGreatPoolDoEtc
import Derived.Test.YtjmifnljckmimaaGreatRefChainEtc
import Derived.OwnWalk
import Derived.BigRegion
import Derived.Test.YtjmifnljckmimaaGreatChainsEtc
namespace Go.Proofs.YtjmifnljckmimaaGreat.Pk
open Lib (hid)
open Go.RowKit
set_option linter.unusedVariables false
set_option linter.unusedSimpArgs false
set_option maxRecDepth 100000
section
variable {w w':World} {lo:Nat} {lab:Nat→Nat} {a:WA} {D:Wd} {i:Nat} {t:Th} {x:TA} {n v:Nat} {cl:List Nat} {ts:List Th}
theorem KI{e:TypeId}{u:Value}{m:Nat}{xs:List Value}(h:w.ownsRow lo e 1 u m xs){k:Nat}{y:Value}(hy:xs[k]? =some y):∃g cap,u=.slice (some ⟨g,0,none⟩) m cap∧w.cell? ⟨g,k,none⟩=some y∧k<m∧m≤maxLen:=by
 have hk:=(List.getElem?_eq_some_iff.1 hy).1
 have hl:=h.1
 rcases h.2 with⟨_,h0⟩|⟨g,cap,cur,rfl,hb,hg,hc,hm,_,ht⟩
 ·omega
 ·refine⟨g,cap,rfl,?_,by omega,by omega⟩
  have hB:aT w g cur e:=hg
  refine hB.cell k ?_
  rw[←ht,List.getElem?_take,if_pos (by omega)] at hy
  rw[←Array.getElem?_toList]
  exact hy
theorem jf{e:TypeId}{u:Value}{m:Nat}{xs:List Value}(h:w.ownsRow lo e 1 u m xs):(∃o cap,u=.slice o m cap)∧m≤maxLen:=by
 rcases h.2 with⟨rfl,h0⟩|⟨g,cap,cur,rfl,hb,hg,hc,hm,_,ht⟩
 ·subst h0;exact⟨⟨_,_,rfl⟩,Nat.zero_le _⟩
 ·exact⟨⟨_,_,rfl⟩,by omega⟩
theorem mY.at(h:mY w lo lab a n v cl ts)(ht:ts[i]? =some t):∃x,a.tas[i]? =some x:=by
 have:=(List.getElem?_eq_some_iff.1 ht).1
 exact⟨a.tas[i]'(by rw[h.len];exact this),by simp⟩
theorem mY.UC(h:mY w lo lab a n v cl ts)(ht:ts[i]? =some t)(hx:a.tas[i]? =some x):∃g cap,a.tv=.slice (some ⟨g,0,none⟩) ts.length cap∧w.cell? ⟨g,i,none⟩=some (.pointer (some ⟨x.tb,0,none⟩)):=by
 obtain⟨g,cap,h1,h2,_⟩:=KI h.tv (k:=i) (y:=x.MK) (by rw[List.getElem?_map,hx];rfl)
 exact⟨g,cap,h1,h2⟩
theorem az.WH(h:az w lo lab a D)(ht:D.ts[i]? =some t)(hx:a.tas[i]? =some x):∃g cap,a.mv=.slice (some ⟨g,0,none⟩) D.ts.length cap∧w.cell? ⟨g,i,none⟩=some (.pointer (some ⟨x.mb,0,none⟩)):=by
 obtain⟨g,cap,h1,h2,_⟩:=KI h.mv (k:=i) (y:=x.OJ) (by rw[List.getElem?_map,hx];rfl)
 exact⟨g,cap,h1,h2⟩
def WA.mp(a:WA):Option Nat→Value
 |none=>.pointer none
 |some i=>match a.tas[i]? with|some x=>.pointer (some ⟨x.mb,0,none⟩)|none=>.pointer none
def WA.tp(a:WA):Option Nat→Value
 |none=>.pointer none
 |some i=>match a.tas[i]? with|some x=>.pointer (some ⟨x.tb,0,none⟩)|none=>.pointer none
theorem DY{r:Int}(h:t.ended=true):t.at r=false:=by unfold Th.at;simp[h]
theorem SG{r:Int}(h:¬(t.h:Int)+1=r):t.at r=false:=by unfold Th.at;simp[h]
theorem at_eq{r:Int}(h:t.ended=false)(e:(t.h:Int)+1=r):t.at r=true:=by unfold Th.at;simp[h,e]
theorem VZ(h:az w lo lab a D)(r:Int):
  Calls Tryz.prog 55 #[.pointer (some ⟨a.q,0,none⟩),.int .i64 r] w fun e w'=>e=.returned (a.mp (D.ix r))∧w=w':=by
 have c0:=h.c0
 have c1:=h.c1
 have c3:=h.h.c3
 obtain⟨⟨om,capm,hmv⟩,hmx⟩:=jf h.mv
 have HMX:Hid (D.ts.length≤maxLen):=hid hmx
 have HMV:=hid hmv
 rw[hmv] at c1
 have H:=hid h
 clear h hmx hmv
 go_enter Tryz.func55,Tryz.ntmps55
 go_wp2_with fail
 go_loop [5] (fun i=>∃k:Nat,k≤D.ts.length∧i=.int .i64 (k:Int)∧∀(j:Nat) u,j<k→D.ts[j]? =some u→u.at r=false) (fun i=>D.ts.length-(intOf i).toNat)
 case atStart=>exact⟨0,Nat.zero_le _,rfl,fun j u h=>absurd h (by omega)⟩
 case round=>
  obtain⟨k,hk,rfl,hno⟩:=hrel
  have HN:=hid hno
  clear hno
  by_cases hlt:k<D.ts.length
  ·obtain⟨t,ht⟩:∃t,D.ts[k]? =some t:=⟨_,List.getElem?_eq_getElem hlt⟩
   obtain⟨x,hx⟩:=H.out.h.at ht
   obtain⟨g,cap,htv,ct⟩:=H.out.h.UC ht hx
   obtain⟨gm,capm',hmv',cm⟩:=H.out.WH ht hx
   rw[HMV.out] at hmv'
   obtain⟨rfl,_,rfl⟩:om=some ⟨gm,0,none⟩∧D.ts.length=D.ts.length∧capm=capm':=by simpa using hmv'
   have hT:=H.out.h.th k t x ht hx
   have d0:=hT.c0
   have d4:=hT.c4
   have hbd:=H.out.h.bd t (List.mem_of_getElem? ht)
   rw[htv] at c3
   have hwr:IntKind.i64.wrap ((t.h:Int)+1)=(t.h:Int)+1:=IntWalk.i64_in _ (by omega)
   have hlx:=HMX.out
   unfold maxLen at hlx
   have HT:=hid ht
   have HX:=hid hx
   clear hT hbd hmv' ht hx htv
   cases hen:t.ended with
   |true=>
    rw[hen] at d4
    have HA:=hid (DY (r:=r) hen)
    clear hen
    go_wp2_with fail
    go_round
    case rel=>exact⟨k+1,by omega,by go_num,fun j u hj hu=>by
     by_cases e:j=k
     ·subst e;rw[HT.out] at hu;cases hu;exact HA.out
     ·exact HN.out j u (by omega) hu⟩
    case measure=>simp[intOf];omega
   |false=>
    rw[hen] at d4
    by_cases he:(t.h:Int)+1=r
    ·have E:Hid (a.mp (D.ix r)=.pointer (some ⟨x.mb,0,none⟩)):=hid (by
      rw[show D.ix r=some k from xI HT.out (at_eq hen he) (fun j u hj hu=>HN.out j u hj hu)]
      simp[WA.mp,HX.out])
     have hb:=wB he
     clear he hen
     go_wp2_with fail
     go_ret
     exact⟨by rw[E.out];rfl,rfl⟩
    ·have HA:=hid (SG (t:=t) (r:=r) he)
     have hb:=bL he
     clear he hen
     go_wp2_with fail
     go_round
     case rel=>exact⟨k+1,by omega,by go_num,fun j u hj hu=>by
      by_cases e:j=k
      ·subst e;rw[HT.out] at hu;cases hu;exact HA.out
      ·exact HN.out j u (by omega) hu⟩
     case measure=>simp[intOf];omega
  ·have E:Hid (D.ix r=none):=hid (xH.2 (fun u hu=>by
    obtain⟨j,hj⟩:=List.mem_iff_getElem?.1 hu
    exact HN.out j u (by have:=(List.getElem?_eq_some_iff.1 hj).1;omega) hj))
   go_wp2_with fail
   go_ret
   exact⟨by rw[E.out];rfl,rfl⟩
theorem az.found(h:az w lo lab a D){r:Int}(hf:D.find r=some t):∃i x,D.ix r=some i∧D.ts[i]? =some t∧a.tas[i]? =some x:=by
 obtain⟨i,hi,ht⟩:=lg hf
 obtain⟨x,hx⟩:=h.h.at ht
 exact⟨i,x,hi,ht,hx⟩
theorem gY(h:az w lo lab a D){r:Int}(hf:D.find r=none):
  Calls Tryz.prog 55 #[.pointer (some ⟨a.q,0,none⟩),.int .i64 r] w fun e w'=>e=.returned (.pointer none)∧w=w':=by
 have:=VZ h r
 rw[show D.ix r=none from Ak hf] at this
 exact this
theorem aX(h:az w lo lab a D){r:Int}(hi:D.ix r=some i)(hx:a.tas[i]? =some x):
  Calls Tryz.prog 55 #[.pointer (some ⟨a.q,0,none⟩),.int .i64 r] w fun e w'=>e=.returned (.pointer (some ⟨x.mb,0,none⟩))∧w=w':=by
 have:=VZ h r
 rw[hi] at this
 simp only[WA.mp,hx] at this
 exact this
theorem KV(h:az w lo lab a D)(r:Int):
  Calls Tryz.prog 119 #[.pointer (some ⟨a.q,0,none⟩),.int .i64 r] w fun e w'=>e=.returned (.bool (D.fB r))∧dK w w':=by
 cases hf:D.find r with
 |none=>
  have HC:=hid (gY h hf)
  have E:Hid (D.fB r=false):=hid (by unfold Wd.fB;rw[hf])
  clear h hf
  go_enter Tryz.func119,Tryz.ntmps119
  go_wp2_with fail
  refine HC.out.mono ?_
  rintro e w1 ⟨rfl,rfl⟩
  go_wp2_with fail
  go_quiet (fail)
  go_wp2_with fail
  go_ret
  exact⟨aJ E.out.symm,⟨_,rfl⟩⟩
 |some t=>
  obtain⟨i,x,hi,ht,hx⟩:=h.found hf
  have HC:=hid (aX h hi hx)
  have E:Hid (D.fB r=(t.mr.color==D.parity)):=hid (by unfold Wd.fB;rw[hf];rfl)
  have c2:=h.c2
  have m1:=h.m1 ht hx
  clear h hf hi ht hx
  go_enter Tryz.func119,Tryz.ntmps119
  go_wp2_with fail
  refine HC.out.mono ?_
  rintro e w1 ⟨rfl,rfl⟩
  go_wp2_with fail
  go_quiet (fail)
  go_wp2_with fail
  go_ret
  exact⟨aJ E.out.symm,⟨_,rfl⟩⟩
theorem UE(h:az w lo lab a D)(r:Int):
  Calls Tryz.prog 120 #[.pointer (some ⟨a.q,0,none⟩),.int .i64 r] w fun e w'=>e=.returned (.bool (D.dead r))∧dK w w':=by
 cases hf:D.find r with
 |none=>
  have HC:=hid (gY h hf)
  have E:Hid (D.dead r=false):=hid (by unfold Wd.dead;rw[hf])
  clear h hf
  go_enter Tryz.func120,Tryz.ntmps120
  go_wp2_with fail
  refine HC.out.mono ?_
  rintro e w1 ⟨rfl,rfl⟩
  go_wp2_with fail
  go_ret
  exact⟨aJ E.out.symm,dK.refl _⟩
 |some t=>
  obtain⟨i,x,hi,ht,hx⟩:=h.found hf
  have HC:=hid (aX h hi hx)
  have E:Hid (D.dead r=t.mr.dead):=hid (by unfold Wd.dead;rw[hf])
  have m5:=h.m5 ht hx
  clear h hf hi ht hx
  go_enter Tryz.func120,Tryz.ntmps120
  go_wp2_with fail
  refine HC.out.mono ?_
  rintro e w1 ⟨rfl,rfl⟩
  go_wp2_with fail
  go_ret
  exact⟨aJ E.out.symm,dK.refl _⟩
theorem Td(h:az w lo lab a D)(r:Int):
  Calls Tryz.prog 122 #[.pointer (some ⟨a.q,0,none⟩),.int .i64 r] w fun e w'=>e=.returned (.int .i64 (D.fE r))∧dK w w':=by
 cases hf:D.find r with
 |none=>
  have HC:=hid (gY h hf)
  have E:Hid (D.fE r=0):=hid (by unfold Wd.fE;rw[hf])
  clear h hf
  go_enter Tryz.func122,Tryz.ntmps122
  go_wp2_with fail
  refine HC.out.mono ?_
  rintro e w1 ⟨rfl,rfl⟩
  go_wp2_with fail
  go_quiet (fail)
  go_wp2_with fail
  go_ret
  exact⟨bO E.out.symm,⟨_,rfl⟩⟩
 |some t=>
  obtain⟨i,x,hi,ht,hx⟩:=h.found hf
  have HC:=hid (aX h hi hx)
  have c2:=h.c2
  have m3:=h.m3 ht hx
  have m4:=h.m4 ht hx
  by_cases he:t.mr.shade=D.parity
  ·have E:Hid (D.fE r=t.mr.shadow):=hid (by unfold Wd.fE;rw[hf];simp[he])
   rw[he] at m3
   clear h hf hi ht hx he
   have hb:(D.parity !=D.parity)=false:=by simp
   go_enter Tryz.func122,Tryz.ntmps122
   go_wp2_with fail
   refine HC.out.mono ?_
   rintro e w1 ⟨rfl,rfl⟩
   go_wp2_with fail
   go_quiet (fail)
   go_wp2_with fail
   go_ret
   exact⟨bO E.out.symm,⟨_,rfl⟩⟩
  ·have E:Hid (D.fE r=0):=hid (by unfold Wd.fE;rw[hf];simp[he])
   have hb:(t.mr.shade !=D.parity)=true:=by rw[bne_iff_ne];exact he
   clear h hf hi ht hx he
   go_enter Tryz.func122,Tryz.ntmps122
   go_wp2_with fail
   refine HC.out.mono ?_
   rintro e w1 ⟨rfl,rfl⟩
   go_wp2_with fail
   go_quiet (fail)
   go_wp2_with fail
   go_ret
   exact⟨bO E.out.symm,⟨_,rfl⟩⟩
def bT(w:World)(lo q:Nat)(D:Wd):Prop:=∃lab a,WA.q a=q∧az w lo lab a D
def dW(w:World)(lo q:Nat)(D':Wd)(v:Value)(e:Ending)(w':World):Prop:=e=.returned v∧bT w' lo q D'∧Touch (fun b=>lo≤b) w w'
theorem wO{r:Int}(f:cz→cz)(hi:D.ix r=some i)(ht:D.ts[i]? =some t):D.mark r f={D with ts:=D.ts.set i {t with mr:=f t.mr}}:=by
 unfold Wd.mark Wd.upd
 rw[yM hi ht]
theorem az.kN(h:az w lo lab a D){r:Int}{f:cz→cz}(hi:D.ix r=some i)(ht:D.ts[i]? =some t)(hx:a.tas[i]? =some x){k:Nat}{u:Value}(e:t.mr.cells.setIfInBounds k u=(f t.mr).cells):
  az (w.setCell ⟨x.mb,k,none⟩ u) lo lab a (D.mark r f):=by
 rw[wO f hi ht]
 exact h.ug ht hx e
theorem nT(h:az w lo lab a D)(ht:D.ts[i]? =some t)(hx:a.tas[i]? =some x)(k:Nat)(u:Value):Touch (fun b=>lo≤b) w (w.setCell ⟨x.mb,k,none⟩ u):=
 (Touch.refl _ _).setCell (fun _=>(h.mb i t x ht hx).2.1) u
end
section
variable {w w':World} {lo:Nat} {lab:Nat→Nat} {a:WA} {D:Wd} {i:Nat} {t:Th} {x:TA} {n v:Nat} {cl:List Nat} {ts:List Th}
theorem ui{α:Type}{l:List α}{i:Nat}{y:α}(h:l[i]? =some y):l.set i y=l:=by
 apply List.ext_getElem?
 intro j
 by_cases e:i=j
 ·subst e
  rw[List.getElem?_set_self ((List.getElem?_eq_some_iff.1 h).1),h]
 ·rw[List.getElem?_set_ne e]
theorem az.drew(h:az w lo lab a D):az w.drew lo lab a D:=h.touch (X:=fun _=>False) (Touch.refl _ _).drew (fun _ _ _=>id)
theorem az.ne(h:az w lo lab a D)(ht:D.ts[i]? =some t)(hx:a.tas[i]? =some x):¬x.mb=a.q∧¬a.q=x.mb:=by
 have h1:=(h.mb i t x ht hx).2.2
 have h2:=h.lq.2
 constructor<;>(intro e;have:=congrArg lab e;omega)
theorem Sy(h:az w lo lab a D)(r:Int):
  Calls Tryz.prog 57 #[.pointer (some ⟨a.q,0,none⟩),.int .i64 r] w (dW w lo a.q (D.cO r) (.bool (D.find r).isSome)):=by
 cases hf:D.find r with
 |none=>
  have HC:=hid (gY h hf)
  have H:=hid h
  have E:Hid (D.cO r=D):=hid (dJ _ hf)
  clear h hf
  go_enter Tryz.func57,Tryz.ntmps57
  go_wp2_with fail
  refine HC.out.mono ?_
  rintro e w1 ⟨rfl,rfl⟩
  go_wp2_with fail
  go_ret
  exact⟨rfl,by rw[E.out];exact⟨lab,a,rfl,H.out⟩,Touch.refl _ _⟩
 |some t=>
  obtain⟨i,x,hi,ht,hx⟩:=h.found hf
  have HC:=hid (aX h hi hx)
  have c2:=h.c2
  have m0:=h.m1 ht hx
  have fz:=(h.mb i t x ht hx).1.free 1
  have H:Hid (bT (w.setCell ⟨x.mb,1,none⟩ (.int .i64 D.parity)) lo a.q (D.cO r)):=hid ⟨lab,a,rfl,h.kN hi ht hx rfl⟩
  have T:=hid (nT h ht hx 1 (.int .i64 D.parity))
  clear h hf hi ht hx
  go_enter Tryz.func57,Tryz.ntmps57
  go_wp2_with fail
  refine HC.out.mono ?_
  rintro e w1 ⟨rfl,rfl⟩
  go_wp2_with fail
  go_ret
  exact⟨rfl,H.out,T.out⟩
theorem VW(h:az w lo lab a D)(r:Int):
  Calls Tryz.prog 98 #[.pointer (some ⟨a.q,0,none⟩),.int .i64 r] w (dW w lo a.q (D.nQ r) (.bool (D.find r).isSome)):=by
 cases hf:D.find r with
 |none=>
  have HC:=hid (gY h hf)
  have H:=hid h
  have E:Hid (D.nQ r=D):=hid (dJ _ hf)
  clear h hf
  go_enter Tryz.func98,Tryz.ntmps98
  go_wp2_with fail
  refine HC.out.mono ?_
  rintro e w1 ⟨rfl,rfl⟩
  go_wp2_with fail
  go_ret
  exact⟨rfl,by rw[E.out];exact⟨lab,a,rfl,H.out⟩,Touch.refl _ _⟩
 |some t=>
  obtain⟨i,x,hi,ht,hx⟩:=h.found hf
  have HC:=hid (aX h hi hx)
  have c2:=h.c2
  obtain⟨n1,n2⟩:=h.ne ht hx
  have m1:=h.m1 ht hx
  have m2:=h.m2 ht hx
  have m3:=h.m3 ht hx
  have m4:=h.m4 ht hx
  have fz1:=(h.mb i t x ht hx).1.free 1
  have fz2:=(h.mb i t x ht hx).1.free 2
  have fz3:=(h.mb i t x ht hx).1.free 3
  have fz4:=(h.mb i t x ht hx).1.free 4
  have H:=hid h
  have HI:=hid hi
  have HT:=hid ht
  have HX:=hid hx
  clear h hf hi ht hx
  go_enter Tryz.func98,Tryz.ntmps98
  go_wp2_with fail
  refine HC.out.mono ?_
  rintro e w1 ⟨rfl,rfl⟩
  go_wp2_with fail
  go_region
  go_wp2_with fail
  go_ret
  have h1:=H.out.ug (i:=i) (t:=t) (x:=x) (k:=1) (u:=.int .i64 D.parity) (m:={t.mr with color:=D.parity}) HT.out HX.out rfl
  have hl:=(List.getElem?_eq_some_iff.1 HT.out).1
  have h2:=h1.ug (i:=i) (t:={t with mr:={t.mr with color:=D.parity}}) (x:=x) (k:=2) (u:=.int .i64 D.parity) (m:={t.mr with color:=D.parity,count:=D.parity}) (by simp[hl]) HX.out rfl
  have h3:=h2.ug (i:=i) (t:={t with mr:={t.mr with color:=D.parity,count:=D.parity}}) (x:=x) (k:=3) (u:=.int .i64 D.parity) (m:={t.mr with color:=D.parity,count:=D.parity,shade:=D.parity}) (by simp[hl]) HX.out rfl
  have h4:=h3.ug (i:=i) (t:={t with mr:={t.mr with color:=D.parity,count:=D.parity,shade:=D.parity}}) (x:=x) (k:=4) (u:=.int .i64 0) (m:={t.mr with color:=D.parity,count:=D.parity,shade:=D.parity,shadow:=0}) (by simp[hl]) HX.out rfl
  refine⟨rfl,⟨lab,a,rfl,?_⟩,?_⟩
  ·unfold Wd.nQ
   rw[wO _ HI.out HT.out]
   have h5:=h4.drew
   simpa using h5
  ·have hm:=(H.out.mb i t x HT.out HX.out).2.1
   exact((((Touch.refl _ _).setCell (p:=⟨x.mb,1,none⟩) (fun _=>hm) _).setCell (p:=⟨x.mb,2,none⟩) (fun _=>hm) _).setCell (p:=⟨x.mb,3,none⟩) (fun _=>hm) _).setCell (p:=⟨x.mb,4,none⟩) (fun _=>hm) _ |>.drew
theorem lQ{r:Int}(h:D.lighter r=false):D.aI r=D:=by unfold Wd.aI;rw[h];rfl
theorem Bi(h:az w lo lab a D)(r:Int)(hs0: -4611686018427387904≤D.fE r)(hs1:D.fE r≤4611686018427387904):
  Calls Tryz.prog 170 #[.pointer (some ⟨a.q,0,none⟩),.int .i64 r] w (dW w lo a.q (D.aI r) (.bool (D.lighter r))):=by
 have HBl:=hid (fun w' (h':az w' lo lab a D)=>KV h' r)
 have HSh:=hid (fun w' (h':az w' lo lab a D)=>Td h' r)
 have c3:=h.c3
 by_cases h1:D.phase=1
 ·have hph:D.phase=1∨D.phase=2:=.inl h1
  rw[h1] at c3
  cases hbl:D.fB r with
  |true=>
   have E:Hid (D.lighter r=false):=hid (by unfold Wd.lighter;simp[hbl])
   rw[hbl] at HBl
   have H:=hid h
   clear h hs0 hs1 hbl HSh
   go_enter Tryz.func170,Tryz.ntmps170
   go_wp2_with fail
   refine(HBl.out _ H.out).mono ?_
   rintro e w1 ⟨rfl,hd⟩
   have H1:=hid (H.out.dF hd)
   have T1:=hid (Touch.of_below (X:=fun b=>lo≤b) hd.new)
   clear hd
   go_wp2_with fail
   go_ret
   exact⟨by rw[E.out];rfl,by rw[lQ E.out];exact⟨lab,a,rfl,H1.out⟩,T1.out⟩
  |false=>
   by_cases hz:D.fE r=0
   ·have E:Hid (D.lighter r=false):=hid (by unfold Wd.lighter;simp[hz])
    rw[hbl] at HBl
    rw[hz] at HSh
    have H:=hid h
    clear h hs0 hs1 hbl hz
    go_enter Tryz.func170,Tryz.ntmps170
    go_wp2_with fail
    refine(HBl.out _ H.out).mono ?_
    rintro e w1 ⟨rfl,hd⟩
    have H1:=hid (H.out.dF hd)
    have T1:=hid (Touch.of_below (X:=fun b=>lo≤b) hd.new)
    clear hd
    go_wp2_with fail
    refine(HSh.out _ H1.out).mono ?_
    rintro e w2 ⟨rfl,hd⟩
    have H2:=hid (H1.out.dF hd)
    have T2:=hid (T1.out.trans (Touch.of_below (X:=fun b=>lo≤b) hd.new))
    clear hd
    go_wp2_with fail
    go_ret
    exact⟨by rw[E.out];rfl,by rw[lQ E.out];exact⟨lab,a,rfl,H2.out⟩,T2.out⟩
   ·have E:Hid (D.lighter r=true):=hid (by unfold Wd.lighter;simp[hbl,hz,hph])
    obtain⟨t,hf⟩:∃t,D.find r=some t:=by
     cases hf:D.find r with
     |none=>exact absurd (by unfold Wd.fE;rw[hf]) hz
     |some t=>exact⟨t,rfl⟩
    have hpar:D.fE r=t.mr.shadow:=by
     unfold Wd.fE at hz ⊢
     rw[hf] at hz ⊢
     simp at hz ⊢
     intro hne
     exact absurd hne (fun hne=>absurd hz (by simp[hne]))
    obtain⟨i,x,hi,ht,hx⟩:=h.found hf
    have HC:=hid (fun w' (h':az w' lo lab a D)=>aX h' hi hx)
    rw[hbl] at HBl
    have hzb:(D.fE r==0)=false:=by rw[beq_eq_false_iff_ne];exact hz
    have hwr:IntKind.i64.wrap (t.mr.shadow-1)=t.mr.shadow-1:=IntWalk.i64_in _ (by omega)
    have H:=hid h
    have HI:=hid hi
    have HT:=hid ht
    have HX:=hid hx
    clear h hs0 hs1 hbl hz hf hpar hi ht hx
    go_enter Tryz.func170,Tryz.ntmps170
    go_wp2_with fail
    refine(HBl.out _ H.out).mono ?_
    rintro e w1 ⟨rfl,hd⟩
    have H1:=hid (H.out.dF hd)
    have T1:=hid (Touch.of_below (X:=fun b=>lo≤b) hd.new)
    clear hd
    go_wp2_with fail
    refine(HSh.out _ H1.out).mono ?_
    rintro e w2 ⟨rfl,hd⟩
    have H2:=hid (H1.out.dF hd)
    have T2:=hid (T1.out.trans (Touch.of_below (X:=fun b=>lo≤b) hd.new))
    clear hd
    go_wp2_with fail
    refine(HC.out _ H2.out).mono ?_
    rintro e w3 ⟨rfl,rfl⟩
    have m4:=H2.out.m4 HT.out HX.out
    have fz4:=(H2.out.mb i t x HT.out HX.out).1.free 4
    go_wp2_with fail
    go_ret
    refine⟨by rw[E.out];rfl,⟨lab,a,rfl,?_⟩,T2.out.trans (nT H2.out HT.out HX.out 4 _)⟩
    unfold Wd.aI
    rw[E.out,if_pos rfl]
    exact H2.out.kN (f:=fun m=>{m with shadow:=m.shadow-1}) HI.out HT.out HX.out rfl
 ·by_cases h2:D.phase=2
  ·have hph:D.phase=1∨D.phase=2:=.inr h2
   rw[h2] at c3
   cases hbl:D.fB r with
   |true=>
    have E:Hid (D.lighter r=false):=hid (by unfold Wd.lighter;simp[hbl])
    rw[hbl] at HBl
    have H:=hid h
    clear h hs0 hs1 hbl HSh
    go_enter Tryz.func170,Tryz.ntmps170
    go_wp2_with fail
    refine(HBl.out _ H.out).mono ?_
    rintro e w1 ⟨rfl,hd⟩
    have H1:=hid (H.out.dF hd)
    have T1:=hid (Touch.of_below (X:=fun b=>lo≤b) hd.new)
    clear hd
    go_wp2_with fail
    go_ret
    exact⟨by rw[E.out];rfl,by rw[lQ E.out];exact⟨lab,a,rfl,H1.out⟩,T1.out⟩
   |false=>
    by_cases hz:D.fE r=0
    ·have E:Hid (D.lighter r=false):=hid (by unfold Wd.lighter;simp[hz])
     rw[hbl] at HBl
     rw[hz] at HSh
     have H:=hid h
     clear h hs0 hs1 hbl hz
     go_enter Tryz.func170,Tryz.ntmps170
     go_wp2_with fail
     refine(HBl.out _ H.out).mono ?_
     rintro e w1 ⟨rfl,hd⟩
     have H1:=hid (H.out.dF hd)
     have T1:=hid (Touch.of_below (X:=fun b=>lo≤b) hd.new)
     clear hd
     go_wp2_with fail
     refine(HSh.out _ H1.out).mono ?_
     rintro e w2 ⟨rfl,hd⟩
     have H2:=hid (H1.out.dF hd)
     have T2:=hid (T1.out.trans (Touch.of_below (X:=fun b=>lo≤b) hd.new))
     clear hd
     go_wp2_with fail
     go_ret
     exact⟨by rw[E.out];rfl,by rw[lQ E.out];exact⟨lab,a,rfl,H2.out⟩,T2.out⟩
    ·have E:Hid (D.lighter r=true):=hid (by unfold Wd.lighter;simp[hbl,hz,hph])
     obtain⟨t,hf⟩:∃t,D.find r=some t:=by
      cases hf:D.find r with
      |none=>exact absurd (by unfold Wd.fE;rw[hf]) hz
      |some t=>exact⟨t,rfl⟩
     have hpar:D.fE r=t.mr.shadow:=by
      unfold Wd.fE at hz ⊢
      rw[hf] at hz ⊢
      simp at hz ⊢
      intro hne
      exact absurd hne (fun hne=>absurd hz (by simp[hne]))
     obtain⟨i,x,hi,ht,hx⟩:=h.found hf
     have HC:=hid (fun w' (h':az w' lo lab a D)=>aX h' hi hx)
     rw[hbl] at HBl
     have hzb:(D.fE r==0)=false:=by rw[beq_eq_false_iff_ne];exact hz
     have hwr:IntKind.i64.wrap (t.mr.shadow-1)=t.mr.shadow-1:=IntWalk.i64_in _ (by omega)
     have H:=hid h
     have HI:=hid hi
     have HT:=hid ht
     have HX:=hid hx
     clear h hs0 hs1 hbl hz hf hpar hi ht hx
     go_enter Tryz.func170,Tryz.ntmps170
     go_wp2_with fail
     refine(HBl.out _ H.out).mono ?_
     rintro e w1 ⟨rfl,hd⟩
     have H1:=hid (H.out.dF hd)
     have T1:=hid (Touch.of_below (X:=fun b=>lo≤b) hd.new)
     clear hd
     go_wp2_with fail
     refine(HSh.out _ H1.out).mono ?_
     rintro e w2 ⟨rfl,hd⟩
     have H2:=hid (H1.out.dF hd)
     have T2:=hid (T1.out.trans (Touch.of_below (X:=fun b=>lo≤b) hd.new))
     clear hd
     go_wp2_with fail
     refine(HC.out _ H2.out).mono ?_
     rintro e w3 ⟨rfl,rfl⟩
     have m4:=H2.out.m4 HT.out HX.out
     have fz4:=(H2.out.mb i t x HT.out HX.out).1.free 4
     go_wp2_with fail
     go_ret
     refine⟨by rw[E.out];rfl,⟨lab,a,rfl,?_⟩,T2.out.trans (nT H2.out HT.out HX.out 4 _)⟩
     unfold Wd.aI
     rw[E.out,if_pos rfl]
     exact H2.out.kN (f:=fun m=>{m with shadow:=m.shadow-1}) HI.out HT.out HX.out rfl
  ·have E:Hid (D.lighter r=false):=hid (by unfold Wd.lighter;simp[h1,h2])
   have b1:(D.phase !=1)=true:=by rw[bne_iff_ne];exact h1
   have b2:(D.phase !=2)=true:=by rw[bne_iff_ne];exact h2
   have H:=hid h
   clear h hs0 hs1 HBl HSh h1 h2
   go_enter Tryz.func170,Tryz.ntmps170
   go_wp2_with fail
   go_ret
   exact⟨by rw[E.out];rfl,by rw[lQ E.out];exact⟨lab,a,rfl,H.out⟩,Touch.refl _ _⟩
end
section
variable {w w':World} {lo:Nat} {lab:Nat→Nat} {a:WA} {D:Wd} {i:Nat} {t:Th} {x:TA} {n v:Nat} {cl:List Nat} {ts:List Th}
theorem fZ{r:Int}(h:D.aU r=false):D.touch r=D:=by unfold Wd.touch;rw[h];rfl
theorem bT.mQ{w1:World}(h:az w lo lab a D)(hb:Below w.heap.size w w1){ra:Option Addr}{rc:Nat}{l:List Nat}(hr:Row w1 .i64 ra (ints l))(hf:∀b off,ra=some ⟨b,off,none⟩→w.heap.size≤b):
  bT (w1.setCell ⟨a.q,11,none⟩ (.slice ra l.length rc)) lo a.q {D with ring:=l}:=by
 have hlo:lo≤w.heap.size:=Nat.le_of_lt (Nat.lt_of_le_of_lt h.lq.1 h.wb.lt)
 obtain⟨lab',h1,h2⟩:=xU (lab:=lab) hr hf hlo 5
 exact⟨lab',{a with ra:=ra,rc:=rc},rfl,((h.re h1).later hb).KO hr h2⟩
theorem Wv(h:az w lo lab a D)(r:Int)(hl:D.ring.length≤8000):
  Calls Tryz.prog 102 #[.pointer (some ⟨a.q,0,none⟩),.int .i64 r] w (dW w lo a.q (D.touch r) (.bool (D.aU r))):=by
 cases hf:D.find r with
 |none=>
  have E:Hid (D.aU r=false):=hid (by unfold Wd.aU;rw[hf])
  have HC:=hid (gY h hf)
  have H:=hid h
  clear h hf hl
  go_enter Tryz.func102,Tryz.ntmps102
  go_wp2_with fail
  refine HC.out.mono ?_
  rintro e w1 ⟨rfl,rfl⟩
  go_wp2_with fail
  go_quiet (fail)
  go_wp2_with fail
  go_ret
  exact⟨by rw[E.out];rfl,by rw[fZ E.out];exact⟨lab,a,rfl,H.out.dF ⟨_,rfl⟩⟩,Touch.of_below (dK.new ⟨_,rfl⟩)⟩
 |some t=>
  obtain⟨i,x,hi,ht,hx⟩:=h.found hf
  have ET:D.aU r=(!decide (D.phase=0)&& !t.mr.dead&& !decide (t.mr.color=D.parity)):=by unfold Wd.aU;rw[hf]
  obtain⟨_,_,hrt⟩:=df hf
  have hbd:=h.h.bd t (List.mem_of_getElem? ht)
  have HC:=hid (aX h hi hx)
  have c2:=h.c2
  have c3:=h.c3
  have m1:=h.m1 ht hx
  have m5:=h.m5 ht hx
  by_cases hp:D.phase=0
  ·have E:Hid (D.aU r=false):=hid (by rw[ET];simp[hp])
   have H:=hid h
   rw[hp] at c3
   clear h hf hl ET hi ht hx hrt hbd hp
   go_enter Tryz.func102,Tryz.ntmps102
   go_wp2_with fail
   refine HC.out.mono ?_
   rintro e w1 ⟨rfl,rfl⟩
   go_wp2_with fail
   go_quiet (fail)
   go_wp2_with fail
   go_ret
   exact⟨by rw[E.out];rfl,by rw[fZ E.out];exact⟨lab,a,rfl,H.out.dF ⟨_,rfl⟩⟩,Touch.of_below (dK.new ⟨_,rfl⟩)⟩
  ·have hpb:=bL hp
   cases hd:t.mr.dead with
   |true=>
    have E:Hid (D.aU r=false):=hid (by rw[ET];simp[hd])
    have H:=hid h
    rw[hd] at m5
    clear h hf hl ET hi ht hx hrt hbd hp hd
    go_enter Tryz.func102,Tryz.ntmps102
    go_wp2_with fail
    refine HC.out.mono ?_
    rintro e w1 ⟨rfl,rfl⟩
    go_wp2_with fail
    go_quiet (fail)
    go_wp2_with fail
    go_ret
    exact⟨by rw[E.out];rfl,by rw[fZ E.out];exact⟨lab,a,rfl,H.out.dF ⟨_,rfl⟩⟩,Touch.of_below (dK.new ⟨_,rfl⟩)⟩
   |false=>
    rw[hd] at m5
    by_cases hc:t.mr.color=D.parity
    ·have E:Hid (D.aU r=false):=hid (by rw[ET];simp[hc])
     have H:=hid h
     rw[hc] at m1
     clear h hf hl ET hi ht hx hrt hbd hp hd hc
     go_enter Tryz.func102,Tryz.ntmps102
     go_wp2_with fail
     refine HC.out.mono ?_
     rintro e w1 ⟨rfl,rfl⟩
     go_wp2_with fail
     go_quiet (fail)
     go_wp2_with fail
     go_ret
     exact⟨by rw[E.out];rfl,by rw[fZ E.out];exact⟨lab,a,rfl,H.out.dF ⟨_,rfl⟩⟩,Touch.of_below (dK.new ⟨_,rfl⟩)⟩
    ·have E:Hid (D.aU r=true):=hid (by rw[ET];simp[hd,hc,hp])
     have hcb:=bL hc
     have hwr:IntKind.i64.wrap (r-1)=(t.h:Int):=by rw[show r-1=(t.h:Int) by omega];exact IntWalk.i64_in _ (by omega)
     have HRT:Hid (r-1=(t.h:Int)):=hid (by omega)
     have HL:=hid hl
     have H:=hid h
     have HI:=hid hi
     have HT:=hid ht
     have HX:=hid hx
     obtain⟨n1,n2⟩:=h.ne ht hx
     have fz1:=(h.mb i t x ht hx).1.free 1
     have c11:=h.c11
     clear h hf hl ET hi ht hx hrt hbd hp hd hc
     go_enter Tryz.func102,Tryz.ntmps102
     go_wp2_with fail
     refine HC.out.mono ?_
     rintro e w1 ⟨rfl,rfl⟩
     go_wp2_with fail
     go_quiet (fail)
     have HQ:=hid (fun m=>((H.out.dF (w':=w.drewN m) ⟨m,rfl⟩).kN (f:=fun k=>{k with color:=D.parity}) HI.out HT.out HX.out (k:=1) (u:=.int .i64 D.parity) rfl))
     have HTQ:=hid (fun m=>(Touch.of_below (X:=fun b=>lo≤b) (dK.new (w:=w) (w':=w.drewN m) ⟨m,rfl⟩)).trans (nT (H.out.dF (w':=w.drewN m) ⟨m,rfl⟩) HT.out HX.out 1 (.int .i64 D.parity)))
     go_wp2_with fail
     generalize hw1:World.setCell _ _ _=w1 at*
     have H1:Hid (az w1 lo lab a (D.cO r)):=hid (hw1▸HQ.out _)
     have T1:Hid (Touch (fun b=>lo≤b) w w1):=hid (hw1▸HTQ.out _)
     clear hw1 HQ HTQ c2 c3 m1 m5 fz1 c11
     have c11:w1.cell? ⟨a.q,11,none⟩=some (.slice a.ra D.ring.length a.rc):=H1.out.c11
     have HH:=hid (Un a.ra a.rc D.ring (t.h:Int) w1 H1.out.rg (by have:=HL.out;omega))
     refine HH.out.mono ?_
     rintro e w2 ⟨rfl,rfl⟩
     cases hh:hasB (ints D.ring) (t.h:Int) with
     |true=>
      have HE:Hid (D.touch r=D.cO r):=hid (by
       unfold Wd.touch
       rw[E.out,if_pos rfl,HRT.out,hh,if_pos rfl]
       rfl)
      clear hh HH
      go_wp2_with fail
      go_ret
      exact⟨by rw[E.out];rfl,by rw[HE.out];exact⟨lab,a,rfl,H1.out⟩,T1.out⟩
     |false=>
      have HE:Hid (D.touch r={D.cO r with ring:=D.ring++[t.h]}):=hid (by
       unfold Wd.touch
       rw[E.out,if_pos rfl,HRT.out,hh,if_neg (by decide)]
       simp)
      have HB:=hid (oD a.ra a.rc D.ring t.h w1 H1.out.rg (by have:=HL.out;omega))
      clear hh HH
      go_wp2_with fail
      refine HB.out.mono ?_
      rintro e w2 ⟨ra,rc,rfl,hr,hf,hb⟩
      have h0:=bT.mQ H1.out hb (rc:=rc) hr hf
      rw[show(D.ring++[t.h]).length=D.ring.length+1 by simp] at h0
      have HW:=hid h0
      clear h0
      have HTW:=hid ((T1.out.trans (Touch.of_below hb)).setCell (p:=⟨a.q,11,none⟩) (fun _=>H1.out.lq.1) (.slice ra (D.ring.length+1) rc))
      have c11:w2.cell? ⟨a.q,11,none⟩=some (.slice a.ra D.ring.length a.rc):=(H1.out.later hb).c11
      have fz:=((H1.out.later hb).wb).free 11
      clear hr hf hb
      go_wp2_with fail
      go_ret
      exact⟨by rw[E.out];rfl,by rw[HE.out];exact HW.out,HTW.out⟩
theorem nM(h:az w lo lab a D)(r k:Int):
  Calls Tryz.prog 124 #[.pointer (some ⟨a.q,0,none⟩),.int .i64 r,.int .i64 k] w fun e w'=>e=.returned (.bool (D.counted r k))∧dK w w':=by
 cases hf:D.find r with
 |none=>
  have E:Hid (D.counted r k=false):=hid (by unfold Wd.counted;rw[hf])
  have HC:=hid (gY h hf)
  clear h hf
  go_enter Tryz.func124,Tryz.ntmps124
  go_wp2_with fail
  refine HC.out.mono ?_
  rintro e w1 ⟨rfl,rfl⟩
  go_wp2_with fail
  go_ret
  exact⟨aJ E.out.symm,dK.refl _⟩
 |some t=>
  obtain⟨i,x,hi,ht,hx⟩:=h.found hf
  have ET:D.counted r k=(decide (0≤k)&&(decide (t.mr.count=D.parity)||(decide (D.phase=1)&&decide (D.cursor=r-1)&&decide (k<D.field)))):=by unfold Wd.counted;rw[hf]
  obtain⟨_,_,hrt⟩:=df hf
  have hbd:=h.h.bd t (List.mem_of_getElem? ht)
  have HC:=hid (aX h hi hx)
  by_cases hk:k<0
  ·have E:Hid (D.counted r k=false):=hid (by rw[ET];simp;intro g;omega)
   clear h hf ET hi ht hx hrt hbd
   go_enter Tryz.func124,Tryz.ntmps124
   go_wp2_with fail
   refine HC.out.mono ?_
   rintro e w1 ⟨rfl,rfl⟩
   go_wp2_with fail
   go_ret
   exact⟨aJ E.out.symm,dK.refl _⟩
  ·have c2:=h.c2
   have c3:=h.c3
   have c4:=h.c4
   have c5:=h.c5
   have m2:=h.m2 ht hx
   have hwr:IntKind.i64.wrap (r-1)=r-1:=IntWalk.i64_in _ (by omega)
   have hk0:decide (0≤k)=true:=decide_eq_true (by omega)
   by_cases hc:t.mr.count=D.parity
   ·have E:Hid (D.counted r k=true):=hid (by rw[ET,hk0];simp[hc])
    rw[hc] at m2
    clear h hf ET hi ht hx hrt hbd hc hk0
    go_enter Tryz.func124,Tryz.ntmps124
    go_wp2_with fail
    refine HC.out.mono ?_
    rintro e w1 ⟨rfl,rfl⟩
    go_wp2_with fail
    go_quiet (fail)
    go_wp2_with fail
    go_ret
    exact⟨aJ E.out.symm,⟨_,rfl⟩⟩
   ·have hcb:=bL hc
    by_cases hp:D.phase=1
    ·rw[hp] at c3
     by_cases hq:D.cursor=r-1
     ·have hqb:=wB hq
      have E:Hid (D.counted r k=decide (k<D.field)):=hid (by rw[ET,hk0];simp[hc,hp,hq])
      rw[hq] at c4
      clear h hf ET hi ht hx hrt hbd hc hp hq hk0
      go_enter Tryz.func124,Tryz.ntmps124
      go_wp2_with fail
      refine HC.out.mono ?_
      rintro e w1 ⟨rfl,rfl⟩
      go_wp2_with fail
      go_quiet (fail)
      go_wp2_with fail
      go_ret
      exact⟨aJ E.out.symm,⟨_,rfl⟩⟩
     ·have hqb:=bL hq
      have E:Hid (D.counted r k=false):=hid (by rw[ET,hk0];simp[hc,hp,hq])
      clear h hf ET hi ht hx hrt hbd hc hp hq hk0
      go_enter Tryz.func124,Tryz.ntmps124
      go_wp2_with fail
      refine HC.out.mono ?_
      rintro e w1 ⟨rfl,rfl⟩
      go_wp2_with fail
      go_quiet (fail)
      go_wp2_with fail
      go_ret
      exact⟨aJ E.out.symm,⟨_,rfl⟩⟩
    ·have hpb:=bL hp
     have E:Hid (D.counted r k=false):=hid (by rw[ET,hk0];simp[hc,hp])
     clear h hf ET hi ht hx hrt hbd hc hp hk0
     go_enter Tryz.func124,Tryz.ntmps124
     go_wp2_with fail
     refine HC.out.mono ?_
     rintro e w1 ⟨rfl,rfl⟩
     go_wp2_with fail
     go_quiet (fail)
     go_wp2_with fail
     go_ret
     exact⟨aJ E.out.symm,⟨_,rfl⟩⟩
def iQ(l:List Th):List Int:=l.flatMap (fun t=>if t.ended then[] else[(t.h:Int)+1])
def Wd.refs(D:Wd):List Int:=iQ D.ts
theorem Jl{l:List Th}{k:Nat}(ht:l[k]? =some t):iQ (l.take (k+1))=iQ (l.take k)++(if t.ended then[] else[(t.h:Int)+1]):=by
 rw[List.take_add_one,ht]
 unfold iQ
 rw[List.flatMap_append]
 simp
set_option maxHeartbeats 1000000 in
theorem UJ(h:az w lo lab a D)(hn:D.ts.length≤10000):
  Calls Tryz.prog 65 #[.pointer (some ⟨a.q,0,none⟩)] w (dQ w D.refs):=by
 obtain⟨i0,hinf,hz0,hz1,hz2⟩:=info_parts jy
 obtain⟨⟨om,capm,hmv⟩,hmx⟩:=jf h.h.tv
 have HMV:=hid hmv
 have HN:=hid hn
 have H:=hid h
 clear h hmx hn hmv
 go_enter Tryz.func65,Tryz.ntmps65
 go_wp2_with fail
 go_loopw [3,4] (fun v i wr=>∃k:Nat,k≤D.ts.length∧i=.int .i64 (k:Int)∧ib w v (iQ (D.ts.take k)).length (iQ (D.ts.take k)) wr) (fun _ i _=>D.ts.length-(intOf i).toNat)
 case atStart=>exact⟨0,Nat.zero_le _,rfl,World.ownsRow_nil _ _ _ _,Below.refl _ _⟩
 case round=>
  obtain⟨k,hk,rfl,hG⟩:=hrel
  have HGa:=hid hG
  have H1:=hid (H.out.later hG.2)
  have c0:=H1.out.c0
  have c3:=H1.out.h.c3
  rw[HMV.out] at c3
  clear hG
  by_cases hlt:k<D.ts.length
  ·obtain⟨t,ht⟩:∃t,D.ts[k]? =some t:=⟨_,List.getElem?_eq_getElem hlt⟩
   obtain⟨x,hx⟩:=H1.out.h.at ht
   obtain⟨g,cap,htv,ct⟩:=H1.out.h.UC ht hx
   rw[HMV.out] at htv
   obtain⟨rfl,_,rfl⟩:om=some ⟨g,0,none⟩∧D.ts.length=D.ts.length∧capm=cap:=by simpa using htv
   have hT:=H1.out.h.th k t x ht hx
   have d0:=hT.c0
   have d4:=hT.c4
   have hbd:=H1.out.h.bd t (List.mem_of_getElem? ht)
   have hwr:IntKind.i64.wrap ((t.h:Int)+1)=(t.h:Int)+1:=IntWalk.i64_in _ (by omega)
   have HSn:=hid (Jl ht)
   have HKn:Hid (k<10000):=hid (by have:=HN.out;omega)
   have hlen:(iQ (D.ts.take k)).length≤k:=by
    have:∀l:List Th,(iQ l).length≤l.length:=fun l=>by
     induction l with
     |nil=>simp[iQ]
     |cons u l ih=>
      have:iQ (u::l)=(if u.ended then[] else[(u.h:Int)+1])++iQ l:=rfl
      rw[this]
      cases u.ended<;>simp<;>omega
    have h2:=this (D.ts.take k)
    simp at h2
    omega
   have hk2:=HKn.out
   clear hT hbd htv ht hx
   cases hen:t.ended with
   |true=>
    rw[hen] at d4
    have HEn:=hid hen
    clear hen hlen
    go_wp2_with fail
    go_roundw
    case rel=>exact⟨k+1,by omega,by go_num,by rw[HSn.out,HEn.out];simpa using HGa.out⟩
    case measure=>simp[intOf];omega
   |false=>
    rw[hen] at d4
    have HEn:=hid hen
    have hown:=HGa.out.1
    have hsz:=HGa.out.2.size
    clear hen
    go_wp2_with (at_builtin;refine wpList_append_own _ rfl _ _ 45 rfl w.heap.size 3 i0 (.int .i64 0) 1 8 Tryz.underlying45 hinf hz0 hz1 hz2 rfl (by decide) _ _ _ rfl (hown.alloc _) ⟨wr.heap.size,0,none⟩ 1 1 [.int .i64 ((t.h:Int)+1)] rfl rfl ?c1 ?c2 ?c3 ?c4 ?c5 ?c6)
    case c2=>rfl
    case c3=>unfold maxLen;omega
    case c4=>omega
    case c5=>omega
    case c6=>
     intro v' w6 hown' hgrow _
     have HB6:=hid ((HGa.out.2.alloc hsz (.cells #[.int .i64 ((t.h:Int)+1)] 3)).grown hgrow (by simp;omega) (aN hown))
     have HO6:Hid (w6.ownsRow w.heap.size 3 1 v' (iQ (D.ts.take k)++[(t.h:Int)+1]).length ((iQ (D.ts.take k)++[(t.h:Int)+1]).map (Value.int .i64))):=hid (by simpa using hown')
     clear hown' hgrow hown hsz hlen
     go_wp2_with fail
     go_roundw
     case rel=>exact⟨k+1,by omega,by go_num,by rw[HSn.out,HEn.out];exact⟨HO6.out,HB6.out⟩⟩
     case measure=>simp[intOf];omega
  ·obtain rfl:k=D.ts.length:=by omega
   have HFin:Hid (ib w _ D.refs.length D.refs _):=hid (by have:=HGa.out;rw[List.take_length] at this;exact this)
   go_wp2_with fail
   go_ret
   exact dQ.mk rfl HFin.out
end
end Go.Proofs.YtjmifnljckmimaaGreat.Pk
