/-
  Texts laid together: RefW, RefW2, RefW3.
-/
import Derived.Test.YtjmifnljckmimaaGreatPoolDoEtc
import Derived.Test.YtjmifnljckmimaaGreatRefChainEtc
import Derived.OwnWalk
import Derived.BigRegion
import Derived.Test.YtjmifnljckmimaaGreatChainsEtc
namespace Go.Proofs.YtjmifnljckmimaaGreat.Pk
open Lib (hid)
open Go.RowKit
set_option linter.unusedVariables false
set_option linter.unusedSimpArgs false
set_option maxRecDepth 100000
section
variable {w w':World} {lo:Nat} {lab:Nat→Nat} {a:WA} {D:Wd} {i:Nat} {t:Th} {x:TA} {n v:Nat} {cl:List Nat} {ts:List Th}
theorem Ao{e:TypeId}{u:Value}{m:Nat}{xs:List Value}(h:w.ownsRow lo e 1 u m xs){k:Nat}{y:Value}(hy:xs[k]? =some y):∃g cap,u=.slice (some ⟨g,0,none⟩) m cap∧w.cell? ⟨g,k,none⟩=some y∧k<m∧m≤maxLen:=by
 have hk:=(List.getElem?_eq_some_iff.1 hy).1
 have hl:=h.1
 rcases h.2 with⟨_,h0⟩|⟨g,cap,cur,rfl,hb,hg,hc,hm,_,ht⟩
 ·omega
 ·refine⟨g,cap,rfl,?_,by omega,by omega⟩
  have hB:Blk w g cur e:=hg
  refine hB.cell k ?_
  rw[←ht,List.getElem?_take,if_pos (by omega)] at hy
  rw[←Array.getElem?_toList]
  exact hy
theorem yY{e:TypeId}{u:Value}{m:Nat}{xs:List Value}(h:w.ownsRow lo e 1 u m xs):(∃o cap,u=.slice o m cap)∧m≤maxLen:=by
 rcases h.2 with⟨rfl,h0⟩|⟨g,cap,cur,rfl,hb,hg,hc,hm,_,ht⟩
 ·subst h0;exact⟨⟨_,_,rfl⟩,Nat.zero_le _⟩
 ·exact⟨⟨_,_,rfl⟩,by omega⟩
theorem Ic.at(h:Ic w lo lab a n v cl ts)(ht:ts[i]? =some t):∃x,a.tas[i]? =some x:=by
 have:=(List.getElem?_eq_some_iff.1 ht).1
 exact⟨a.tas[i]'(by rw[h.len];exact this),by simp⟩
theorem Ic.RZ(h:Ic w lo lab a n v cl ts)(ht:ts[i]? =some t)(hx:a.tas[i]? =some x):∃g cap,a.tv=.slice (some ⟨g,0,none⟩) ts.length cap∧w.cell? ⟨g,i,none⟩=some (.pointer (some ⟨x.tb,0,none⟩)):=by
 obtain⟨g,cap,h1,h2,_⟩:=Ao h.tv (k:=i) (y:=x.Rn) (by rw[List.getElem?_map,hx];rfl)
 exact⟨g,cap,h1,h2⟩
theorem WAt.RN(h:WAt w lo lab a D)(ht:D.ts[i]? =some t)(hx:a.tas[i]? =some x):∃g cap,a.mv=.slice (some ⟨g,0,none⟩) D.ts.length cap∧w.cell? ⟨g,i,none⟩=some (.pointer (some ⟨x.mb,0,none⟩)):=by
 obtain⟨g,cap,h1,h2,_⟩:=Ao h.mv (k:=i) (y:=x.PD) (by rw[List.getElem?_map,hx];rfl)
 exact⟨g,cap,h1,h2⟩
def WA.mp(a:WA):Option Nat→Value
 |none=>.pointer none
 |some i=>match a.tas[i]? with|some x=>.pointer (some ⟨x.mb,0,none⟩)|none=>.pointer none
theorem Ka{r:Int}(h:t.ended=true):t.at r=false:=by unfold Th.at;simp[h]
theorem QK{r:Int}(h:¬(t.h:Int)+1=r):t.at r=false:=by unfold Th.at;simp[h]
theorem at_eq{r:Int}(h:t.ended=false)(e:(t.h:Int)+1=r):t.at r=true:=by unfold Th.at;simp[h,e]
theorem Rq(h:WAt w lo lab a D)(r:Int):
  Calls Tryz.prog 55 #[.pointer (some ⟨a.q,0,none⟩),.int .i64 r] w fun e w'=>e=.returned (a.mp (D.ix r))∧w=w':=by
 have c0:=h.c0
 have c1:=h.c1
 have c3:=h.h.c3
 obtain⟨⟨om,capm,hmv⟩,hmx⟩:=yY h.mv
 have HMX:Hid (D.ts.length≤maxLen):=hid hmx
 have HMV:=hid hmv
 rw[hmv] at c1
 have H:=hid h
 clear h hmx hmv
 go_enter Tryz.func55,Tryz.ntmps55
 go_wp2_with fail
 go_loop [5] (fun i=>∃k:Nat,k≤D.ts.length∧i=.int .i64 (k:Int)∧∀(j:Nat) u,j<k→D.ts[j]? =some u→u.at r=false) (fun i=>D.ts.length-(intOf i).toNat)
 case atStart=>exact⟨0,Nat.zero_le _,rfl,fun j u h=>absurd h (by omega)⟩
 case round=>
  obtain⟨k,hk,rfl,hno⟩:=hrel
  have HN:=hid hno
  clear hno
  by_cases hlt:k<D.ts.length
  ·obtain⟨t,ht⟩:∃t,D.ts[k]? =some t:=⟨_,List.getElem?_eq_getElem hlt⟩
   obtain⟨x,hx⟩:=H.out.h.at ht
   obtain⟨g,cap,htv,ct⟩:=H.out.h.RZ ht hx
   obtain⟨gm,capm',hmv',cm⟩:=H.out.RN ht hx
   rw[HMV.out] at hmv'
   obtain⟨rfl,_,rfl⟩:om=some ⟨gm,0,none⟩∧D.ts.length=D.ts.length∧capm=capm':=by simpa using hmv'
   have hT:=H.out.h.th k t x ht hx
   have d0:=hT.c0
   have d4:=hT.c4
   have hbd:=H.out.h.bd t (List.mem_of_getElem? ht)
   rw[htv] at c3
   have hwr:IntKind.i64.wrap ((t.h:Int)+1)=(t.h:Int)+1:=IntWalk.i64_in _ (by omega)
   have hlx:=HMX.out
   unfold maxLen at hlx
   have HT:=hid ht
   have HX:=hid hx
   clear hT hbd hmv' ht hx htv
   cases hen:t.ended with
   |true=>
    rw[hen] at d4
    have HA:=hid (Ka (r:=r) hen)
    clear hen
    go_wp2_with fail
    go_round
    case rel=>exact⟨k+1,by omega,by go_num,fun j u hj hu=>by
     by_cases e:j=k
     ·subst e;rw[HT.out] at hu;cases hu;exact HA.out
     ·exact HN.out j u (by omega) hu⟩
    case measure=>simp[intOf];omega
   |false=>
    rw[hen] at d4
    by_cases he:(t.h:Int)+1=r
    ·have E:Hid (a.mp (D.ix r)=.pointer (some ⟨x.mb,0,none⟩)):=hid (by
      rw[show D.ix r=some k from KQ HT.out (at_eq hen he) (fun j u hj hu=>HN.out j u hj hu)]
      simp[WA.mp,HX.out])
     have hb:=eq_b he
     clear he hen
     go_wp2_with fail
     go_ret
     exact⟨by rw[E.out];rfl,rfl⟩
    ·have HA:=hid (QK (t:=t) (r:=r) he)
     have hb:=neq_b he
     clear he hen
     go_wp2_with fail
     go_round
     case rel=>exact⟨k+1,by omega,by go_num,fun j u hj hu=>by
      by_cases e:j=k
      ·subst e;rw[HT.out] at hu;cases hu;exact HA.out
      ·exact HN.out j u (by omega) hu⟩
     case measure=>simp[intOf];omega
  ·have E:Hid (D.ix r=none):=hid (Ct.2 (fun u hu=>by
    obtain⟨j,hj⟩:=List.mem_iff_getElem?.1 hu
    exact HN.out j u (by have:=(List.getElem?_eq_some_iff.1 hj).1;omega) hj))
   go_wp2_with fail
   go_ret
   exact⟨by rw[E.out];rfl,rfl⟩
theorem WAt.found(h:WAt w lo lab a D){r:Int}(hf:D.find r=some t):∃i x,D.ix r=some i∧D.ts[i]? =some t∧a.tas[i]? =some x:=by
 obtain⟨i,hi,ht⟩:=jI hf
 obtain⟨x,hx⟩:=h.h.at ht
 exact⟨i,x,hi,ht,hx⟩
theorem w_of_no(h:WAt w lo lab a D){r:Int}(hf:D.find r=none):
  Calls Tryz.prog 55 #[.pointer (some ⟨a.q,0,none⟩),.int .i64 r] w fun e w'=>e=.returned (.pointer none)∧w=w':=by
 have:=Rq h r
 rw[show D.ix r=none from yG hf] at this
 exact this
theorem w_of_yes(h:WAt w lo lab a D){r:Int}(hi:D.ix r=some i)(hx:a.tas[i]? =some x):
  Calls Tryz.prog 55 #[.pointer (some ⟨a.q,0,none⟩),.int .i64 r] w fun e w'=>e=.returned (.pointer (some ⟨x.mb,0,none⟩))∧w=w':=by
 have:=Rq h r
 rw[hi] at this
 simp only[WA.mp,hx] at this
 exact this
theorem Oy(h:WAt w lo lab a D)(r:Int):
  Calls Tryz.prog 119 #[.pointer (some ⟨a.q,0,none⟩),.int .i64 r] w fun e w'=>e=.returned (.bool (D.black r))∧Drw w w':=by
 cases hf:D.find r with
 |none=>
  have HC:=hid (w_of_no h hf)
  have E:Hid (D.black r=false):=hid (by unfold Wd.black;rw[hf])
  clear h hf
  go_enter Tryz.func119,Tryz.ntmps119
  go_wp2_with fail
  refine HC.out.mono ?_
  rintro e w1 ⟨rfl,rfl⟩
  go_wp2_with fail
  go_quiet (fail)
  go_wp2_with fail
  go_ret
  exact⟨aH E.out.symm,⟨_,rfl⟩⟩
 |some t=>
  obtain⟨i,x,hi,ht,hx⟩:=h.found hf
  have HC:=hid (w_of_yes h hi hx)
  have E:Hid (D.black r=(t.mr.color==D.parity)):=hid (by unfold Wd.black;rw[hf];rfl)
  have c2:=h.c2
  have m1:=h.m1 ht hx
  clear h hf hi ht hx
  go_enter Tryz.func119,Tryz.ntmps119
  go_wp2_with fail
  refine HC.out.mono ?_
  rintro e w1 ⟨rfl,rfl⟩
  go_wp2_with fail
  go_quiet (fail)
  go_wp2_with fail
  go_ret
  exact⟨aH E.out.symm,⟨_,rfl⟩⟩
theorem Qr(h:WAt w lo lab a D)(r:Int):
  Calls Tryz.prog 120 #[.pointer (some ⟨a.q,0,none⟩),.int .i64 r] w fun e w'=>e=.returned (.bool (D.dead r))∧Drw w w':=by
 cases hf:D.find r with
 |none=>
  have HC:=hid (w_of_no h hf)
  have E:Hid (D.dead r=false):=hid (by unfold Wd.dead;rw[hf])
  clear h hf
  go_enter Tryz.func120,Tryz.ntmps120
  go_wp2_with fail
  refine HC.out.mono ?_
  rintro e w1 ⟨rfl,rfl⟩
  go_wp2_with fail
  go_ret
  exact⟨aH E.out.symm,Drw.refl _⟩
 |some t=>
  obtain⟨i,x,hi,ht,hx⟩:=h.found hf
  have HC:=hid (w_of_yes h hi hx)
  have E:Hid (D.dead r=t.mr.dead):=hid (by unfold Wd.dead;rw[hf])
  have m5:=h.m5 ht hx
  clear h hf hi ht hx
  go_enter Tryz.func120,Tryz.ntmps120
  go_wp2_with fail
  refine HC.out.mono ?_
  rintro e w1 ⟨rfl,rfl⟩
  go_wp2_with fail
  go_ret
  exact⟨aH E.out.symm,Drw.refl _⟩
theorem Rs(h:WAt w lo lab a D)(r:Int):
  Calls Tryz.prog 122 #[.pointer (some ⟨a.q,0,none⟩),.int .i64 r] w fun e w'=>e=.returned (.int .i64 (D.dP r))∧Drw w w':=by
 cases hf:D.find r with
 |none=>
  have HC:=hid (w_of_no h hf)
  have E:Hid (D.dP r=0):=hid (by unfold Wd.dP;rw[hf])
  clear h hf
  go_enter Tryz.func122,Tryz.ntmps122
  go_wp2_with fail
  refine HC.out.mono ?_
  rintro e w1 ⟨rfl,rfl⟩
  go_wp2_with fail
  go_quiet (fail)
  go_wp2_with fail
  go_ret
  exact⟨bX E.out.symm,⟨_,rfl⟩⟩
 |some t=>
  obtain⟨i,x,hi,ht,hx⟩:=h.found hf
  have HC:=hid (w_of_yes h hi hx)
  have c2:=h.c2
  have m3:=h.m3 ht hx
  have m4:=h.m4 ht hx
  by_cases he:t.mr.shade=D.parity
  ·have E:Hid (D.dP r=t.mr.shadow):=hid (by unfold Wd.dP;rw[hf];simp[he])
   rw[he] at m3
   clear h hf hi ht hx he
   have hb:(D.parity !=D.parity)=false:=by simp
   go_enter Tryz.func122,Tryz.ntmps122
   go_wp2_with fail
   refine HC.out.mono ?_
   rintro e w1 ⟨rfl,rfl⟩
   go_wp2_with fail
   go_quiet (fail)
   go_wp2_with fail
   go_ret
   exact⟨bX E.out.symm,⟨_,rfl⟩⟩
  ·have E:Hid (D.dP r=0):=hid (by unfold Wd.dP;rw[hf];simp[he])
   have hb:(t.mr.shade !=D.parity)=true:=by rw[bne_iff_ne];exact he
   clear h hf hi ht hx he
   go_enter Tryz.func122,Tryz.ntmps122
   go_wp2_with fail
   refine HC.out.mono ?_
   rintro e w1 ⟨rfl,rfl⟩
   go_wp2_with fail
   go_quiet (fail)
   go_wp2_with fail
   go_ret
   exact⟨bX E.out.symm,⟨_,rfl⟩⟩
def WRep(w:World)(lo q:Nat)(D:Wd):Prop:=∃lab a,WA.q a=q∧WAt w lo lab a D
def WEnd(w:World)(lo q:Nat)(D':Wd)(v:Value)(e:Ending)(w':World):Prop:=e=.returned v∧WRep w' lo q D'∧Touch (fun b=>lo≤b) w w'
theorem Nt{r:Int}(f:Mrk→Mrk)(hi:D.ix r=some i)(ht:D.ts[i]? =some t):D.mark r f={D with ts:=D.ts.set i {t with mr:=f t.mr}}:=by
 unfold Wd.mark Wd.upd
 rw[Bp hi ht]
theorem WAt.setM(h:WAt w lo lab a D){r:Int}{f:Mrk→Mrk}(hi:D.ix r=some i)(ht:D.ts[i]? =some t)(hx:a.tas[i]? =some x){k:Nat}{u:Value}(e:t.mr.cells.setIfInBounds k u=(f t.mr).cells):
  WAt (w.setCell ⟨x.mb,k,none⟩ u) lo lab a (D.mark r f):=by
 rw[Nt f hi ht]
 exact h.Oc ht hx e
theorem OV(h:WAt w lo lab a D)(ht:D.ts[i]? =some t)(hx:a.tas[i]? =some x)(k:Nat)(u:Value):Touch (fun b=>lo≤b) w (w.setCell ⟨x.mb,k,none⟩ u):=
 (Touch.refl _ _).setCell (fun _=>(h.mb i t x ht hx).2.1) u
end
section
variable {w w':World} {lo:Nat} {lab:Nat→Nat} {a:WA} {D:Wd} {i:Nat} {t:Th} {x:TA} {n v:Nat} {cl:List Nat} {ts:List Th}
theorem qY{α:Type}{l:List α}{i:Nat}{y:α}(h:l[i]? =some y):l.set i y=l:=by
 apply List.ext_getElem?
 intro j
 by_cases e:i=j
 ·subst e
  rw[List.getElem?_set_self ((List.getElem?_eq_some_iff.1 h).1),h]
 ·rw[List.getElem?_set_ne e]
theorem WAt.ne(h:WAt w lo lab a D)(ht:D.ts[i]? =some t)(hx:a.tas[i]? =some x):¬x.mb=a.q∧¬a.q=x.mb:=by
 have h1:=(h.mb i t x ht hx).2.2
 have h2:=h.lq.2
 constructor<;>(intro e;have:=congrArg lab e;omega)
end
section
variable {w w':World} {lo:Nat} {lab:Nat→Nat} {a:WA} {D:Wd} {i:Nat} {t:Th} {x:TA} {n v:Nat} {cl:List Nat} {ts:List Th}
theorem touch_no{r:Int}(h:D.toucht r=false):D.touch r=D:=by unfold Wd.touch;rw[h];rfl
theorem WRep.ringNew{w1:World}(h:WAt w lo lab a D)(hb:Below w.heap.size w w1){ra:Option Addr}{rc:Nat}{l:List Nat}(hr:Row w1 .i64 ra (ints l))(hf:∀b off,ra=some ⟨b,off,none⟩→w.heap.size≤b):
  WRep (w1.setCell ⟨a.q,11,none⟩ (.slice ra l.length rc)) lo a.q {D with ring:=l}:=by
 have hlo:lo≤w.heap.size:=Nat.le_of_lt (Nat.lt_of_le_of_lt h.lq.1 h.wb.lt)
 obtain⟨lab',h1,h2⟩:=PE (lab:=lab) hr hf hlo 5
 exact⟨lab',{a with ra:=ra,rc:=rc},rfl,((h.re h1).later hb).Od hr h2⟩
theorem RB(h:WAt w lo lab a D)(r:Int)(hl:D.ring.length≤8000):
  Calls Tryz.prog 102 #[.pointer (some ⟨a.q,0,none⟩),.int .i64 r] w (WEnd w lo a.q (D.touch r) (.bool (D.toucht r))):=by
 cases hf:D.find r with
 |none=>
  have E:Hid (D.toucht r=false):=hid (by unfold Wd.toucht;rw[hf])
  have HC:=hid (w_of_no h hf)
  have H:=hid h
  clear h hf hl
  go_enter Tryz.func102,Tryz.ntmps102
  go_wp2_with fail
  refine HC.out.mono ?_
  rintro e w1 ⟨rfl,rfl⟩
  go_wp2_with fail
  go_quiet (fail)
  go_wp2_with fail
  go_ret
  exact⟨by rw[E.out];rfl,by rw[touch_no E.out];exact⟨lab,a,rfl,H.out.drw ⟨_,rfl⟩⟩,Touch.of_below (Drw.new ⟨_,rfl⟩)⟩
 |some t=>
  obtain⟨i,x,hi,ht,hx⟩:=h.found hf
  have ET:D.toucht r=(!decide (D.phase=0)&& !t.mr.dead&& !decide (t.mr.color=D.parity)):=by unfold Wd.toucht;rw[hf]
  obtain⟨_,_,hrt⟩:=find_at hf
  have hbd:=h.h.bd t (List.mem_of_getElem? ht)
  have HC:=hid (w_of_yes h hi hx)
  have c2:=h.c2
  have c3:=h.c3
  have m1:=h.m1 ht hx
  have m5:=h.m5 ht hx
  by_cases hp:D.phase=0
  ·have E:Hid (D.toucht r=false):=hid (by rw[ET];simp[hp])
   have H:=hid h
   rw[hp] at c3
   clear h hf hl ET hi ht hx hrt hbd hp
   go_enter Tryz.func102,Tryz.ntmps102
   go_wp2_with fail
   refine HC.out.mono ?_
   rintro e w1 ⟨rfl,rfl⟩
   go_wp2_with fail
   go_quiet (fail)
   go_wp2_with fail
   go_ret
   exact⟨by rw[E.out];rfl,by rw[touch_no E.out];exact⟨lab,a,rfl,H.out.drw ⟨_,rfl⟩⟩,Touch.of_below (Drw.new ⟨_,rfl⟩)⟩
  ·have hpb:=neq_b hp
   cases hd:t.mr.dead with
   |true=>
    have E:Hid (D.toucht r=false):=hid (by rw[ET];simp[hd])
    have H:=hid h
    rw[hd] at m5
    clear h hf hl ET hi ht hx hrt hbd hp hd
    go_enter Tryz.func102,Tryz.ntmps102
    go_wp2_with fail
    refine HC.out.mono ?_
    rintro e w1 ⟨rfl,rfl⟩
    go_wp2_with fail
    go_quiet (fail)
    go_wp2_with fail
    go_ret
    exact⟨by rw[E.out];rfl,by rw[touch_no E.out];exact⟨lab,a,rfl,H.out.drw ⟨_,rfl⟩⟩,Touch.of_below (Drw.new ⟨_,rfl⟩)⟩
   |false=>
    rw[hd] at m5
    by_cases hc:t.mr.color=D.parity
    ·have E:Hid (D.toucht r=false):=hid (by rw[ET];simp[hc])
     have H:=hid h
     rw[hc] at m1
     clear h hf hl ET hi ht hx hrt hbd hp hd hc
     go_enter Tryz.func102,Tryz.ntmps102
     go_wp2_with fail
     refine HC.out.mono ?_
     rintro e w1 ⟨rfl,rfl⟩
     go_wp2_with fail
     go_quiet (fail)
     go_wp2_with fail
     go_ret
     exact⟨by rw[E.out];rfl,by rw[touch_no E.out];exact⟨lab,a,rfl,H.out.drw ⟨_,rfl⟩⟩,Touch.of_below (Drw.new ⟨_,rfl⟩)⟩
    ·have E:Hid (D.toucht r=true):=hid (by rw[ET];simp[hd,hc,hp])
     have hcb:=neq_b hc
     have hwr:IntKind.i64.wrap (r-1)=(t.h:Int):=by rw[show r-1=(t.h:Int) by omega];exact IntWalk.i64_in _ (by omega)
     have HRT:Hid (r-1=(t.h:Int)):=hid (by omega)
     have HL:=hid hl
     have H:=hid h
     have HI:=hid hi
     have HT:=hid ht
     have HX:=hid hx
     obtain⟨n1,n2⟩:=h.ne ht hx
     have fz1:=(h.mb i t x ht hx).1.free 1
     have c11:=h.c11
     clear h hf hl ET hi ht hx hrt hbd hp hd hc
     go_enter Tryz.func102,Tryz.ntmps102
     go_wp2_with fail
     refine HC.out.mono ?_
     rintro e w1 ⟨rfl,rfl⟩
     go_wp2_with fail
     go_quiet (fail)
     have HQ:=hid (fun m=>((H.out.drw (w':=w.drewN m) ⟨m,rfl⟩).setM (f:=fun k=>{k with color:=D.parity}) HI.out HT.out HX.out (k:=1) (u:=.int .i64 D.parity) rfl))
     have HTQ:=hid (fun m=>(Touch.of_below (X:=fun b=>lo≤b) (Drw.new (w:=w) (w':=w.drewN m) ⟨m,rfl⟩)).trans (OV (H.out.drw (w':=w.drewN m) ⟨m,rfl⟩) HT.out HX.out 1 (.int .i64 D.parity)))
     go_wp2_with fail
     generalize hw1:World.setCell _ _ _=w1 at*
     have H1:Hid (WAt w1 lo lab a (D.paint r)):=hid (hw1▸HQ.out _)
     have T1:Hid (Touch (fun b=>lo≤b) w w1):=hid (hw1▸HTQ.out _)
     clear hw1 HQ HTQ c2 c3 m1 m5 fz1 c11
     have c11:w1.cell? ⟨a.q,11,none⟩=some (.slice a.ra D.ring.length a.rc):=H1.out.c11
     have HH:=hid (rHas a.ra a.rc D.ring (t.h:Int) w1 H1.out.rg (by have:=HL.out;omega))
     refine HH.out.mono ?_
     rintro e w2 ⟨rfl,rfl⟩
     cases hh:hasB (ints D.ring) (t.h:Int) with
     |true=>
      have HE:Hid (D.touch r=D.paint r):=hid (by
       unfold Wd.touch
       rw[E.out,if_pos rfl,HRT.out,hh,if_pos rfl]
       rfl)
      clear hh HH
      go_wp2_with fail
      go_ret
      exact⟨by rw[E.out];rfl,by rw[HE.out];exact⟨lab,a,rfl,H1.out⟩,T1.out⟩
     |false=>
      have HE:Hid (D.touch r={D.paint r with ring:=D.ring++[t.h]}):=hid (by
       unfold Wd.touch
       rw[E.out,if_pos rfl,HRT.out,hh,if_neg (by decide)]
       simp)
      have HB:=hid (rBehind a.ra a.rc D.ring t.h w1 H1.out.rg (by have:=HL.out;omega))
      clear hh HH
      go_wp2_with fail
      refine HB.out.mono ?_
      rintro e w2 ⟨ra,rc,rfl,hr,hf,hb⟩
      have h0:=WRep.ringNew H1.out hb (rc:=rc) hr hf
      rw[show(D.ring++[t.h]).length=D.ring.length+1 by simp] at h0
      have HW:=hid h0
      clear h0
      have HTW:=hid ((T1.out.trans (Touch.of_below hb)).setCell (p:=⟨a.q,11,none⟩) (fun _=>H1.out.lq.1) (.slice ra (D.ring.length+1) rc))
      have c11:w2.cell? ⟨a.q,11,none⟩=some (.slice a.ra D.ring.length a.rc):=(H1.out.later hb).c11
      have fz:=((H1.out.later hb).wb).free 11
      clear hr hf hb
      go_wp2_with fail
      go_ret
      exact⟨by rw[E.out];rfl,by rw[HE.out];exact HW.out,HTW.out⟩
theorem Jw(h:WAt w lo lab a D)(r k:Int):
  Calls Tryz.prog 124 #[.pointer (some ⟨a.q,0,none⟩),.int .i64 r,.int .i64 k] w fun e w'=>e=.returned (.bool (D.counted r k))∧Drw w w':=by
 cases hf:D.find r with
 |none=>
  have E:Hid (D.counted r k=false):=hid (by unfold Wd.counted;rw[hf])
  have HC:=hid (w_of_no h hf)
  clear h hf
  go_enter Tryz.func124,Tryz.ntmps124
  go_wp2_with fail
  refine HC.out.mono ?_
  rintro e w1 ⟨rfl,rfl⟩
  go_wp2_with fail
  go_ret
  exact⟨aH E.out.symm,Drw.refl _⟩
 |some t=>
  obtain⟨i,x,hi,ht,hx⟩:=h.found hf
  have ET:D.counted r k=(decide (0≤k)&&(decide (t.mr.count=D.parity)||(decide (D.phase=1)&&decide (D.cursor=r-1)&&decide (k<D.field)))):=by unfold Wd.counted;rw[hf]
  obtain⟨_,_,hrt⟩:=find_at hf
  have hbd:=h.h.bd t (List.mem_of_getElem? ht)
  have HC:=hid (w_of_yes h hi hx)
  by_cases hk:k<0
  ·have E:Hid (D.counted r k=false):=hid (by rw[ET];simp;intro g;omega)
   clear h hf ET hi ht hx hrt hbd
   go_enter Tryz.func124,Tryz.ntmps124
   go_wp2_with fail
   refine HC.out.mono ?_
   rintro e w1 ⟨rfl,rfl⟩
   go_wp2_with fail
   go_ret
   exact⟨aH E.out.symm,Drw.refl _⟩
  ·have c2:=h.c2
   have c3:=h.c3
   have c4:=h.c4
   have c5:=h.c5
   have m2:=h.m2 ht hx
   have hwr:IntKind.i64.wrap (r-1)=r-1:=IntWalk.i64_in _ (by omega)
   have hk0:decide (0≤k)=true:=decide_eq_true (by omega)
   by_cases hc:t.mr.count=D.parity
   ·have E:Hid (D.counted r k=true):=hid (by rw[ET,hk0];simp[hc])
    rw[hc] at m2
    clear h hf ET hi ht hx hrt hbd hc hk0
    go_enter Tryz.func124,Tryz.ntmps124
    go_wp2_with fail
    refine HC.out.mono ?_
    rintro e w1 ⟨rfl,rfl⟩
    go_wp2_with fail
    go_quiet (fail)
    go_wp2_with fail
    go_ret
    exact⟨aH E.out.symm,⟨_,rfl⟩⟩
   ·have hcb:=neq_b hc
    by_cases hp:D.phase=1
    ·rw[hp] at c3
     by_cases hq:D.cursor=r-1
     ·have hqb:=eq_b hq
      have E:Hid (D.counted r k=decide (k<D.field)):=hid (by rw[ET,hk0];simp[hc,hp,hq])
      rw[hq] at c4
      clear h hf ET hi ht hx hrt hbd hc hp hq hk0
      go_enter Tryz.func124,Tryz.ntmps124
      go_wp2_with fail
      refine HC.out.mono ?_
      rintro e w1 ⟨rfl,rfl⟩
      go_wp2_with fail
      go_quiet (fail)
      go_wp2_with fail
      go_ret
      exact⟨aH E.out.symm,⟨_,rfl⟩⟩
     ·have hqb:=neq_b hq
      have E:Hid (D.counted r k=false):=hid (by rw[ET,hk0];simp[hc,hp,hq])
      clear h hf ET hi ht hx hrt hbd hc hp hq hk0
      go_enter Tryz.func124,Tryz.ntmps124
      go_wp2_with fail
      refine HC.out.mono ?_
      rintro e w1 ⟨rfl,rfl⟩
      go_wp2_with fail
      go_quiet (fail)
      go_wp2_with fail
      go_ret
      exact⟨aH E.out.symm,⟨_,rfl⟩⟩
    ·have hpb:=neq_b hp
     have E:Hid (D.counted r k=false):=hid (by rw[ET,hk0];simp[hc,hp])
     clear h hf ET hi ht hx hrt hbd hc hp hk0
     go_enter Tryz.func124,Tryz.ntmps124
     go_wp2_with fail
     refine HC.out.mono ?_
     rintro e w1 ⟨rfl,rfl⟩
     go_wp2_with fail
     go_quiet (fail)
     go_wp2_with fail
     go_ret
     exact⟨aH E.out.symm,⟨_,rfl⟩⟩
end
end Go.Proofs.YtjmifnljckmimaaGreat.Pk
