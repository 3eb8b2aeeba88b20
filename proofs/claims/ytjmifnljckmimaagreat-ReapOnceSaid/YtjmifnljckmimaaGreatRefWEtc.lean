/-
  Texts laid together: RefW, RefW2, RefW3.
-/
import Derived.Test.YtjmifnljckmimaaGreatPoolDoEtc
import Derived.Test.YtjmifnljckmimaaGreatRefChainEtc
import Derived.OwnWalk
import Derived.BigRegion
import Derived.Test.YtjmifnljckmimaaGreatChainsEtc
namespace Go.Proofs.YtjmifnljckmimaaGreat.Pk
open Lib (hid)
open Go.RowKit
set_option linter.unusedVariables false
set_option linter.unusedSimpArgs false
set_option maxRecDepth 100000
section
variable {w w':World} {lo:Nat} {lab:Nat→Nat} {a:WA} {D:Wd} {i:Nat} {t:Th} {x:TA} {n v:Nat} {cl:List Nat} {ts:List Th}
theorem Gv{e:TypeId}{u:Value}{m:Nat}{xs:List Value}(h:w.ownsRow lo e 1 u m xs){k:Nat}{y:Value}(hy:xs[k]? =some y):∃g cap,u=.slice (some ⟨g,0,none⟩) m cap∧w.cell? ⟨g,k,none⟩=some y∧k<m∧m≤maxLen:=by
 have hk:=(List.getElem?_eq_some_iff.1 hy).1
 have hl:=h.1
 rcases h.2 with⟨_,h0⟩|⟨g,cap,cur,rfl,hb,hg,hc,hm,_,ht⟩
 ·omega
 ·refine⟨g,cap,rfl,?_,by omega,by omega⟩
  have hB:Blk w g cur e:=hg
  refine hB.cell k ?_
  rw[←ht,List.getElem?_take,if_pos (by omega)] at hy
  rw[←Array.getElem?_toList]
  exact hy
theorem sj{e:TypeId}{u:Value}{m:Nat}{xs:List Value}(h:w.ownsRow lo e 1 u m xs):(∃o cap,u=.slice o m cap)∧m≤maxLen:=by
 rcases h.2 with⟨rfl,h0⟩|⟨g,cap,cur,rfl,hb,hg,hc,hm,_,ht⟩
 ·subst h0;exact⟨⟨_,_,rfl⟩,Nat.zero_le _⟩
 ·exact⟨⟨_,_,rfl⟩,by omega⟩
theorem qf.at(h:qf w lo lab a n v cl ts)(ht:ts[i]? =some t):∃x,a.tas[i]? =some x:=by
 have:=(List.getElem?_eq_some_iff.1 ht).1
 exact⟨a.tas[i]'(by rw[h.len];exact this),by simp⟩
theorem qf.Qh(h:qf w lo lab a n v cl ts)(ht:ts[i]? =some t)(hx:a.tas[i]? =some x):∃g cap,a.tv=.slice (some ⟨g,0,none⟩) ts.length cap∧w.cell? ⟨g,i,none⟩=some (.pointer (some ⟨x.tb,0,none⟩)):=by
 obtain⟨g,cap,h1,h2,_⟩:=Gv h.tv (k:=i) (y:=x.QZ) (by rw[List.getElem?_map,hx];rfl)
 exact⟨g,cap,h1,h2⟩
theorem WAt.Rv(h:WAt w lo lab a D)(ht:D.ts[i]? =some t)(hx:a.tas[i]? =some x):∃g cap,a.mv=.slice (some ⟨g,0,none⟩) D.ts.length cap∧w.cell? ⟨g,i,none⟩=some (.pointer (some ⟨x.mb,0,none⟩)):=by
 obtain⟨g,cap,h1,h2,_⟩:=Gv h.mv (k:=i) (y:=x.Pm) (by rw[List.getElem?_map,hx];rfl)
 exact⟨g,cap,h1,h2⟩
def WA.mp(a:WA):Option Nat→Value
 |none=>.pointer none
 |some i=>match a.tas[i]? with|some x=>.pointer (some ⟨x.mb,0,none⟩)|none=>.pointer none
def WA.tp(a:WA):Option Nat→Value
 |none=>.pointer none
 |some i=>match a.tas[i]? with|some x=>.pointer (some ⟨x.tb,0,none⟩)|none=>.pointer none
theorem Bu{r:Int}(h:t.ended=true):t.at r=false:=by unfold Th.at;simp[h]
theorem Oj{r:Int}(h:¬(t.h:Int)+1=r):t.at r=false:=by unfold Th.at;simp[h]
theorem at_eq{r:Int}(h:t.ended=false)(e:(t.h:Int)+1=r):t.at r=true:=by unfold Th.at;simp[h,e]
theorem Rc(h:WAt w lo lab a D)(r:Int):
  Calls Tryz.prog 55 #[.pointer (some ⟨a.q,0,none⟩),.int .i64 r] w fun e w'=>e=.returned (a.mp (D.ix r))∧w=w':=by
 have c0:=h.c0
 have c1:=h.c1
 have c3:=h.h.c3
 obtain⟨⟨om,capm,hmv⟩,hmx⟩:=sj h.mv
 have HMX:Hid (D.ts.length≤maxLen):=hid hmx
 have HMV:=hid hmv
 rw[hmv] at c1
 have H:=hid h
 clear h hmx hmv
 go_enter Tryz.func55,Tryz.ntmps55
 go_wp2_with fail
 go_loop [5] (fun i=>∃k:Nat,k≤D.ts.length∧i=.int .i64 (k:Int)∧∀(j:Nat) u,j<k→D.ts[j]? =some u→u.at r=false) (fun i=>D.ts.length-(intOf i).toNat)
 case atStart=>exact⟨0,Nat.zero_le _,rfl,fun j u h=>absurd h (by omega)⟩
 case round=>
  obtain⟨k,hk,rfl,hno⟩:=hrel
  have HN:=hid hno
  clear hno
  by_cases hlt:k<D.ts.length
  ·obtain⟨t,ht⟩:∃t,D.ts[k]? =some t:=⟨_,List.getElem?_eq_getElem hlt⟩
   obtain⟨x,hx⟩:=H.out.h.at ht
   obtain⟨g,cap,htv,ct⟩:=H.out.h.Qh ht hx
   obtain⟨gm,capm',hmv',cm⟩:=H.out.Rv ht hx
   rw[HMV.out] at hmv'
   obtain⟨rfl,_,rfl⟩:om=some ⟨gm,0,none⟩∧D.ts.length=D.ts.length∧capm=capm':=by simpa using hmv'
   have hT:=H.out.h.th k t x ht hx
   have d0:=hT.c0
   have d4:=hT.c4
   have hbd:=H.out.h.bd t (List.mem_of_getElem? ht)
   rw[htv] at c3
   have hwr:IntKind.i64.wrap ((t.h:Int)+1)=(t.h:Int)+1:=IntWalk.i64_in _ (by omega)
   have hlx:=HMX.out
   unfold maxLen at hlx
   have HT:=hid ht
   have HX:=hid hx
   clear hT hbd hmv' ht hx htv
   cases hen:t.ended with
   |true=>
    rw[hen] at d4
    have HA:=hid (Bu (r:=r) hen)
    clear hen
    go_wp2_with fail
    go_round
    case rel=>exact⟨k+1,by omega,by go_num,fun j u hj hu=>by
     by_cases e:j=k
     ·subst e;rw[HT.out] at hu;cases hu;exact HA.out
     ·exact HN.out j u (by omega) hu⟩
    case measure=>simp[intOf];omega
   |false=>
    rw[hen] at d4
    by_cases he:(t.h:Int)+1=r
    ·have E:Hid (a.mp (D.ix r)=.pointer (some ⟨x.mb,0,none⟩)):=hid (by
      rw[show D.ix r=some k from zQ HT.out (at_eq hen he) (fun j u hj hu=>HN.out j u hj hu)]
      simp[WA.mp,HX.out])
     have hb:=eq_b he
     clear he hen
     go_wp2_with fail
     go_ret
     exact⟨by rw[E.out];rfl,rfl⟩
    ·have HA:=hid (Oj (t:=t) (r:=r) he)
     have hb:=neq_b he
     clear he hen
     go_wp2_with fail
     go_round
     case rel=>exact⟨k+1,by omega,by go_num,fun j u hj hu=>by
      by_cases e:j=k
      ·subst e;rw[HT.out] at hu;cases hu;exact HA.out
      ·exact HN.out j u (by omega) hu⟩
     case measure=>simp[intOf];omega
  ·have E:Hid (D.ix r=none):=hid (vC.2 (fun u hu=>by
    obtain⟨j,hj⟩:=List.mem_iff_getElem?.1 hu
    exact HN.out j u (by have:=(List.getElem?_eq_some_iff.1 hj).1;omega) hj))
   go_wp2_with fail
   go_ret
   exact⟨by rw[E.out];rfl,rfl⟩
theorem WAt.found(h:WAt w lo lab a D){r:Int}(hf:D.find r=some t):∃i x,D.ix r=some i∧D.ts[i]? =some t∧a.tas[i]? =some x:=by
 obtain⟨i,hi,ht⟩:=jJ hf
 obtain⟨x,hx⟩:=h.h.at ht
 exact⟨i,x,hi,ht,hx⟩
theorem w_of_no(h:WAt w lo lab a D){r:Int}(hf:D.find r=none):
  Calls Tryz.prog 55 #[.pointer (some ⟨a.q,0,none⟩),.int .i64 r] w fun e w'=>e=.returned (.pointer none)∧w=w':=by
 have:=Rc h r
 rw[show D.ix r=none from yA hf] at this
 exact this
theorem w_of_yes(h:WAt w lo lab a D){r:Int}(hi:D.ix r=some i)(hx:a.tas[i]? =some x):
  Calls Tryz.prog 55 #[.pointer (some ⟨a.q,0,none⟩),.int .i64 r] w fun e w'=>e=.returned (.pointer (some ⟨x.mb,0,none⟩))∧w=w':=by
 have:=Rc h r
 rw[hi] at this
 simp only[WA.mp,hx] at this
 exact this
theorem Oc(h:WAt w lo lab a D)(r:Int):
  Calls Tryz.prog 119 #[.pointer (some ⟨a.q,0,none⟩),.int .i64 r] w fun e w'=>e=.returned (.bool (D.fG r))∧Drw w w':=by
 cases hf:D.find r with
 |none=>
  have HC:=hid (w_of_no h hf)
  have E:Hid (D.fG r=false):=hid (by unfold Wd.fG;rw[hf])
  clear h hf
  go_enter Tryz.func119,Tryz.ntmps119
  go_wp2_with fail
  refine HC.out.mono ?_
  rintro e w1 ⟨rfl,rfl⟩
  go_wp2_with fail
  go_quiet (fail)
  go_wp2_with fail
  go_ret
  exact⟨aH E.out.symm,⟨_,rfl⟩⟩
 |some t=>
  obtain⟨i,x,hi,ht,hx⟩:=h.found hf
  have HC:=hid (w_of_yes h hi hx)
  have E:Hid (D.fG r=(t.mr.color==D.parity)):=hid (by unfold Wd.fG;rw[hf];rfl)
  have c2:=h.c2
  have m1:=h.m1 ht hx
  clear h hf hi ht hx
  go_enter Tryz.func119,Tryz.ntmps119
  go_wp2_with fail
  refine HC.out.mono ?_
  rintro e w1 ⟨rfl,rfl⟩
  go_wp2_with fail
  go_quiet (fail)
  go_wp2_with fail
  go_ret
  exact⟨aH E.out.symm,⟨_,rfl⟩⟩
theorem Qi(h:WAt w lo lab a D)(r:Int):
  Calls Tryz.prog 120 #[.pointer (some ⟨a.q,0,none⟩),.int .i64 r] w fun e w'=>e=.returned (.bool (D.dead r))∧Drw w w':=by
 cases hf:D.find r with
 |none=>
  have HC:=hid (w_of_no h hf)
  have E:Hid (D.dead r=false):=hid (by unfold Wd.dead;rw[hf])
  clear h hf
  go_enter Tryz.func120,Tryz.ntmps120
  go_wp2_with fail
  refine HC.out.mono ?_
  rintro e w1 ⟨rfl,rfl⟩
  go_wp2_with fail
  go_ret
  exact⟨aH E.out.symm,Drw.refl _⟩
 |some t=>
  obtain⟨i,x,hi,ht,hx⟩:=h.found hf
  have HC:=hid (w_of_yes h hi hx)
  have E:Hid (D.dead r=t.mr.dead):=hid (by unfold Wd.dead;rw[hf])
  have m5:=h.m5 ht hx
  clear h hf hi ht hx
  go_enter Tryz.func120,Tryz.ntmps120
  go_wp2_with fail
  refine HC.out.mono ?_
  rintro e w1 ⟨rfl,rfl⟩
  go_wp2_with fail
  go_ret
  exact⟨aH E.out.symm,Drw.refl _⟩
theorem Re(h:WAt w lo lab a D)(r:Int):
  Calls Tryz.prog 122 #[.pointer (some ⟨a.q,0,none⟩),.int .i64 r] w fun e w'=>e=.returned (.int .i64 (D.shd r))∧Drw w w':=by
 cases hf:D.find r with
 |none=>
  have HC:=hid (w_of_no h hf)
  have E:Hid (D.shd r=0):=hid (by unfold Wd.shd;rw[hf])
  clear h hf
  go_enter Tryz.func122,Tryz.ntmps122
  go_wp2_with fail
  refine HC.out.mono ?_
  rintro e w1 ⟨rfl,rfl⟩
  go_wp2_with fail
  go_quiet (fail)
  go_wp2_with fail
  go_ret
  exact⟨bT E.out.symm,⟨_,rfl⟩⟩
 |some t=>
  obtain⟨i,x,hi,ht,hx⟩:=h.found hf
  have HC:=hid (w_of_yes h hi hx)
  have c2:=h.c2
  have m3:=h.m3 ht hx
  have m4:=h.m4 ht hx
  by_cases he:t.mr.shade=D.parity
  ·have E:Hid (D.shd r=t.mr.shadow):=hid (by unfold Wd.shd;rw[hf];simp[he])
   rw[he] at m3
   clear h hf hi ht hx he
   have hb:(D.parity !=D.parity)=false:=by simp
   go_enter Tryz.func122,Tryz.ntmps122
   go_wp2_with fail
   refine HC.out.mono ?_
   rintro e w1 ⟨rfl,rfl⟩
   go_wp2_with fail
   go_quiet (fail)
   go_wp2_with fail
   go_ret
   exact⟨bT E.out.symm,⟨_,rfl⟩⟩
  ·have E:Hid (D.shd r=0):=hid (by unfold Wd.shd;rw[hf];simp[he])
   have hb:(t.mr.shade !=D.parity)=true:=by rw[bne_iff_ne];exact he
   clear h hf hi ht hx he
   go_enter Tryz.func122,Tryz.ntmps122
   go_wp2_with fail
   refine HC.out.mono ?_
   rintro e w1 ⟨rfl,rfl⟩
   go_wp2_with fail
   go_quiet (fail)
   go_wp2_with fail
   go_ret
   exact⟨bT E.out.symm,⟨_,rfl⟩⟩
def WRep(w:World)(lo q:Nat)(D:Wd):Prop:=∃lab a,WA.q a=q∧WAt w lo lab a D
def WEnd(w:World)(lo q:Nat)(D':Wd)(v:Value)(e:Ending)(w':World):Prop:=e=.returned v∧WRep w' lo q D'∧Touch (fun b=>lo≤b) w w'
theorem Gq{r:Int}(f:Mrk→Mrk)(hi:D.ix r=some i)(ht:D.ts[i]? =some t):D.mark r f={D with ts:=D.ts.set i {t with mr:=f t.mr}}:=by
 unfold Wd.mark Wd.upd
 rw[AV hi ht]
theorem WAt.setM(h:WAt w lo lab a D){r:Int}{f:Mrk→Mrk}(hi:D.ix r=some i)(ht:D.ts[i]? =some t)(hx:a.tas[i]? =some x){k:Nat}{u:Value}(e:t.mr.cells.setIfInBounds k u=(f t.mr).cells):
  WAt (w.setCell ⟨x.mb,k,none⟩ u) lo lab a (D.mark r f):=by
 rw[Gq f hi ht]
 exact h.NL ht hx e
theorem Jz(h:WAt w lo lab a D)(ht:D.ts[i]? =some t)(hx:a.tas[i]? =some x)(k:Nat)(u:Value):Touch (fun b=>lo≤b) w (w.setCell ⟨x.mb,k,none⟩ u):=
 (Touch.refl _ _).setCell (fun _=>(h.mb i t x ht hx).2.1) u
end
section
variable {w w':World} {lo:Nat} {lab:Nat→Nat} {a:WA} {D:Wd} {i:Nat} {t:Th} {x:TA} {n v:Nat} {cl:List Nat} {ts:List Th}
theorem qQ{α:Type}{l:List α}{i:Nat}{y:α}(h:l[i]? =some y):l.set i y=l:=by
 apply List.ext_getElem?
 intro j
 by_cases e:i=j
 ·subst e
  rw[List.getElem?_set_self ((List.getElem?_eq_some_iff.1 h).1),h]
 ·rw[List.getElem?_set_ne e]
theorem WAt.drew(h:WAt w lo lab a D):WAt w.drew lo lab a D:=h.touch (X:=fun _=>False) (Touch.refl _ _).drew (fun _ _ _=>id)
theorem WAt.ne(h:WAt w lo lab a D)(ht:D.ts[i]? =some t)(hx:a.tas[i]? =some x):¬x.mb=a.q∧¬a.q=x.mb:=by
 have h1:=(h.mb i t x ht hx).2.2
 have h2:=h.lq.2
 constructor<;>(intro e;have:=congrArg lab e;omega)
end
section
variable {w w':World} {lo:Nat} {lab:Nat→Nat} {a:WA} {D:Wd} {i:Nat} {t:Th} {x:TA} {n v:Nat} {cl:List Nat} {ts:List Th}
theorem WRep.ringNew{w1:World}(h:WAt w lo lab a D)(hb:Below w.heap.size w w1){ra:Option Addr}{rc:Nat}{l:List Nat}(hr:Row w1 .i64 ra (ints l))(hf:∀b off,ra=some ⟨b,off,none⟩→w.heap.size≤b):
  WRep (w1.setCell ⟨a.q,11,none⟩ (.slice ra l.length rc)) lo a.q {D with ring:=l}:=by
 have hlo:lo≤w.heap.size:=Nat.le_of_lt (Nat.lt_of_le_of_lt h.lq.1 h.wb.lt)
 obtain⟨lab',h1,h2⟩:=vM (lab:=lab) hr hf hlo 5
 exact⟨lab',{a with ra:=ra,rc:=rc},rfl,((h.re h1).later hb).GD hr h2⟩
theorem WRep.graveNew{w1:World}(h:WAt w lo lab a D)(hb:Below w.heap.size w w1){ga:Option Addr}{gc:Nat}{l:List Nat}(hr:Row w1 .i64 ga (ints l))(hf:∀b off,ga=some ⟨b,off,none⟩→w.heap.size≤b):
  WRep (w1.setCell ⟨a.q,12,none⟩ (.slice ga l.length gc)) lo a.q {D with grave:=l}:=by
 have hlo:lo≤w.heap.size:=Nat.le_of_lt (Nat.lt_of_le_of_lt h.lq.1 h.wb.lt)
 obtain⟨lab',h1,h2⟩:=vM (lab:=lab) hr hf hlo 6
 exact⟨lab',{a with ga:=ga,gc:=gc},rfl,((h.re h1).later hb).Dj hr h2⟩
theorem Ji(h:WAt w lo lab a D)(r k:Int):
  Calls Tryz.prog 124 #[.pointer (some ⟨a.q,0,none⟩),.int .i64 r,.int .i64 k] w fun e w'=>e=.returned (.bool (D.counted r k))∧Drw w w':=by
 cases hf:D.find r with
 |none=>
  have E:Hid (D.counted r k=false):=hid (by unfold Wd.counted;rw[hf])
  have HC:=hid (w_of_no h hf)
  clear h hf
  go_enter Tryz.func124,Tryz.ntmps124
  go_wp2_with fail
  refine HC.out.mono ?_
  rintro e w1 ⟨rfl,rfl⟩
  go_wp2_with fail
  go_ret
  exact⟨aH E.out.symm,Drw.refl _⟩
 |some t=>
  obtain⟨i,x,hi,ht,hx⟩:=h.found hf
  have ET:D.counted r k=(decide (0≤k)&&(decide (t.mr.count=D.parity)||(decide (D.phase=1)&&decide (D.cursor=r-1)&&decide (k<D.field)))):=by unfold Wd.counted;rw[hf]
  obtain⟨_,_,hrt⟩:=find_at hf
  have hbd:=h.h.bd t (List.mem_of_getElem? ht)
  have HC:=hid (w_of_yes h hi hx)
  by_cases hk:k<0
  ·have E:Hid (D.counted r k=false):=hid (by rw[ET];simp;intro g;omega)
   clear h hf ET hi ht hx hrt hbd
   go_enter Tryz.func124,Tryz.ntmps124
   go_wp2_with fail
   refine HC.out.mono ?_
   rintro e w1 ⟨rfl,rfl⟩
   go_wp2_with fail
   go_ret
   exact⟨aH E.out.symm,Drw.refl _⟩
  ·have c2:=h.c2
   have c3:=h.c3
   have c4:=h.c4
   have c5:=h.c5
   have m2:=h.m2 ht hx
   have hwr:IntKind.i64.wrap (r-1)=r-1:=IntWalk.i64_in _ (by omega)
   have hk0:decide (0≤k)=true:=decide_eq_true (by omega)
   by_cases hc:t.mr.count=D.parity
   ·have E:Hid (D.counted r k=true):=hid (by rw[ET,hk0];simp[hc])
    rw[hc] at m2
    clear h hf ET hi ht hx hrt hbd hc hk0
    go_enter Tryz.func124,Tryz.ntmps124
    go_wp2_with fail
    refine HC.out.mono ?_
    rintro e w1 ⟨rfl,rfl⟩
    go_wp2_with fail
    go_quiet (fail)
    go_wp2_with fail
    go_ret
    exact⟨aH E.out.symm,⟨_,rfl⟩⟩
   ·have hcb:=neq_b hc
    by_cases hp:D.phase=1
    ·rw[hp] at c3
     by_cases hq:D.cursor=r-1
     ·have hqb:=eq_b hq
      have E:Hid (D.counted r k=decide (k<D.field)):=hid (by rw[ET,hk0];simp[hc,hp,hq])
      rw[hq] at c4
      clear h hf ET hi ht hx hrt hbd hc hp hq hk0
      go_enter Tryz.func124,Tryz.ntmps124
      go_wp2_with fail
      refine HC.out.mono ?_
      rintro e w1 ⟨rfl,rfl⟩
      go_wp2_with fail
      go_quiet (fail)
      go_wp2_with fail
      go_ret
      exact⟨aH E.out.symm,⟨_,rfl⟩⟩
     ·have hqb:=neq_b hq
      have E:Hid (D.counted r k=false):=hid (by rw[ET,hk0];simp[hc,hp,hq])
      clear h hf ET hi ht hx hrt hbd hc hp hq hk0
      go_enter Tryz.func124,Tryz.ntmps124
      go_wp2_with fail
      refine HC.out.mono ?_
      rintro e w1 ⟨rfl,rfl⟩
      go_wp2_with fail
      go_quiet (fail)
      go_wp2_with fail
      go_ret
      exact⟨aH E.out.symm,⟨_,rfl⟩⟩
    ·have hpb:=neq_b hp
     have E:Hid (D.counted r k=false):=hid (by rw[ET,hk0];simp[hc,hp])
     clear h hf ET hi ht hx hrt hbd hc hp hk0
     go_enter Tryz.func124,Tryz.ntmps124
     go_wp2_with fail
     refine HC.out.mono ?_
     rintro e w1 ⟨rfl,rfl⟩
     go_wp2_with fail
     go_quiet (fail)
     go_wp2_with fail
     go_ret
     exact⟨aH E.out.symm,⟨_,rfl⟩⟩
def lI(l:List Th):List Int:=l.flatMap (fun t=>if t.ended then[] else[(t.h:Int)+1])
def Wd.refs(D:Wd):List Int:=lI D.ts
theorem Fa{l:List Th}{k:Nat}(ht:l[k]? =some t):lI (l.take (k+1))=lI (l.take k)++(if t.ended then[] else[(t.h:Int)+1]):=by
 rw[List.take_add_one,ht]
 unfold lI
 rw[List.flatMap_append]
 simp
set_option maxHeartbeats 1000000 in
theorem Qj(h:WAt w lo lab a D)(hn:D.ts.length≤10000):
  Calls Tryz.prog 65 #[.pointer (some ⟨a.q,0,none⟩)] w (fq w D.refs):=by
 obtain⟨i0,hinf,hz0,hz1,hz2⟩:=info_parts kF
 obtain⟨⟨om,capm,hmv⟩,hmx⟩:=sj h.h.tv
 have HMV:=hid hmv
 have HN:=hid hn
 have H:=hid h
 clear h hmx hn hmv
 go_enter Tryz.func65,Tryz.ntmps65
 go_wp2_with fail
 go_loopw [3,4] (fun v i wr=>∃k:Nat,k≤D.ts.length∧i=.int .i64 (k:Int)∧jN w v (lI (D.ts.take k)).length (lI (D.ts.take k)) wr) (fun _ i _=>D.ts.length-(intOf i).toNat)
 case atStart=>exact⟨0,Nat.zero_le _,rfl,World.ownsRow_nil _ _ _ _,Below.refl _ _⟩
 case round=>
  obtain⟨k,hk,rfl,hG⟩:=hrel
  have HGa:=hid hG
  have H1:=hid (H.out.later hG.2)
  have c0:=H1.out.c0
  have c3:=H1.out.h.c3
  rw[HMV.out] at c3
  clear hG
  by_cases hlt:k<D.ts.length
  ·obtain⟨t,ht⟩:∃t,D.ts[k]? =some t:=⟨_,List.getElem?_eq_getElem hlt⟩
   obtain⟨x,hx⟩:=H1.out.h.at ht
   obtain⟨g,cap,htv,ct⟩:=H1.out.h.Qh ht hx
   rw[HMV.out] at htv
   obtain⟨rfl,_,rfl⟩:om=some ⟨g,0,none⟩∧D.ts.length=D.ts.length∧capm=cap:=by simpa using htv
   have hT:=H1.out.h.th k t x ht hx
   have d0:=hT.c0
   have d4:=hT.c4
   have hbd:=H1.out.h.bd t (List.mem_of_getElem? ht)
   have hwr:IntKind.i64.wrap ((t.h:Int)+1)=(t.h:Int)+1:=IntWalk.i64_in _ (by omega)
   have HSn:=hid (Fa ht)
   have HKn:Hid (k<10000):=hid (by have:=HN.out;omega)
   have hlen:(lI (D.ts.take k)).length≤k:=by
    have:∀l:List Th,(lI l).length≤l.length:=fun l=>by
     induction l with
     |nil=>simp[lI]
     |cons u l ih=>
      have:lI (u::l)=(if u.ended then[] else[(u.h:Int)+1])++lI l:=rfl
      rw[this]
      cases u.ended<;>simp<;>omega
    have h2:=this (D.ts.take k)
    simp at h2
    omega
   have hk2:=HKn.out
   clear hT hbd htv ht hx
   cases hen:t.ended with
   |true=>
    rw[hen] at d4
    have HEn:=hid hen
    clear hen hlen
    go_wp2_with fail
    go_roundw
    case rel=>exact⟨k+1,by omega,by go_num,by rw[HSn.out,HEn.out];simpa using HGa.out⟩
    case measure=>simp[intOf];omega
   |false=>
    rw[hen] at d4
    have HEn:=hid hen
    have hown:=HGa.out.1
    have hsz:=HGa.out.2.size
    clear hen
    go_wp2_with (at_builtin;refine wpList_append_own _ rfl _ _ 45 rfl w.heap.size 3 i0 (.int .i64 0) 1 8 Tryz.underlying45 hinf hz0 hz1 hz2 rfl (by decide) _ _ _ rfl (hown.alloc _) ⟨wr.heap.size,0,none⟩ 1 1 [.int .i64 ((t.h:Int)+1)] rfl rfl ?c1 ?c2 ?c3 ?c4 ?c5 ?c6)
    case c2=>rfl
    case c3=>unfold maxLen;omega
    case c4=>omega
    case c5=>omega
    case c6=>
     intro v' w6 hown' hgrow _
     have HB6:=hid ((HGa.out.2.alloc hsz (.cells #[.int .i64 ((t.h:Int)+1)] 3)).grown hgrow (by simp;omega) (aI hown))
     have HO6:Hid (w6.ownsRow w.heap.size 3 1 v' (lI (D.ts.take k)++[(t.h:Int)+1]).length ((lI (D.ts.take k)++[(t.h:Int)+1]).map (Value.int .i64))):=hid (by simpa using hown')
     clear hown' hgrow hown hsz hlen
     go_wp2_with fail
     go_roundw
     case rel=>exact⟨k+1,by omega,by go_num,by rw[HSn.out,HEn.out];exact⟨HO6.out,HB6.out⟩⟩
     case measure=>simp[intOf];omega
  ·obtain rfl:k=D.ts.length:=by omega
   have HFin:Hid (jN w _ D.refs.length D.refs _):=hid (by have:=HGa.out;rw[List.take_length] at this;exact this)
   go_wp2_with fail
   go_ret
   exact fq.mk rfl HFin.out
end
end Go.Proofs.YtjmifnljckmimaaGreat.Pk
