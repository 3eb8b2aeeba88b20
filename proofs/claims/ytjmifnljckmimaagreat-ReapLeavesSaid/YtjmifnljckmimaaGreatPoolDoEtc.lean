/-
  Texts laid together: PoolDo, PoolBegun, WRep.
-/
import Derived.Test.YtjmifnljckmimaaGreatChainsEtc
import Derived.Test.YtjmifnljckmimaaGreatBaseEtc
import Derived.Deep.RegionHeld3
import Derived.BigQuiet
import Derived.Test.YtjmifnljckmimaaGreatTameEtc
namespace Go.Proofs.YtjmifnljckmimaaGreat.Pk
open Lib (hid)
open Go.RowKit
set_option linter.unusedVariables false
set_option linter.unusedSimpArgs false
structure Sb (w:World) (p:Pl) (c:Cf) (s:St) (l:List Nat) (a:Option Addr):Prop where
 gr:G w p c s
 pool:bK c s.zs l
 r:Row w .i64 a (ints l)
 o:iW (inG p) a (ints l)
 hN:c.N≤5000
theorem Sb.hl{w:World}{p:Pl}{c:Cf}{s:St}{l:List Nat}{a:Option Addr}(h:Sb w p c s l a):l.length≤5000:=Nat.le_trans (dX h.pool.ch.nd h.pool.ch.lt) h.hN
set_option maxHeartbeats 400000 in
theorem Dq(n:Nat)(w:World)(hn:n≤10000):
  Calls Tryz.prog 166 #[.int .i64 (n:Int)] w (uA (List.range n) w):=by
 obtain⟨i0,hi,hz0,hz1,hz2⟩:=info_parts oJ
 go_enter Tryz.func166,Tryz.ntmps166
 go_wp2
 go_loopw [3,4] (fun v i wr=>∃k:Nat,k≤n∧i=.int .i64 k∧xk w v k (ints (List.range k)) wr) (fun _ i _=>n-(intOf i).toNat)
 case atStart=>exact⟨0,Nat.zero_le _,rfl,World.ownsRow_nil _ _ _ _,Below.refl _ _⟩
 case round=>
  obtain⟨k,hk,rfl,hown,hbel⟩:=hrel
  have hsz:=hbel.size
  by_cases hlt:k<n
  ·have HT:Hid (ints (List.range (k+1))=ints (List.range k)++[(k:Int)]):=hid (by rw[List.range_succ];simp[ints])
   go_wp2_with (at_builtin;refine wpList_append_own _ rfl _ _ 45 rfl w.heap.size 3 i0 (.int .i64 0) 1 8 Tryz.underlying45 hi hz0 hz1 hz2 rfl (by decide) _ _ _ rfl (hown.alloc _) ⟨wr.heap.size,0,none⟩ 1 1 [.int .i64 (k:Int)] rfl rfl ?c1 ?c2 ?c3 ?c4 ?c5 ?c6)
   case c1=>exact cell_one_new wr _ _
   case c2=>intro u hu;simp at hu;subst hu;rfl
   case c3=>unfold maxLen;omega
   case c4=>omega
   case c5=>simp;omega
   case c6=>
    intro v' w1 hown' hgrow _
    have hbel1:Below w.heap.size w w1:=(hbel.alloc hsz _).grown hgrow (by simp;omega) (bf hown)
    have HG:Hid (xk w v' (k+1) (ints (List.range (k+1))) w1):=hid (by
     refine⟨?_,hbel1⟩
     rw[HT.out]
     simpa using hown')
    clear hown' hgrow hbel1 hown hbel
    go_wp2
    go_roundw
    case rel=>exact⟨k+1,by omega,by go_num,HG.out⟩
    case measure=>simp[intOf];omega
  ·have e:k=n:=by omega
   have HO:Hid (uA (List.range n) w (.returned u3) wr):=hid (by
    have h1:xk w u3 k (ints (List.range k)) wr:=⟨hown,hbel⟩
    have:=(nD.mk (by simp[ints]) h1).QS rfl
    rwa[e] at this)
   clear e hown hbel
   go_wp2
   go_ret
   exact HO.out
structure TA where
 tb:Nat
 mb:Nat
 la:Option Addr
 pa:Option Addr
 da:Option Addr
 lc:Nat
 pc:Nat
 dc:Nat
def TA.Rn(x:TA):Value:=.pointer (some ⟨x.tb,0,none⟩)
def TA.PD(x:TA):Value:=.pointer (some ⟨x.mb,0,none⟩)
structure WA where
 q:Nat
 hb:Nat
 tv:Value
 mv:Value
 ca:Option Addr
 ra:Option Addr
 ga:Option Addr
 cc:Nat
 rc:Nat
 gc:Nat
 tas:List TA
def Th.cells(t:Th)(x:TA):Array Value:= #[.int .i64 (t.h:Int),.slice x.la t.lv.length x.lc,.slice x.pa t.pt.length x.pc,.slice x.da t.dt.length x.dc,.bool t.ended]
def Mrk.cells(m:Mrk):Array Value:= #[.int .i64 m.refs,.int .i64 m.color,.int .i64 m.count,.int .i64 m.shade,.int .i64 m.shadow,.bool m.dead,.int .i64 m.left,.int .i64 m.leaves]
def Wd.cells(D:Wd)(a:WA):Array Value:= #[.pointer (some ⟨a.hb,0,none⟩),a.mv,.int .i64 D.parity,.int .i64 D.phase,.int .i64 D.cursor,.int .i64 D.field,.int .i64 D.scan,.int .i64 D.scanF,.int .i64 D.suspect,.int .i64 D.units,.int .i64 D.epochs,.slice a.ra D.ring.length a.rc,.slice a.ga D.grave.length a.gc,.int .i64 D.pending]
def hcells(n v:Nat)(cl:List Nat)(a:WA):Array Value:= #[.int .i64 (n:Int),.int .i64 (v:Int),.slice a.ca cl.length a.cc,a.tv]
def xg(w:World)(lo:Nat)(lab:Nat→Nat)(a:Option Addr)(n k:Nat):Prop:=0<n→∀b off,a=some ⟨b,off,none⟩→lo≤b∧b<w.heap.size∧lab b=k
theorem xg.nil(w:World)(lo:Nat)(lab:Nat→Nat)(n k:Nat):xg w lo lab none n k:=fun _ b off h=>by cases h
theorem xg.le{w w':World}{lo:Nat}{lab:Nat→Nat}{a:Option Addr}{n k:Nat}(h:xg w lo lab a n k)(hs:w.heap.size≤w'.heap.size):xg w' lo lab a n k:=fun h0 b off e=>by
 obtain⟨h1,h2,h3⟩:=h h0 b off e
 exact⟨h1,by omega,h3⟩
theorem xg.re{w:World}{lo:Nat}{lab lab':Nat→Nat}{a:Option Addr}{n k:Nat}(h:xg w lo lab a n k)(hl:∀b,b<w.heap.size→lab' b=lab b):xg w lo lab' a n k:=fun h0 b off e=>by
 obtain⟨h1,h2,h3⟩:=h h0 b off e
 exact⟨h1,h2,by rw[hl b h2];exact h3⟩
structure JO (w:World) (lo:Nat) (lab:Nat→Nat) (i:Nat) (t:Th) (x:TA):Prop where
 tb:Blk w x.tb (t.cells x) 100
 lv:iA w .i64 x.la t.lv
 pt:iA w .i64 x.pa t.pt
 dt:iA w .u32 x.da t.dt
 ltb:lo≤x.tb∧lab x.tb=7+5*i
 lla:xg w lo lab x.la t.lv.length (9+5*i)
 lpa:xg w lo lab x.pa t.pt.length (10+5*i)
 lda:xg w lo lab x.da t.dt.length (11+5*i)
structure Ic (w:World) (lo:Nat) (lab:Nat→Nat) (a:WA) (n v:Nat) (cl:List Nat) (ts:List Th):Prop where
 hb:Blk w a.hb (hcells n v cl a) 92
 lh:lo≤a.hb∧lab a.hb=1
 len:a.tas.length=ts.length
 tv:w.ownsRow lo 97 1 a.tv ts.length (a.tas.map TA.Rn)
 ltv:∀g,a.tv.ownBlock=some g→g<w.heap.size∧lab g=2
 th:∀(i:Nat) t x,ts[i]? =some t→a.tas[i]? =some x→JO w lo lab i t x
 crow:Row w .i64 a.ca (ints cl)
 lca:xg w lo lab a.ca cl.length 4
 bd:∀t,t∈ts→t.h<1000000
structure WAt (w:World) (lo:Nat) (lab:Nat→Nat) (a:WA) (D:Wd):Prop where
 h:Ic w lo lab a D.n D.w D.clean D.ts
 wb:Blk w a.q (D.cells a) 78
 lq:lo≤a.q∧lab a.q=0
 mv:w.ownsRow lo 93 1 a.mv D.ts.length (a.tas.map TA.PD)
 lmv:∀g,a.mv.ownBlock=some g→g<w.heap.size∧lab g=3
 mb:∀(i:Nat) t x,D.ts[i]? =some t→a.tas[i]? =some x→Blk w x.mb t.mr.cells 96∧lo≤x.mb∧lab x.mb=8+5*i
 rg:Row w .i64 a.ra (ints D.ring)
 lra:xg w lo lab a.ra D.ring.length 5
 gv:Row w .i64 a.ga (ints D.grave)
 lga:xg w lo lab a.ga D.grave.length 6
section
variable {w w':World} {lo:Nat} {lab lab':Nat→Nat} {a:WA} {D:Wd} {X:Nat→Prop} {i n v:Nat} {t:Th} {x:TA} {cl:List Nat} {ts:List Th}
theorem WAt.c0(h:WAt w lo lab a D):w.cell? ⟨a.q,0,none⟩=some (.pointer (some ⟨a.hb,0,none⟩)):=h.wb.cell 0 rfl
theorem WAt.c1(h:WAt w lo lab a D):w.cell? ⟨a.q,1,none⟩=some (a.mv):=h.wb.cell 1 rfl
theorem WAt.c2(h:WAt w lo lab a D):w.cell? ⟨a.q,2,none⟩=some (.int .i64 D.parity):=h.wb.cell 2 rfl
theorem WAt.c3(h:WAt w lo lab a D):w.cell? ⟨a.q,3,none⟩=some (.int .i64 D.phase):=h.wb.cell 3 rfl
theorem WAt.c4(h:WAt w lo lab a D):w.cell? ⟨a.q,4,none⟩=some (.int .i64 D.cursor):=h.wb.cell 4 rfl
theorem WAt.c5(h:WAt w lo lab a D):w.cell? ⟨a.q,5,none⟩=some (.int .i64 D.field):=h.wb.cell 5 rfl
theorem WAt.c11(h:WAt w lo lab a D):w.cell? ⟨a.q,11,none⟩=some (.slice a.ra D.ring.length a.rc):=h.wb.cell 11 rfl
theorem Ic.c3(h:Ic w lo lab a n v cl ts):w.cell? ⟨a.hb,3,none⟩=some (a.tv):=h.hb.cell 3 rfl
theorem JO.c0(h:JO w lo lab i t x):w.cell? ⟨x.tb,0,none⟩=some (.int .i64 (t.h:Int)):=h.tb.cell 0 rfl
theorem JO.c4(h:JO w lo lab i t x):w.cell? ⟨x.tb,4,none⟩=some (.bool t.ended):=h.tb.cell 4 rfl
theorem WAt.m1(h:WAt w lo lab a D)(ht:D.ts[i]? =some t)(hx:a.tas[i]? =some x):w.cell? ⟨x.mb,1,none⟩=some (.int .i64 t.mr.color):=(h.mb i t x ht hx).1.cell 1 rfl
theorem WAt.m2(h:WAt w lo lab a D)(ht:D.ts[i]? =some t)(hx:a.tas[i]? =some x):w.cell? ⟨x.mb,2,none⟩=some (.int .i64 t.mr.count):=(h.mb i t x ht hx).1.cell 2 rfl
theorem WAt.m3(h:WAt w lo lab a D)(ht:D.ts[i]? =some t)(hx:a.tas[i]? =some x):w.cell? ⟨x.mb,3,none⟩=some (.int .i64 t.mr.shade):=(h.mb i t x ht hx).1.cell 3 rfl
theorem WAt.m4(h:WAt w lo lab a D)(ht:D.ts[i]? =some t)(hx:a.tas[i]? =some x):w.cell? ⟨x.mb,4,none⟩=some (.int .i64 t.mr.shadow):=(h.mb i t x ht hx).1.cell 4 rfl
theorem WAt.m5(h:WAt w lo lab a D)(ht:D.ts[i]? =some t)(hx:a.tas[i]? =some x):w.cell? ⟨x.mb,5,none⟩=some (.bool t.mr.dead):=(h.mb i t x ht hx).1.cell 5 rfl
theorem xg.out{o:Option Addr}{m k:Nat}{zs:List Int}(h:xg w lo lab o m k)(hX:∀b,lo≤b→b<w.heap.size→lab b=k→¬X b)(hm:zs.length=m:=by simp[ints]):iW X o zs:=fun h0 b off e=>by
 obtain⟨h1,h2,h3⟩:=h (by omega) b off e
 exact hX b h1 h2 h3
theorem gq{e:TypeId}{size m:Nat}{u:Value}{xs:List Value}(h:w.ownsRow lo e size u m xs)(T:Touch X w w')(hx:∀g,u.ownBlock=some g→¬X g):w'.ownsRow lo e size u m xs:=by
 refine⟨h.1,?_⟩
 rcases h.2 with h0|⟨g,cap,cur,rfl,hb,hg,r⟩
 ·exact .inl h0
 ·exact .inr ⟨g,cap,cur,rfl,hb,(T.block g (lt_of_block hg) (hx g rfl)).trans hg,r⟩
theorem JO.touch(h:JO w lo lab i t x)(T:Touch X w w')(hX:∀b,lo≤b→b<w.heap.size→(lab b=7+5*i∨lab b=9+5*i∨lab b=10+5*i∨lab b=11+5*i)→¬X b):JO w' lo lab i t x where
 tb:=h.tb.touch T (hX _ h.ltb.1 h.tb.lt (.inl h.ltb.2))
 lv:=h.lv.touch T (h.lla.out (fun b h1 h2 h3=>hX b h1 h2 (.inr (.inl h3))))
 pt:=h.pt.touch T (h.lpa.out (fun b h1 h2 h3=>hX b h1 h2 (.inr (.inr (.inl h3)))))
 dt:=h.dt.touch T (h.lda.out (fun b h1 h2 h3=>hX b h1 h2 (.inr (.inr (.inr h3)))))
 ltb:=h.ltb
 lla:=h.lla.le T.size
 lpa:=h.lpa.le T.size
 lda:=h.lda.le T.size
theorem Ic.touch(h:Ic w lo lab a n v cl ts)(T:Touch X w w')(hX:∀b,lo≤b→b<w.heap.size→(lab b=1∨lab b=2∨lab b=4∨∃i,i<ts.length∧(lab b=7+5*i∨lab b=9+5*i∨lab b=10+5*i∨lab b=11+5*i))→¬X b):Ic w' lo lab a n v cl ts where
 hb:=h.hb.touch T (hX _ h.lh.1 h.hb.lt (.inl h.lh.2))
 lh:=h.lh
 len:=h.len
 tv:=gq h.tv T (fun g hg=>hX g (bf h.tv g hg) (h.ltv g hg).1 (.inr (.inl (h.ltv g hg).2)))
 ltv:=fun g hg=>⟨Nat.lt_of_lt_of_le (h.ltv g hg).1 T.size,(h.ltv g hg).2⟩
 th:=fun i t x h1 h2=>(h.th i t x h1 h2).touch T (fun b b1 b2 b3=>hX b b1 b2 (.inr (.inr (.inr ⟨i,(List.getElem?_eq_some_iff.1 h1).1,b3⟩))))
 crow:=h.crow.touch T (h.lca.out (fun b h1 h2 h3=>hX b h1 h2 (.inr (.inr (.inl h3)))))
 lca:=h.lca.le T.size
 bd:=h.bd
theorem WAt.touch(h:WAt w lo lab a D)(T:Touch X w w')(hX:∀b,lo≤b→b<w.heap.size→¬X b):WAt w' lo lab a D where
 h:=h.h.touch T (fun b h1 h2 _=>hX b h1 h2)
 wb:=h.wb.touch T (hX _ h.lq.1 h.wb.lt)
 lq:=h.lq
 mv:=gq h.mv T (fun g hg=>hX g (bf h.mv g hg) (h.lmv g hg).1)
 lmv:=fun g hg=>⟨Nat.lt_of_lt_of_le (h.lmv g hg).1 T.size,(h.lmv g hg).2⟩
 mb:=fun i t x h1 h2=>⟨(h.mb i t x h1 h2).1.touch T (hX _ (h.mb i t x h1 h2).2.1 (h.mb i t x h1 h2).1.lt),(h.mb i t x h1 h2).2⟩
 rg:=h.rg.touch T (h.lra.out (fun b h1 h2 _=>hX b h1 h2))
 lra:=h.lra.le T.size
 gv:=h.gv.touch T (h.lga.out (fun b h1 h2 _=>hX b h1 h2))
 lga:=h.lga.le T.size
theorem WAt.later(h:WAt w lo lab a D)(hb:Below w.heap.size w w'):WAt w' lo lab a D:=h.touch (X:=fun _=>False) (Touch.of_below hb) (fun _ _ _=>id)
theorem WAt.drw(h:WAt w lo lab a D)(d:Drw w w'):WAt w' lo lab a D:=h.later d.new
def nG(lo:Nat)(lab:Nat→Nat)(K:Nat)(w w':World):Prop:=Touch (fun b=>lo≤b∧b<w.heap.size∧lab b=K) w w'
theorem nG.cell{K b k:Nat}(h0:lo≤b)(hl:lab b=K)(u:Value):nG lo lab K w (w.setCell ⟨b,k,none⟩ u):=(Touch.refl _ _).setCell (fun h=>⟨h0,h,hl⟩) u
theorem WAt.Oc(h:WAt w lo lab a D)(ht:D.ts[i]? =some t)(hx:a.tas[i]? =some x){k:Nat}{u:Value}{m:Mrk}(e:t.mr.cells.setIfInBounds k u=m.cells):
  WAt (w.setCell ⟨x.mb,k,none⟩ u) lo lab a {D with ts:=D.ts.set i {t with mr:=m}}:=by
 obtain⟨hB,hlo,hl⟩:=h.mb i t x ht hx
 have T:nG lo lab (8+5*i) w (w.setCell ⟨x.mb,k,none⟩ u):=nG.cell hlo hl u
 have hi:=(List.getElem?_eq_some_iff.1 ht).1
 have hsz:(w.setCell ⟨x.mb,k,none⟩ u).heap.size=w.heap.size:=by simp
 have H:=h.h.touch T (fun b _ _ h3 h4=>by have:=h4.2.2;omega)
 refine⟨⟨H.hb,H.lh,by simpa using H.len,by simpa using H.tv,H.ltv,fun j s y hs hy=> ?_,H.crow,H.lca,fun s hs=>by
   rcases List.mem_or_eq_of_mem_set hs with g|rfl
   ·exact h.h.bd s g
   ·exact h.h.bd t (List.mem_of_getElem? ht)⟩,h.wb.touch T (fun h4=>by have:=h4.2.2;have:=h.lq.2;omega),h.lq,by simpa using gq h.mv T (fun g hg h4=>by have:=h4.2.2;have:=(h.lmv g hg).2;omega),fun g hg=>⟨by rw[hsz];exact(h.lmv g hg).1,(h.lmv g hg).2⟩,fun j s y hs hy=> ?_,h.rg.touch T (h.lra.out (fun b _ _ h3 h4=>by have:=h4.2.2;omega)),h.lra.le T.size,h.gv.touch T (h.lga.out (fun b _ _ h3 h4=>by have:=h4.2.2;omega)),h.lga.le T.size⟩
 ·by_cases hj:j=i
  ·subst hj
   simp[hi] at hs
   subst hs
   have:=H.th j t x ht hx
   rw[hx] at hy
   cases hy
   exact⟨this.tb,this.lv,this.pt,this.dt,this.ltb,this.lla,this.lpa,this.lda⟩
  ·rw[List.getElem?_set_ne (Ne.symm hj)] at hs
   exact H.th j s y hs hy
 ·by_cases hj:j=i
  ·subst hj
   simp[hi] at hs
   subst hs
   rw[hx] at hy
   cases hy
   exact⟨hB.put k u e,hlo,hl⟩
  ·rw[List.getElem?_set_ne (Ne.symm hj)] at hs
   obtain⟨g1,g2,g3⟩:=h.mb j s y hs hy
   exact⟨g1.touch T (fun h4=>by have:=h4.2.2;omega),g2,g3⟩
theorem WAt.setNum(h:WAt w lo lab a D){D':Wd}{k:Nat}{u:Value}(e:(D.cells a).setIfInBounds k u=D'.cells a)(hn:D'.n=D.n)(hv:D'.w=D.w)(hc:D'.clean=D.clean)(ht:D'.ts=D.ts)(hr:D'.ring=D.ring)(hg:D'.grave=D.grave):
  WAt (w.setCell ⟨a.q,k,none⟩ u) lo lab a D':=by
 have T:nG lo lab 0 w (w.setCell ⟨a.q,k,none⟩ u):=nG.cell h.lq.1 h.lq.2 u
 have H:=h.h.touch T (fun b _ _ h3 h4=>by have:=h4.2.2;omega)
 have hsz:(w.setCell ⟨a.q,k,none⟩ u).heap.size=w.heap.size:=by simp
 refine⟨by rw[hn,hv,hc,ht];exact H,h.wb.put k u e,h.lq,by rw[ht];exact gq h.mv T (fun g hg h4=>by have:=h4.2.2;have:=(h.lmv g hg).2;omega),fun g hg=>⟨by rw[hsz];exact(h.lmv g hg).1,(h.lmv g hg).2⟩,fun j s y hs hy=> ?_,by rw[hr];exact h.rg.touch T (h.lra.out (fun b _ _ h3 h4=>by have:=h4.2.2;omega)),by rw[hr];exact h.lra.le T.size,by rw[hg];exact h.gv.touch T (h.lga.out (fun b _ _ h3 h4=>by have:=h4.2.2;omega)),by rw[hg];exact h.lga.le T.size⟩
 rw[ht] at hs
 obtain⟨g1,g2,g3⟩:=h.mb j s y hs hy
 exact⟨g1.touch T (fun h4=>by have:=h4.2.2;omega),g2,g3⟩
theorem JO.re(h:JO w lo lab i t x)(hl:∀b,b<w.heap.size→lab' b=lab b):JO w lo lab' i t x:=
 ⟨h.tb,h.lv,h.pt,h.dt,⟨h.ltb.1,by rw[hl _ h.tb.lt];exact h.ltb.2⟩,h.lla.re hl,h.lpa.re hl,h.lda.re hl⟩
theorem Ic.re(h:Ic w lo lab a n v cl ts)(hl:∀b,b<w.heap.size→lab' b=lab b):Ic w lo lab' a n v cl ts:=
 ⟨h.hb,⟨h.lh.1,by rw[hl _ h.hb.lt];exact h.lh.2⟩,h.len,h.tv,fun g hg=>⟨(h.ltv g hg).1,by rw[hl g (h.ltv g hg).1];exact(h.ltv g hg).2⟩,fun i t x h1 h2=>(h.th i t x h1 h2).re hl,h.crow,h.lca.re hl,h.bd⟩
theorem WAt.re(h:WAt w lo lab a D)(hl:∀b,b<w.heap.size→lab' b=lab b):WAt w lo lab' a D:=
 ⟨h.h.re hl,h.wb,⟨h.lq.1,by rw[hl _ h.wb.lt];exact h.lq.2⟩,h.mv,fun g hg=>⟨(h.lmv g hg).1,by rw[hl g (h.lmv g hg).1];exact(h.lmv g hg).2⟩,fun i t x h1 h2=>by
  obtain⟨g1,g2,g3⟩:=h.mb i t x h1 h2
  exact⟨g1,g2,by rw[hl _ g1.lt];exact g3⟩,h.rg,h.lra.re hl,h.gv,h.lga.re hl⟩
theorem WAt.Od(h:WAt w lo lab a D){ra:Option Addr}{rc:Nat}{l:List Nat}(hr:Row w .i64 ra (ints l))(hL:xg w lo lab ra l.length 5):
  WAt (w.setCell ⟨a.q,11,none⟩ (.slice ra l.length rc)) lo lab {a with ra:=ra,rc:=rc} {D with ring:=l}:=by
 have T:nG lo lab 0 w (w.setCell ⟨a.q,11,none⟩ (.slice ra l.length rc)):=nG.cell h.lq.1 h.lq.2 _
 have H:=h.h.touch T (fun b _ _ h3 h4=>by have:=h4.2.2;omega)
 have hsz:(w.setCell ⟨a.q,11,none⟩ (.slice ra l.length rc)).heap.size=w.heap.size:=by simp
 refine⟨⟨H.hb,H.lh,H.len,H.tv,H.ltv,H.th,H.crow,H.lca,H.bd⟩,h.wb.put 11 _ rfl,h.lq,gq h.mv T (fun g hg h4=>by have:=h4.2.2;have:=(h.lmv g hg).2;omega),fun g hg=>⟨by rw[hsz];exact(h.lmv g hg).1,(h.lmv g hg).2⟩,fun j s y hs hy=> ?_,hr.touch T (hL.out (fun b _ _ h3 h4=>by have:=h4.2.2;omega)),hL.le T.size,h.gv.touch T (h.lga.out (fun b _ _ h3 h4=>by have:=h4.2.2;omega)),h.lga.le T.size⟩
 obtain⟨g1,g2,g3⟩:=h.mb j s y hs hy
 exact⟨g1.touch T (fun h4=>by have:=h4.2.2;omega),g2,g3⟩
theorem PE{w1:World}{o:Option Addr}{l:List Nat}(hr:Row w1 .i64 o (ints l))(hf:∀b off,o=some ⟨b,off,none⟩→w.heap.size≤b)(hlo:lo≤w.heap.size)(k:Nat):
  ∃lab',(∀b,b<w.heap.size→lab' b=lab b)∧xg w1 lo lab' o l.length k:=by
 refine⟨fun b=>if w.heap.size≤b then k else lab b,fun b hb=>if_neg (by omega),fun h0 b off e=> ?_⟩
 obtain⟨b',off',e',hb',_⟩:=hr 0 (by simpa[ints] using h0)
 rw[e] at e'
 cases e'
 have:=hf b off e
 exact⟨by omega,hb',if_pos this⟩
end
end Go.Proofs.YtjmifnljckmimaaGreat.Pk
