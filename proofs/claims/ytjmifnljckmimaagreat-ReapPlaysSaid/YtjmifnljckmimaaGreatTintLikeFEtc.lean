/-
  Layer 13: a ground and a world that stand alike are told to be (over the bundles).
-/
import Derived.Test.YtjmifnljckmimaaGreatRefMkEtc
import Derived.Test.YtjmifnljckmimaaGreatTameEtc
import Derived.OwnWalk
namespace Go.Proofs.YtjmifnljckmimaaGreat.Pk
open Lib (hid)
open Go.RowKit
set_option linter.unusedVariables false
set_option linter.unusedSimpArgs false
set_option maxRecDepth 100000
def qA(w:World)(p:Pl)(q lo:Nat)(c:Cf)(D D2:Wd)(wr:World):Prop:=ic w p c D wr∧bT wr lo q D2∧(∀i,lo≤i→¬nR p i)∧w.heap.size≤lo
section
variable {w wr w':World} {p:Pl} {q lo:Nat} {c:Cf} {D D2 D':Wd}
theorem bT.touch{X:Nat→Prop}(h:bT wr lo q D)(T:Touch X wr w')(hX:∀b,lo≤b→¬X b):bT w' lo q D:=by
 obtain⟨lab,a,e,h⟩:=h
 exact⟨lab,a,e,h.touch T (fun b hb _=>hX b hb)⟩
theorem bT.later(h:bT wr lo q D)(hb:Below wr.heap.size wr w'):bT w' lo q D:=by
 obtain⟨lab,a,e,h⟩:=h
 exact⟨lab,a,e,h.later hb⟩
theorem qA.later(h:qA w p q lo c D D2 wr)(hb:Below wr.heap.size wr w'):qA w p q lo c D D2 w':=⟨h.1.later hb,h.2.1.later hb,h.2.2⟩
theorem qA.does{f:FuncId}{args:List Value}{B:Nat}{v:Value}(h:qA w p q lo c D D2 wr)(ha:Does c D f args B D' v):
  Calls Tryz.prog f (List.toArray (.pointer (some ⟨p.a,0,none⟩)::args)) wr fun e w'=>e=.returned v∧qA w p q lo c D' D2 w'∧Touch (ah p) wr w':=
 (h.1.does ha).mono fun e w' ⟨h1,h2,h3⟩=>⟨h1,⟨h2,h.2.1.touch h3 (fun b hb hx=>h.2.2.1 b hb (Or.inr hx)),h.2.2⟩,h3⟩
theorem qA.world{f:FuncId}{args:Array Value}{v:Value}(h:qA w p q lo c D D2 wr)(ha:Calls Tryz.prog f args wr (dW wr lo q D' v)):
  Calls Tryz.prog f args wr fun e w'=>e=.returned v∧qA w p q lo c D D' w'∧Touch (fun b=>lo≤b) wr w':=
 ha.mono fun e w' ⟨h1,h2,h3⟩=>⟨h1,⟨h.1.touch h3 (fun i hi hx=>h.2.2.1 i hx hi) (fun i hi=>Nat.le_trans h.2.2.2 hi),h2,h.2.2⟩,h3⟩
structure Nj (wr:World) (q:Nat) (D:Wd) (ra:Option Addr) (rc:Nat):Prop where
 c2:wr.cell? ⟨q,2,none⟩=some (.int .i64 D.parity)
 c3:wr.cell? ⟨q,3,none⟩=some (.int .i64 D.phase)
 c4:wr.cell? ⟨q,4,none⟩=some (.int .i64 D.cursor)
 c5:wr.cell? ⟨q,5,none⟩=some (.int .i64 D.field)
 c6:wr.cell? ⟨q,6,none⟩=some (.int .i64 D.scan)
 c7:wr.cell? ⟨q,7,none⟩=some (.int .i64 D.scanF)
 c11:wr.cell? ⟨q,11,none⟩=some (.slice ra D.ring.length rc)
 rg:Row wr .i64 ra (ints D.ring)
 lt:q<wr.heap.size
 out:∀b off,ra=some ⟨b,off,none⟩→0<D.ring.length→lo≤b
theorem qA.nums(h:qA w p q lo c D D2 wr):∃ra rc,Nj (lo:=lo) wr q D2 ra rc:=by
 obtain⟨lab,a,rfl,k⟩:=h.2.1
 exact⟨a.ra,a.rc,k.c2,k.c3,k.c4,k.c5,k.c6,k.c7,k.c11,k.rg,k.wb.lt,fun b off e h0=>(k.lra h0 b off e).1⟩
theorem Nj.touch{X:Nat→Prop}{ra:Option Addr}{rc:Nat}(h:Nj (lo:=lo) wr q D ra rc)(T:Touch X wr w')(hX:∀b,lo≤b→¬X b)(hq:lo≤q):Nj (lo:=lo) w' q D ra rc:=by
 have hc:∀k,w'.cell? ⟨q,k,none⟩=wr.cell? ⟨q,k,none⟩:=fun k=>T.cell (p:=⟨q,k,none⟩) h.lt (hX q hq)
 exact⟨by rw[hc];exact h.c2,by rw[hc];exact h.c3,by rw[hc];exact h.c4,by rw[hc];exact h.c5,by rw[hc];exact h.c6,by rw[hc];exact h.c7,by rw[hc];exact h.c11,h.rg.touch T (fun h0 b off e hx=>hX b (h.out b off e (by simpa[ints] using h0)) hx),Nat.lt_of_lt_of_le h.lt T.size,h.out⟩
end
theorem yx{w wr:World}{p:Pl}{c:Cf}{D:Wd}(h:ic w p c D wr)(k:Nat)(h1:10≤k)(h2:k≤18)(x y:Int)(hx:x=(k:Int))(hy:D.reg k=y):
  Calls Tryz.prog 117 #[.pointer (some ⟨p.a,0,none⟩),.int .i64 x] wr fun e w'=>e=.returned (.int .i64 y)∧wr=w':=by
 obtain⟨zs,m,hG,hR,_⟩:=h
 exact wT p c _ k x y wr hG (by omega) hx (by rw[←hy];exact hR.reg k h1 h2)
theorem bT.lq{w:World}{lo q:Nat}{D:Wd}(h:bT w lo q D):lo≤q:=by
 obtain⟨lab,a,rfl,k⟩:=h
 exact k.lq.1
def LQ(D:Wd):Prop:=D.ring.length≤8000∧D.ts.length≤8000∧(∀t,t∈D.ts→t.h<1000000)
theorem Ps{l:List Th}{x:Int}(h:x∈iQ l):∃t,t∈l∧x=(t.h:Int)+1:=by
 unfold iQ at h
 obtain⟨t,ht,hx⟩:=List.mem_flatMap.1 h
 cases he:t.ended with
 |true=>rw[he] at hx;simp at hx
 |false=>rw[he] at hx;simp at hx;exact⟨t,ht,hx⟩
theorem AR{D:Wd}(h:∀t,t∈D.ts→t.h<1000000){k:Nat}(hk:k<D.refs.length):In64 (nth D.refs k):=by
 have:nth D.refs k=D.refs[k]:=by unfold nth;simp[List.getD,hk]
 rw[this]
 obtain⟨t,ht,e⟩:=Ps (List.getElem_mem hk)
 have:=h t ht
 rw[e]
 unfold In64
 omega
theorem yh:∀l:List Th,(iQ l).length≤l.length
 |[]=>by simp[iQ]
 |u::l=>by
  have h:=yh l
  have:iQ (u::l)=(if u.ended then[] else[(u.h:Int)+1])++iQ l:=rfl
  rw[this]
  cases u.ended<;>simp<;>omega
section
variable {w:World} {lo q:Nat} {D:Wd}
theorem bT.refs(h:bT w lo q D)(hn:D.ts.length≤10000):Calls Tryz.prog 65 #[.pointer (some ⟨q,0,none⟩)] w (dQ w D.refs):=by
 obtain⟨lab,a,rfl,k⟩:=h;exact UJ k hn
theorem bT.fB(h:bT w lo q D)(r:Int):Calls Tryz.prog 119 #[.pointer (some ⟨q,0,none⟩),.int .i64 r] w fun e w'=>e=.returned (.bool (D.fB r))∧dK w w':=by
 obtain⟨lab,a,rfl,k⟩:=h;exact KV k r
theorem bT.dead(h:bT w lo q D)(r:Int):Calls Tryz.prog 120 #[.pointer (some ⟨q,0,none⟩),.int .i64 r] w fun e w'=>e=.returned (.bool (D.dead r))∧dK w w':=by
 obtain⟨lab,a,rfl,k⟩:=h;exact UE k r
theorem bT.fE(h:bT w lo q D)(r:Int):Calls Tryz.prog 122 #[.pointer (some ⟨q,0,none⟩),.int .i64 r] w fun e w'=>e=.returned (.int .i64 (D.fE r))∧dK w w':=by
 obtain⟨lab,a,rfl,k⟩:=h;exact Td k r
theorem bT.counted(h:bT w lo q D)(r i:Int):Calls Tryz.prog 124 #[.pointer (some ⟨q,0,none⟩),.int .i64 r,.int .i64 i] w fun e w'=>e=.returned (.bool (D.counted r i))∧dK w w':=by
 obtain⟨lab,a,rfl,k⟩:=h;exact nM k r i
end
def RL(w:World)(p:Pl)(q lo:Nat)(c:Cf)(D D2:Wd):TX.ww where
 r a b:=(qA w p q lo c D D2 a→qA w p q lo c D D2 b)∧Touch (ah p) a b
 refl a:=⟨id,Touch.refl _ _⟩
 trans h k:=⟨fun x=>k.1 (h.1 x),h.2.trans k.2⟩
 below h:=⟨fun x=>x.later h,Touch.of_below h⟩
def yu(w:World)(p:Pl)(q lo:Nat)(c:Cf)(D D2:Wd)(l:List Nat)(hX:∀b,lo≤b→¬ah p b):TX.au (RL w p q lo c D D2):=
 ⟨fun w' u=>∃a cap,u=.slice a l.length cap∧Row w' .i64 a (ints l)∧(∀b off,a=some ⟨b,off,none⟩→lo≤b),fun w1 w2 v h ⟨a,cap,e,hr,hf⟩=>⟨a,cap,e,hr.touch h.2 (fun _ b off e hx=>hX b (hf b off e) hx),hf⟩,
  ⟨_,_,_,0,rfl,by have:=Row.lit {(default:World) with heap:=Array.replicate lo (.cells #[] 0)} .i64 (ints l) 0;exact this,fun b off e=>by cases e;simp⟩⟩
theorem sG{w:World}{p:Pl}{q lo:Nat}{c:Cf}{D D2:Wd}{l:List Nat}{hX:∀b,lo≤b→¬ah p b}{P:Program}{ops:Array Oper}{C:World→Prop}{K:Act→World→Prop}{o:Oper}{ls:List Oper}{fs:List (TX.au (RL w p q lo c D D2))}{a:Act}{known:List (World→Prop)}(hw:Region.wanted o (yielded ops a.tmps)=true)
  (h1:∀w',C w'→TX.fP o known w'→TX.dC (RL w p q lo c D D2) P o a w' (yu w p q lo c D D2 l hX).p)
  {a':Option Addr→Nat→Act} (ha:∀ad cap,a.put o.dst (.slice ad l.length cap)=a' ad cap) {known':Option Addr→List (World→Prop)} (hk:∀ad,known++[fun w'=>Row w' .i64 ad (ints l)∧(∀b off,ad=some ⟨b,off,none⟩→lo≤b)]=known' ad)
  (h2:∀ad cap,TX.fo P ops C K ls fs (a' ad cap) (known' ad)):TX.fo P ops C K (o::ls) (yu w p q lo c D D2 l hX::fs) a known:=
 TX.kF hw h1 fun u hu=>by
  obtain⟨_,ad,cap,rfl,_,_⟩:=hu
  have e:(fun w'=>(yu w p q lo c D D2 l hX).p w' (.slice ad l.length cap))=fun w':World=>Row w' .i64 ad (ints l)∧(∀b off,ad=some ⟨b,off,none⟩→lo≤b):=by
   funext w'
   refine propext ⟨?_,fun h=>⟨ad,cap,rfl,h.1,h.2⟩⟩
   rintro⟨ad',cap',h,hr,hf⟩
   cases h
   exact⟨hr,hf⟩
  rw[e,ha,hk]
  exact h2 ad cap
theorem mV{w w':World}{p:Pl}{q lo:Nat}{c:Cf}{D D2:Wd}{l:List Nat}{hX:∀b,lo≤b→¬ah p b}{P:Program}{f:FuncId}{args:Array Value}{r:Result Next}(h:r=.ok (.enter f args) w')
  (hc:Calls P f args w' fun e w''=>∃v,e=.returned v∧(RL w p q lo c D D2).r w' w''∧(yu w p q lo c D D2 l hX).p w'' v):TX.dn (RL w p q lo c D D2) P w' (yu w p q lo c D D2 l hX).p r:=by
 rw[h];exact hc
set_option maxHeartbeats 4000000 in
theorem Di(R:Bw)(T:BB){w wr:World}{p:Pl}{q lo:Nat}{c:Cf}{D:Wd}(h:qA w p q lo c D D wr)(hl:LQ D):
  Calls Tryz.prog 61 #[.pointer (some ⟨p.a,0,none⟩),.pointer (some ⟨q,0,none⟩)] wr fun e w'=>e=.returned (.bool true)∧qA w p q lo c D D w'∧Touch (ah p) wr w':=by
 have mY:=hid (T.at_ c D)
 have H0:=hid h
 have HL:=hid hl
 have HQ:=hid h.2.1.lq
 have HX:Hid (∀b,lo≤b→¬ah p b):=hid (fun b hb hx=>h.2.2.1 b hb (Or.inr hx))
 clear h hl
 go_enter Tryz.func61,Tryz.ntmps61
 go_wp2_with fail
 refine(H0.out.does mY.out).mono ?_
 rintro e w1 ⟨rfl,hS,hT⟩
 have H1:=hid hS
 have HT1:=hid hT
 clear hS hT
 obtain⟨ra,rc,hn⟩:=H1.out.nums
 have HN:=hid hn
 have HNs:Hid (∀w',(RL w p q lo c D D).r w1 w'→Nj (lo:=lo) w' q D ra rc):=hid (fun w' h=>hn.touch h.2 HX.out HQ.out)
 have cc2:=fun w' (h:(RL w p q lo c D D).r w1 w')=>(HNs.out w' h).c2
 have cc3:=fun w' (h:(RL w p q lo c D D).r w1 w')=>(HNs.out w' h).c3
 have cc4:=fun w' (h:(RL w p q lo c D D).r w1 w')=>(HNs.out w' h).c4
 have cc5:=fun w' (h:(RL w p q lo c D D).r w1 w')=>(HNs.out w' h).c5
 have cc6:=fun w' (h:(RL w p q lo c D D).r w1 w')=>(HNs.out w' h).c6
 have cc7:=fun w' (h:(RL w p q lo c D D).r w1 w')=>(HNs.out w' h).c7
 have cc11:=fun w' (h:(RL w p q lo c D D).r w1 w')=>(HNs.out w' h).c11
 have HDo:∀{f:FuncId} {args:List Value} {B:Nat} {v:Value},Does c D f args B D v→∀w',(RL w p q lo c D D).r w1 w'→Calls Tryz.prog f (List.toArray (.pointer (some ⟨p.a,0,none⟩)::args)) w' fun e w''=>e=.returned v∧(RL w p q lo c D D).r w' w'':=fun ha w' h=>((h.1 H1.out).does ha).mono fun e w'' ⟨e1,e2,e3⟩=>⟨e1,fun _=>e2,e3⟩
 have HPar:=HDo (T.parity c D)
 have HPh:=HDo (T.phase c D)
 have HS14:∀w',(RL w p q lo c D D).r w1 w'→Calls Tryz.prog 117 #[.pointer (some ⟨p.a,0,none⟩),.int .i64 14] w' fun e w''=>e=.returned (.int .i64 D.scan)∧(RL w p q lo c D D).r w' w'':=fun w' h=>(yx (h.1 H1.out).1 14 (by omega) (by omega) _ D.scan rfl rfl).mono fun e w'' ⟨e1,e2⟩=>⟨e1,by subst e2;exact(RL w p q lo c D D).refl _⟩
 have HS15:∀w',(RL w p q lo c D D).r w1 w'→Calls Tryz.prog 117 #[.pointer (some ⟨p.a,0,none⟩),.int .i64 15] w' fun e w''=>e=.returned (.int .i64 D.scanF)∧(RL w p q lo c D D).r w' w'':=fun w' h=>(yx (h.1 H1.out).1 15 (by omega) (by omega) _ D.scanF rfl rfl).mono fun e w'' ⟨e1,e2⟩=>⟨e1,by subst e2;exact(RL w p q lo c D D).refl _⟩
 have HLi:∀w',(RL w p q lo c D D).r w1 w'→Calls Tryz.prog 118 #[.pointer (some ⟨p.a,0,none⟩)] w' fun e w''=>∃v,e=.returned v∧(RL w p q lo c D D).r w' w''∧(yu w p q lo c D D D.ring HX.out).p w'' v:=fun w' h=>(ic.Pv R (h.1 H1.out).1).mono fun e w'' ⟨a,cap,e1,e2,e3,e4⟩=>⟨_,e1,(RL w p q lo c D D).below e4,a,cap,rfl,e2,fun b off e=>by
  obtain⟨_,⟨lab,aa,ea,hw⟩,_,_⟩:=h.1 H1.out
  have:=hw.lq.1
  have:=hw.wb.lt
  have:=e3 b off e
  omega⟩
 have HIn:∀w',(RL w p q lo c D D).r w1 w'→∀ad cap,Row w' .i64 ad (ints D.ring)→Calls Tryz.prog 24 #[.slice ad D.ring.length cap,.slice ra D.ring.length rc] w' fun e w''=>e=.returned (.bool true)∧(RL w p q lo c D D).r w' w'':=fun w' h ad cap hr=>(Cg _ _ _ _ _ _ (aC _) hr (HNs.out w' h).rg (by have:=HL.out.1;omega)).mono fun e w'' ⟨e1,e2⟩=>⟨e1,(RL w p q lo c D D).below e2.new⟩
 clear hn HDo
 go_wp2_with fail
 refine TX.fq [TX.au.is (.pointer (some ⟨p.a,0,none⟩)),TX.au.is (.int .i64 (D.parity)),TX.au.is (.pointer (some ⟨q,0,none⟩)),TX.au.is (.pointer (some ⟨q,0,none⟩)),TX.au.is (.pointer (some ⟨q,2,none⟩)),TX.au.is (.int .i64 (D.parity)),TX.au.is (.bool false),TX.au.is (.bool false),TX.au.is (.pointer (some ⟨p.a,0,none⟩)),TX.au.is (.int .i64 (D.phase)),TX.au.is (.pointer (some ⟨q,0,none⟩)),TX.au.is (.pointer (some ⟨q,0,none⟩)),TX.au.is (.pointer (some ⟨q,3,none⟩)),TX.au.is (.int .i64 (D.phase)),TX.au.is (.bool false),TX.au.is (.bool false),TX.au.is (.bool false),TX.au.is (.int .i64 (D.cursor)),TX.au.is (.pointer (some ⟨q,0,none⟩)),TX.au.is (.pointer (some ⟨q,0,none⟩)),TX.au.is (.pointer (some ⟨q,4,none⟩)),TX.au.is (.int .i64 (D.cursor)),TX.au.is (.bool false),TX.au.is (.bool false),TX.au.is (.bool false),TX.au.is (.int .i64 (D.field)),TX.au.is (.pointer (some ⟨q,0,none⟩)),TX.au.is (.pointer (some ⟨q,0,none⟩)),TX.au.is (.pointer (some ⟨q,5,none⟩)),TX.au.is (.int .i64 (D.field)),TX.au.is (.bool false),TX.au.is (.bool false),TX.au.is (.bool false),TX.au.is (.pointer (some ⟨p.a,0,none⟩)),TX.au.is (.int .i64 (D.scan)),TX.au.is (.pointer (some ⟨q,0,none⟩)),TX.au.is (.pointer (some ⟨q,0,none⟩)),TX.au.is (.pointer (some ⟨q,6,none⟩)),TX.au.is (.int .i64 (D.scan)),TX.au.is (.bool false),TX.au.is (.bool false),TX.au.is (.bool false),TX.au.is (.pointer (some ⟨p.a,0,none⟩)),TX.au.is (.int .i64 (D.scanF)),TX.au.is (.pointer (some ⟨q,0,none⟩)),TX.au.is (.pointer (some ⟨q,0,none⟩)),TX.au.is (.pointer (some ⟨q,7,none⟩)),TX.au.is (.int .i64 (D.scanF)),TX.au.is (.bool false),TX.au.is (.bool false),TX.au.is (.bool false),TX.au.is (.pointer (some ⟨p.a,0,none⟩)),yu w p q lo c D D D.ring HX.out,TX.au.is (.pointer (some ⟨q,0,none⟩)),TX.au.is (.pointer (some ⟨q,0,none⟩)),TX.au.is (.pointer (some ⟨q,11,none⟩)),TX.au.is (.slice ra D.ring.length rc),TX.au.is (.bool true),TX.au.is (.bool false),TX.au.is (.bool false)] (by kernel_rfl) (by kernel_rfl) rfl (by kernel_rfl) (fun ops K2 hops hK=> ?_)
 refine TX.ae (TX.ak rfl) (fun w' hC hd=>TX.aD _ (.inl rfl) rfl) (by go_frame;rfl) (by simp only[List.nil_append,List.cons_append];rfl) ?_
 refine TX.ae (TX.ak rfl) (fun w' hC hd=>TX.aA 14 (.pointer (some ⟨p.a,0,none⟩)) rfl (fun ρ hρ hf e0=>TX.dP (f:=95) (by go_simp) (HPar w' hC))) (by go_frame;rfl) (by simp only[List.nil_append,List.cons_append];rfl) ?_
 refine TX.ae (TX.ak rfl) (fun w' hC hd=>TX.aD _ (.inl rfl) rfl) (by go_frame;rfl) (by simp only[List.nil_append,List.cons_append];rfl) ?_
 refine TX.ae (TX.ak rfl) (fun w' hC hd=>TX.aA 16 (.pointer (some ⟨q,0,none⟩)) rfl (fun ρ hρ hf e0=>TX.aB (by go_simp))) (by go_frame;rfl) (by simp only[List.nil_append,List.cons_append];rfl) ?_
 refine TX.ae (TX.ak rfl) (fun w' hC hd=>TX.aA 17 (.pointer (some ⟨q,0,none⟩)) rfl (fun ρ hρ hf e0=>TX.aB (by go_simp))) (by go_frame;rfl) (by simp only[List.nil_append,List.cons_append];rfl) ?_
 refine TX.ae (TX.ak rfl) (fun w' hC hd=>TX.aA 18 (.pointer (some ⟨q,2,none⟩)) rfl (fun ρ hρ hf e0=>TX.aB (by have hc0:=cc2 w' hC;go_simp))) (by go_frame;rfl) (by simp only[List.nil_append,List.cons_append];rfl) ?_
 refine TX.ae (TX.ak rfl) (fun w' hC hd=>TX.fV 15 (.int .i64 (D.parity)) 19 (.int .i64 (D.parity)) rfl rfl (fun ρ hρ hf e0 e1=>TX.aB (by have hb0:=(show((D.parity:Int)!=D.parity)=false by simp);go_simp))) (by go_frame;rfl) (by simp only[List.nil_append,List.cons_append];rfl) ?_
 refine TX.ae (TX.ak rfl) (fun w' hC hd=>TX.aD _ (.inl rfl) rfl) (by go_frame;rfl) (by simp only[List.nil_append,List.cons_append];rfl) ?_
 refine TX.ae (TX.aF hops rfl rfl rfl rfl) (fun w' hC hd=>TX.aD _ (.inl rfl) rfl) (by go_frame;rfl) (by simp only[List.nil_append,List.cons_append];rfl) ?_
 refine TX.ae (TX.aF hops rfl rfl rfl rfl) (fun w' hC hd=>TX.aA 22 (.pointer (some ⟨p.a,0,none⟩)) rfl (fun ρ hρ hf e0=>TX.dP (f:=48) (by go_simp) (HPh w' hC))) (by go_frame;rfl) (by simp only[List.nil_append,List.cons_append];rfl) ?_
 refine TX.ae (TX.aF hops rfl rfl rfl rfl) (fun w' hC hd=>TX.aD _ (.inl rfl) rfl) (by go_frame;rfl) (by simp only[List.nil_append,List.cons_append];rfl) ?_
 refine TX.ae (TX.aF hops rfl rfl rfl rfl) (fun w' hC hd=>TX.aA 24 (.pointer (some ⟨q,0,none⟩)) rfl (fun ρ hρ hf e0=>TX.aB (by go_simp))) (by go_frame;rfl) (by simp only[List.nil_append,List.cons_append];rfl) ?_
 refine TX.ae (TX.aF hops rfl rfl rfl rfl) (fun w' hC hd=>TX.aA 25 (.pointer (some ⟨q,0,none⟩)) rfl (fun ρ hρ hf e0=>TX.aB (by go_simp))) (by go_frame;rfl) (by simp only[List.nil_append,List.cons_append];rfl) ?_
 refine TX.ae (TX.aF hops rfl rfl rfl rfl) (fun w' hC hd=>TX.aA 26 (.pointer (some ⟨q,3,none⟩)) rfl (fun ρ hρ hf e0=>TX.aB (by have hc0:=cc3 w' hC;go_simp))) (by go_frame;rfl) (by simp only[List.nil_append,List.cons_append];rfl) ?_
 refine TX.ae (TX.aF hops rfl rfl rfl rfl) (fun w' hC hd=>TX.fV 23 (.int .i64 (D.phase)) 27 (.int .i64 (D.phase)) rfl rfl (fun ρ hρ hf e0 e1=>TX.aB (by have hb0:=(show((D.phase:Int)!=D.phase)=false by simp);go_simp))) (by go_frame;rfl) (by simp only[List.nil_append,List.cons_append];rfl) ?_
 refine TX.ae (TX.ak rfl) (fun w' hC hd=>TX.gQ _ _ _ false rfl rfl rfl) (by go_frame;rfl) (by simp only[List.nil_append,List.cons_append];rfl) ?_
 refine TX.ae (TX.ak rfl) (fun w' hC hd=>TX.aD _ (.inl rfl) rfl) (by go_frame;rfl) (by simp only[List.nil_append,List.cons_append];rfl) ?_
 refine TX.ae (TX.aF hops rfl rfl rfl rfl) (fun w' hC hd=>TX.aD _ (.inl rfl) rfl) (by go_frame;rfl) (by simp only[List.nil_append,List.cons_append];rfl) ?_
 refine TX.ae (TX.aF hops rfl rfl rfl rfl) (fun w' hC hd=>TX.aD _ (.inl rfl) rfl) (by go_frame;rfl) (by simp only[List.nil_append,List.cons_append];rfl) ?_
 refine TX.ae (TX.aF hops rfl rfl rfl rfl) (fun w' hC hd=>TX.aA 32 (.pointer (some ⟨q,0,none⟩)) rfl (fun ρ hρ hf e0=>TX.aB (by go_simp))) (by go_frame;rfl) (by simp only[List.nil_append,List.cons_append];rfl) ?_
 refine TX.ae (TX.aF hops rfl rfl rfl rfl) (fun w' hC hd=>TX.aA 33 (.pointer (some ⟨q,0,none⟩)) rfl (fun ρ hρ hf e0=>TX.aB (by go_simp))) (by go_frame;rfl) (by simp only[List.nil_append,List.cons_append];rfl) ?_
 refine TX.ae (TX.aF hops rfl rfl rfl rfl) (fun w' hC hd=>TX.aA 34 (.pointer (some ⟨q,4,none⟩)) rfl (fun ρ hρ hf e0=>TX.aB (by have hc0:=cc4 w' hC;go_simp))) (by go_frame;rfl) (by simp only[List.nil_append,List.cons_append];rfl) ?_
 refine TX.ae (TX.aF hops rfl rfl rfl rfl) (fun w' hC hd=>TX.fV 31 (.int .i64 (D.cursor)) 35 (.int .i64 (D.cursor)) rfl rfl (fun ρ hρ hf e0 e1=>TX.aB (by have hb0:=(show((D.cursor:Int)!=D.cursor)=false by simp);go_simp))) (by go_frame;rfl) (by simp only[List.nil_append,List.cons_append];rfl) ?_
 refine TX.ae (TX.ak rfl) (fun w' hC hd=>TX.gQ _ _ _ false rfl rfl rfl) (by go_frame;rfl) (by simp only[List.nil_append,List.cons_append];rfl) ?_
 refine TX.ae (TX.ak rfl) (fun w' hC hd=>TX.aD _ (.inl rfl) rfl) (by go_frame;rfl) (by simp only[List.nil_append,List.cons_append];rfl) ?_
 refine TX.ae (TX.aF hops rfl rfl rfl rfl) (fun w' hC hd=>TX.aD _ (.inl rfl) rfl) (by go_frame;rfl) (by simp only[List.nil_append,List.cons_append];rfl) ?_
 refine TX.ae (TX.aF hops rfl rfl rfl rfl) (fun w' hC hd=>TX.aD _ (.inl rfl) rfl) (by go_frame;rfl) (by simp only[List.nil_append,List.cons_append];rfl) ?_
 refine TX.ae (TX.aF hops rfl rfl rfl rfl) (fun w' hC hd=>TX.aA 40 (.pointer (some ⟨q,0,none⟩)) rfl (fun ρ hρ hf e0=>TX.aB (by go_simp))) (by go_frame;rfl) (by simp only[List.nil_append,List.cons_append];rfl) ?_
 refine TX.ae (TX.aF hops rfl rfl rfl rfl) (fun w' hC hd=>TX.aA 41 (.pointer (some ⟨q,0,none⟩)) rfl (fun ρ hρ hf e0=>TX.aB (by go_simp))) (by go_frame;rfl) (by simp only[List.nil_append,List.cons_append];rfl) ?_
 refine TX.ae (TX.aF hops rfl rfl rfl rfl) (fun w' hC hd=>TX.aA 42 (.pointer (some ⟨q,5,none⟩)) rfl (fun ρ hρ hf e0=>TX.aB (by have hc0:=cc5 w' hC;go_simp))) (by go_frame;rfl) (by simp only[List.nil_append,List.cons_append];rfl) ?_
 refine TX.ae (TX.aF hops rfl rfl rfl rfl) (fun w' hC hd=>TX.fV 39 (.int .i64 (D.field)) 43 (.int .i64 (D.field)) rfl rfl (fun ρ hρ hf e0 e1=>TX.aB (by have hb0:=(show((D.field:Int)!=D.field)=false by simp);go_simp))) (by go_frame;rfl) (by simp only[List.nil_append,List.cons_append];rfl) ?_
 refine TX.ae (TX.ak rfl) (fun w' hC hd=>TX.gQ _ _ _ false rfl rfl rfl) (by go_frame;rfl) (by simp only[List.nil_append,List.cons_append];rfl) ?_
 refine TX.ae (TX.ak rfl) (fun w' hC hd=>TX.aD _ (.inl rfl) rfl) (by go_frame;rfl) (by simp only[List.nil_append,List.cons_append];rfl) ?_
 refine TX.ae (TX.aF hops rfl rfl rfl rfl) (fun w' hC hd=>TX.aD _ (.inl rfl) rfl) (by go_frame;rfl) (by simp only[List.nil_append,List.cons_append];rfl) ?_
 refine TX.ae (TX.aF hops rfl rfl rfl rfl) (fun w' hC hd=>TX.aA 47 (.pointer (some ⟨p.a,0,none⟩)) rfl (fun ρ hρ hf e0=>TX.dP (f:=117) (args:= #[.pointer (some ⟨p.a,0,none⟩),.int .i64 14]) (by go_simp) (HS14 w' hC))) (by go_frame;rfl) (by simp only[List.nil_append,List.cons_append];rfl) ?_
 refine TX.ae (TX.aF hops rfl rfl rfl rfl) (fun w' hC hd=>TX.aD _ (.inl rfl) rfl) (by go_frame;rfl) (by simp only[List.nil_append,List.cons_append];rfl) ?_
 refine TX.ae (TX.aF hops rfl rfl rfl rfl) (fun w' hC hd=>TX.aA 49 (.pointer (some ⟨q,0,none⟩)) rfl (fun ρ hρ hf e0=>TX.aB (by go_simp))) (by go_frame;rfl) (by simp only[List.nil_append,List.cons_append];rfl) ?_
 refine TX.ae (TX.aF hops rfl rfl rfl rfl) (fun w' hC hd=>TX.aA 50 (.pointer (some ⟨q,0,none⟩)) rfl (fun ρ hρ hf e0=>TX.aB (by go_simp))) (by go_frame;rfl) (by simp only[List.nil_append,List.cons_append];rfl) ?_
 refine TX.ae (TX.aF hops rfl rfl rfl rfl) (fun w' hC hd=>TX.aA 51 (.pointer (some ⟨q,6,none⟩)) rfl (fun ρ hρ hf e0=>TX.aB (by have hc0:=cc6 w' hC;go_simp))) (by go_frame;rfl) (by simp only[List.nil_append,List.cons_append];rfl) ?_
 refine TX.ae (TX.aF hops rfl rfl rfl rfl) (fun w' hC hd=>TX.fV 48 (.int .i64 (D.scan)) 52 (.int .i64 (D.scan)) rfl rfl (fun ρ hρ hf e0 e1=>TX.aB (by have hb0:=(show((D.scan:Int)!=D.scan)=false by simp);go_simp))) (by go_frame;rfl) (by simp only[List.nil_append,List.cons_append];rfl) ?_
 refine TX.ae (TX.ak rfl) (fun w' hC hd=>TX.gQ _ _ _ false rfl rfl rfl) (by go_frame;rfl) (by simp only[List.nil_append,List.cons_append];rfl) ?_
 refine TX.ae (TX.ak rfl) (fun w' hC hd=>TX.aD _ (.inl rfl) rfl) (by go_frame;rfl) (by simp only[List.nil_append,List.cons_append];rfl) ?_
 refine TX.ae (TX.aF hops rfl rfl rfl rfl) (fun w' hC hd=>TX.aD _ (.inl rfl) rfl) (by go_frame;rfl) (by simp only[List.nil_append,List.cons_append];rfl) ?_
 refine TX.ae (TX.aF hops rfl rfl rfl rfl) (fun w' hC hd=>TX.aA 56 (.pointer (some ⟨p.a,0,none⟩)) rfl (fun ρ hρ hf e0=>TX.dP (f:=117) (args:= #[.pointer (some ⟨p.a,0,none⟩),.int .i64 15]) (by go_simp) (HS15 w' hC))) (by go_frame;rfl) (by simp only[List.nil_append,List.cons_append];rfl) ?_
 refine TX.ae (TX.aF hops rfl rfl rfl rfl) (fun w' hC hd=>TX.aD _ (.inl rfl) rfl) (by go_frame;rfl) (by simp only[List.nil_append,List.cons_append];rfl) ?_
 refine TX.ae (TX.aF hops rfl rfl rfl rfl) (fun w' hC hd=>TX.aA 58 (.pointer (some ⟨q,0,none⟩)) rfl (fun ρ hρ hf e0=>TX.aB (by go_simp))) (by go_frame;rfl) (by simp only[List.nil_append,List.cons_append];rfl) ?_
 refine TX.ae (TX.aF hops rfl rfl rfl rfl) (fun w' hC hd=>TX.aA 59 (.pointer (some ⟨q,0,none⟩)) rfl (fun ρ hρ hf e0=>TX.aB (by go_simp))) (by go_frame;rfl) (by simp only[List.nil_append,List.cons_append];rfl) ?_
 refine TX.ae (TX.aF hops rfl rfl rfl rfl) (fun w' hC hd=>TX.aA 60 (.pointer (some ⟨q,7,none⟩)) rfl (fun ρ hρ hf e0=>TX.aB (by have hc0:=cc7 w' hC;go_simp))) (by go_frame;rfl) (by simp only[List.nil_append,List.cons_append];rfl) ?_
 refine TX.ae (TX.aF hops rfl rfl rfl rfl) (fun w' hC hd=>TX.fV 57 (.int .i64 (D.scanF)) 61 (.int .i64 (D.scanF)) rfl rfl (fun ρ hρ hf e0 e1=>TX.aB (by have hb0:=(show((D.scanF:Int)!=D.scanF)=false by simp);go_simp))) (by go_frame;rfl) (by simp only[List.nil_append,List.cons_append];rfl) ?_
 refine TX.ae (TX.ak rfl) (fun w' hC hd=>TX.gQ _ _ _ false rfl rfl rfl) (by go_frame;rfl) (by simp only[List.nil_append,List.cons_append];rfl) ?_
 refine TX.ae (TX.ak rfl) (fun w' hC hd=>TX.aD _ (.inl rfl) rfl) (by go_frame;rfl) (by simp only[List.nil_append,List.cons_append];rfl) ?_
 refine TX.ae (TX.aF hops rfl rfl rfl rfl) (fun w' hC hd=>TX.aD _ (.inl rfl) rfl) (by go_frame;rfl) (by simp only[List.nil_append,List.cons_append];rfl) ?_
 refine sG (TX.aF hops rfl rfl rfl rfl) (fun w' hC hd=>TX.aA 65 (.pointer (some ⟨p.a,0,none⟩)) rfl (fun ρ hρ hf e0=>mV (f:=118) (by go_simp) (HLi w' hC))) (fun ad cap=>(by go_frame;rfl)) (fun ad=>(by simp only[List.nil_append,List.cons_append];rfl)) (fun ad6 cap6=> ?_)
 refine TX.ae (TX.aF hops rfl rfl rfl rfl) (fun w' hC hd=>TX.aD _ (.inl rfl) rfl) (by go_frame;rfl) (by simp only[List.nil_append,List.cons_append];rfl) ?_
 refine TX.ae (TX.aF hops rfl rfl rfl rfl) (fun w' hC hd=>TX.aA 67 (.pointer (some ⟨q,0,none⟩)) rfl (fun ρ hρ hf e0=>TX.aB (by go_simp))) (by go_frame;rfl) (by simp only[List.nil_append,List.cons_append];rfl) ?_
 refine TX.ae (TX.aF hops rfl rfl rfl rfl) (fun w' hC hd=>TX.aA 68 (.pointer (some ⟨q,0,none⟩)) rfl (fun ρ hρ hf e0=>TX.aB (by go_simp))) (by go_frame;rfl) (by simp only[List.nil_append,List.cons_append];rfl) ?_
 refine TX.ae (TX.aF hops rfl rfl rfl rfl) (fun w' hC hd=>TX.aA 69 (.pointer (some ⟨q,11,none⟩)) rfl (fun ρ hρ hf e0=>TX.aB (by have hc0:=cc11 w' hC;go_simp))) (by go_frame;rfl) (by simp only[List.nil_append,List.cons_append];rfl) ?_
 refine TX.ae (TX.aF hops rfl rfl rfl rfl) (fun w' hC hd=>TX.fV 66 (.slice ad6 D.ring.length cap6) 70 (.slice ra D.ring.length rc) rfl rfl (fun ρ hρ hf e0 e1=>TX.dP (f:=24) (by go_simp) (HIn w' hC ad6 cap6 (hd 52 (by kernel_rfl)).1))) (by go_frame;rfl) (by simp only[List.nil_append,List.cons_append];rfl) ?_
 refine TX.ae (TX.aF hops rfl rfl rfl rfl) (fun w' hC hd=>TX.aA 71 (.bool true) rfl (fun ρ hρ hf e0=>TX.aB (by go_simp))) (by go_frame;rfl) (by simp only[List.nil_append,List.cons_append];rfl) ?_
 refine TX.ae (TX.ak rfl) (fun w' hC hd=>TX.gQ _ _ _ false rfl rfl rfl) (by go_frame;rfl) (by simp only[List.nil_append,List.cons_append];rfl) ?_
 refine TX.kg (fun w2 hC hk=>hK _ _ ?_)
 have H2:=hid (hC.1 H1.out)
 have HT2:=hid (HT1.out.trans hC.2)
 clear hC hk hK cc2 cc3 cc4 cc5 cc6 cc7 cc11 HPar HPh HS14 HS15 HLi HIn
 have HIR:Hid (∀k,k<D.refs.length→In64 (nth D.refs k)):=hid (fun k hk=>AR HL.out.2.2 hk)
 have HLn:Hid (D.refs.length≤8000):=hid (Nat.le_trans (yh _) HL.out.2.1)
 have HRf:=hid (H2.out.2.1.refs (by have:=HL.out.2.1;omega))
 go_wp2_with fail
 refine HRf.out.mono ?_
 rintro e w3 ⟨ar,cr,rfl,hr,hf,hb⟩
 have H3:=hid (H2.out.later hb)
 have HT3:=hid (HT2.out.trans (Touch.of_below hb))
 have HR3:=hid hr
 have HF3:Hid (lC (ah p) ar D.refs):=hid (fun _ b off e hx=>H2.out.1.Vu (hf b off e) (Or.inr hx))
 clear hr hf hb HRf
 go_wp2_with fail
 go_loopw [77] (fun s wx=>∃k:Nat,k≤D.refs.length∧s=.int .i64 (k:Int)∧qA w p q lo c D D wx∧Touch (ah p) wr wx∧Row wx .i64 ar D.refs) (fun s _=>D.refs.length-(intOf s).toNat)
 case atStart=>exact⟨0,Nat.zero_le _,rfl,H3.out,HT3.out,HR3.out⟩
 case round=>
  obtain⟨k,hk,rfl,hS,hT,hR⟩:=hrel
  have H4:=hid hS
  have HT4:=hid hT
  have HR4:=hid hR
  clear hS hT hR
  by_cases hlt:k<D.refs.length
  ·obtain⟨bb,off,rfl,hbb,hc⟩:=HR4.out k hlt
   have h64:=hid (HIR.out k hlt)
   have hk8:k<8000:=by have:=HLn.out;omega
   generalize nth D.refs k=r at*
   have n1:(D.fB r !=D.fB r)=false:=by simp
   have n2:(D.dead r !=D.dead r)=false:=by simp
   have n3:(D.fE r !=D.fE r)=false:=by simp
   have n4:(D.counted r 0 !=D.counted r 0)=false:=by simp
   have HK1:=hid (T.fB c D r h64.out)
   have HK2:=hid (T.dead c D r h64.out)
   have HK3:=hid (T.shadow c D r h64.out)
   have HK4:=hid (T.counted c D r 0 h64.out)
   go_wp2_with fail
   refine(H4.out.does HK1.out).mono ?_
   rintro e w5 ⟨rfl,hS,hT⟩
   have H5:=hid hS
   have HT5:=hid (HT4.out.trans hT)
   have HTx5:=hid (hT)
   clear hS hT
   go_wp2_with fail
   refine(H5.out.2.1.fB r).mono ?_
   rintro e w6 ⟨rfl,hd⟩
   have H6:=hid (H5.out.later hd.new)
   have HT6:=hid (HT5.out.trans (Touch.of_below hd.new))
   have HTx6:=hid (HTx5.out.trans (Touch.of_below hd.new))
   clear hd
   go_wp2_with fail
   refine(H6.out.does HK2.out).mono ?_
   rintro e w7 ⟨rfl,hS,hT⟩
   have H7:=hid hS
   have HT7:=hid (HT6.out.trans hT)
   have HTx7:=hid (HTx6.out.trans hT)
   clear hS hT
   go_wp2_with fail
   refine(H7.out.2.1.dead r).mono ?_
   rintro e w8 ⟨rfl,hd⟩
   have H8:=hid (H7.out.later hd.new)
   have HT8:=hid (HT7.out.trans (Touch.of_below hd.new))
   have HTx8:=hid (HTx7.out.trans (Touch.of_below hd.new))
   clear hd
   go_wp2_with fail
   refine(H8.out.does HK3.out).mono ?_
   rintro e w9 ⟨rfl,hS,hT⟩
   have H9:=hid hS
   have HT9:=hid (HT8.out.trans hT)
   have HTx9:=hid (HTx8.out.trans hT)
   clear hS hT
   go_wp2_with fail
   refine(H9.out.2.1.fE r).mono ?_
   rintro e w10 ⟨rfl,hd⟩
   have H10:=hid (H9.out.later hd.new)
   have HT10:=hid (HT9.out.trans (Touch.of_below hd.new))
   have HTx10:=hid (HTx9.out.trans (Touch.of_below hd.new))
   clear hd
   go_wp2_with fail
   refine(H10.out.does HK4.out).mono ?_
   rintro e w11 ⟨rfl,hS,hT⟩
   have H11:=hid hS
   have HT11:=hid (HT10.out.trans hT)
   have HTx11:=hid (HTx10.out.trans hT)
   clear hS hT
   go_wp2_with fail
   refine(H11.out.2.1.counted r 0).mono ?_
   rintro e w12 ⟨rfl,hd⟩
   have H12:=hid (H11.out.later hd.new)
   have HT12:=hid (HT11.out.trans (Touch.of_below hd.new))
   have HTx12:=hid (HTx11.out.trans (Touch.of_below hd.new))
   clear hd
   go_wp2_with fail
   go_roundw
   case rel=>exact⟨k+1,by omega,by go_num,H12.out,HT12.out,HR4.out.touch HTx12.out HF3.out⟩
   case measure=>simp[intOf];omega
  ·go_wp2_with fail
   go_ret
   exact⟨rfl,H4.out,HT4.out⟩
end Go.Proofs.YtjmifnljckmimaaGreat.Pk
