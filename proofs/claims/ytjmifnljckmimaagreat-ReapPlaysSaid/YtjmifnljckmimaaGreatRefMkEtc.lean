/-
  Texts laid together: RefMk, RefMk2, Tint, TintMk, TintLaw.
-/
import Derived.Test.YtjmifnljckmimaaGreatRefWEtc
import Derived.Test.YtjmifnljckmimaaGreatRefShapeEtc
import Derived.Deep.AppendLies
import Derived.Deep.RegionLaw
import Derived.Deep.DeepCutAuto
import Derived.Test.YtjmifnljckmimaaGreatChainsEtc
namespace Go.Proofs.YtjmifnljckmimaaGreat.Pk
open Lib (hid)
open Go.RowKit
set_option linter.unusedVariables false
set_option linter.unusedSimpArgs false
set_option maxRecDepth 100000
section
variable {w w' w0 wr:World} {lo:Nat} {lab lab':Nat→Nat} {a:WA} {D:Wd} {i:Nat} {t:Th} {x:TA} {n v b:Nat} {cl:List Nat} {ts:List Th}
theorem mY.later(h:mY w lo lab a n v cl ts)(hb:Below w.heap.size w w'):mY w' lo lab a n v cl ts:=h.touch (X:=fun _=>False) (Touch.of_below hb) (fun _ _ _ _=>id)
theorem mY.FY(h:mY w lo lab a n v cl ts){ca:Option Addr}{cc:Nat}{l:List Nat}(hr:Row w .i64 ca (ints l))(hL:qZ w lo lab ca l.length 4):
  mY (w.setCell ⟨a.hb,2,none⟩ (.slice ca l.length cc)) lo lab {a with ca:=ca,cc:=cc} n v l ts:=by
 have T:fF lo lab 1 w (w.setCell ⟨a.hb,2,none⟩ (.slice ca l.length cc)):=fF.cell h.lh.1 h.lh.2 _
 have hsz:(w.setCell ⟨a.hb,2,none⟩ (.slice ca l.length cc)).heap.size=w.heap.size:=by simp
 exact⟨h.hb.put 2 _ rfl,h.lh,h.len,bR h.tv T (fun g hg h4=>by have:=h4.2.2;have:=(h.ltv g hg).2;omega),fun g hg=>⟨by rw[hsz];exact(h.ltv g hg).1,(h.ltv g hg).2⟩,fun j s y hs hy=>(h.th j s y hs hy).touch T (fun b _ _ h3 h4=>by have:=h4.2.2;omega),hr.touch T (hL.out (fun b _ _ h3 h4=>by have:=h4.2.2;omega)),hL.le T.size,h.bd⟩
theorem Oi(h:mY w lo lab a n v (b::cl) ts)(hn:cl.length≤8000):
  Calls Tryz.prog 203 #[.pointer (some ⟨a.hb,0,none⟩)] w fun e w'=>e=.returned (.int .i64 (b:Int))∧(∃lab' ca cc,(∀k,k<w.heap.size→lab' k=lab k)∧mY w' lo lab' {a with ca:=ca,cc:=cc} n v cl ts)∧Touch (fun k=>k=a.hb) w w':=by
 have c2:w.cell? ⟨a.hb,2,none⟩=some (.slice a.ca (b::cl).length a.cc):=h.c2
 have hr0:=h.crow 0 (by simp[ints])
 obtain⟨g,off,hca,hg,cg⟩:=hr0
 have cg':w.cell? ⟨g,off,none⟩=some (.int .i64 (b:Int)):=by simpa[ints,nth] using cg
 have HR:=hid (SQ a.ca a.cc b cl w h.crow (by simp only[List.length_cons];omega))
 have H:=hid h
 rw[hca] at c2 HR
 have hlen:(0:Int)<((b::cl).length:Int):=by simp only[List.length_cons];omega
 clear h cg hca
 go_enter Tryz.func203,Tryz.ntmps203
 go_wp2_with fail
 refine HR.out.mono ?_
 rintro e w1 ⟨ca,cc,rfl,hr,hf,hb⟩
 have hlo:lo≤w.heap.size:=Nat.le_of_lt (Nat.lt_of_le_of_lt H.out.lh.1 H.out.hb.lt)
 obtain⟨lab',h1,h2⟩:=xU (lab:=lab) hr hf hlo 4
 have HS:=hid (((H.out.re h1).later hb).FY (cc:=cc) hr h2)
 have HL:=hid h1
 have HT:=hid ((Touch.of_below (X:=fun k=>k=a.hb) hb).setCell (p:=⟨a.hb,2,none⟩) (fun _=>rfl) (.slice ca cl.length cc))
 have d2:w1.cell? ⟨a.hb,2,none⟩=some (.slice a.ca (b::cl).length a.cc):=(H.out.later hb).c2
 have fz:=(H.out.later hb).hb.free 2
 clear hr hf hb h1 h2 c2
 go_wp2_with fail
 go_ret
 exact⟨rfl,⟨lab',ca,cc,HL.out,HS.out⟩,HT.out⟩
def kH(m:Nat):List Int:=List.replicate m 0
theorem IW(m:Nat)(hn:m≤1000000)(w:World):(Instr.makeSlice 45 (.int .i64 (m:Int)) (.int .i64 (m:Int))).run Tryz.prog w=.ok (.slice (some ⟨w.heap.size,0,none⟩) m m) (w.alloc (.cells (pK (fun _=>.int .i64 0) m) 3)):=by
 obtain⟨i0,hi,hz0,hz1,hz2⟩:=info_parts jy
 have:=run_make w 45 3 i0 (.int .i64 0) Tryz.underlying45 hi hz0 .i64 .i64 (m:Int) (m:Int) (by omega) (Int.le_refl _) (by rw[hz2];omega) (by omega)
 rw[this,hz1,←OG _ rfl]
 simp
theorem Ka(m:Nat):words (List.replicate m 0)=pK (fun _=>.int .u32 0) m:=by
 unfold words pK
 congr 1
 apply List.ext_getElem<;>simp
theorem IV(m:Nat)(hn:m≤10000000)(w:World):(Instr.makeSlice 55 (.int .i64 (m:Int)) (.int .i64 (m:Int))).run Tryz.prog w=.ok (.slice (some ⟨w.heap.size,0,none⟩) m m) (w.alloc (.cells (pK (fun _=>.int .u32 0) m) 119)):=by
 have:=xO m hn w
 rwa[Ka] at this
theorem dZ.kH(w:World)(k:IntKind)(m:Nat)(t:TypeId):dZ (w.alloc (.cells (pK (fun _=>.int k 0) m) t)) k (some ⟨w.heap.size,0,none⟩) (kH m):=by
 by_cases hm:m=0
 ·subst hm;exact .inl rfl
 ·refine .inr ⟨w.heap.size,_,t,rfl,aT.new _ _ _,fun j hj=> ?_⟩
  have hj':j<m:=by simpa[Pk.kH] using hj
  rw[Ny hj']
  unfold nth Pk.kH
  simp[List.getD,hj']
def XH(w0:World)(lo:Nat)(lab:Nat→Nat)(hb k:Nat):Prop:=lo≤k∧(w0.heap.size≤k∨k=hb∨lab k=2)
def NS(w0 wr:World)(lo:Nat)(lab:Nat→Nat)(a:WA)(n v:Nat)(cl:List Nat)(ts:List Th)(op od:Option (Addr × Nat)):Prop:=
 ∃lab' ca cc,(∀k,k<w0.heap.size→lab' k=lab k)∧mY wr lo lab' {a with ca:=ca,cc:=cc} n v cl ts∧
  (∀p m,op=some (p,m)→dZ wr .i64 (some p) (kH m)∧qZ wr lo lab' (some p) m (10+5*ts.length))∧(∀p m,od=some (p,m)→dZ wr .u32 (some p) (kH m)∧qZ wr lo lab' (some p) m (11+5*ts.length))∧Touch (XH w0 lo lab a.hb) w0 wr
theorem NS.start(h:mY w lo lab a n v cl ts):NS w w lo lab a n v cl ts none none:=⟨lab,a.ca,a.cc,fun _ _=>rfl,h,fun _ _ e=>(by cases e),fun _ _ e=>(by cases e),Touch.refl _ _⟩
theorem NS.drew{op od:Option (Addr × Nat)}(h:NS w0 wr lo lab a n v cl ts op od):NS w0 wr.drew lo lab a n v cl ts op od:=by
 obtain⟨lab',ca,cc,h1,h2,h3,h4,h5⟩:=h
 have hb:Below wr.heap.size wr wr.drew:=⟨rfl,rfl,rfl,Nat.le_refl _,fun _ _=>rfl⟩
 exact⟨lab',ca,cc,h1,h2.later hb,fun p m e=>⟨(h3 p m e).1.later hb,(h3 p m e).2.le (Nat.le_refl _)⟩,fun p m e=>⟨(h4 p m e).1.later hb,(h4 p m e).2.le (Nat.le_refl _)⟩,h5.drew⟩
theorem NS.take{op od:Option (Addr × Nat)}(h:NS w0 wr lo lab a n v (b::cl) ts op od)(hn:cl.length≤8000):
  Calls Tryz.prog 203 #[.pointer (some ⟨a.hb,0,none⟩)] wr fun e w'=>e=.returned (.int .i64 (b:Int))∧NS w0 w' lo lab a n v cl ts op od:=by
 obtain⟨lab',ca,cc,h1,h2,h3,h4,h5⟩:=h
 refine(Oi h2 hn).mono ?_
 rintro e w' ⟨rfl,⟨lab2,ca2,cc2,k1,k2⟩,k3⟩
 have hlh:=h2.lh
 have hs:w0.heap.size≤wr.heap.size:=h5.size
 refine⟨rfl,lab2,ca2,cc2,fun k hk=>by rw[k1 k (by omega),h1 k hk],k2,fun p m e=> ?_,fun p m e=> ?_,h5.trans (k3.mono (fun k _ e=>by subst e;exact⟨hlh.1,.inr (.inl rfl)⟩))⟩
 ·obtain⟨g1,g2⟩:=h3 p m e
  exact⟨g1.touch k3 (g2.out (fun b _ _ e1 e2=>by subst e2;have:=hlh.2;simp at this;omega) (by simp[kH])),(g2.re k1).le k3.size⟩
 ·obtain⟨g1,g2⟩:=h4 p m e
  exact⟨g1.touch k3 (g2.out (fun b _ _ e1 e2=>by subst e2;have:=hlh.2;simp at this;omega) (by simp[kH])),(g2.re k1).le k3.size⟩
theorem NS.Wp{od:Option (Addr × Nat)}(h:NS w0 wr lo lab a n v cl ts none od)(m:Nat):NS w0 (wr.alloc (.cells (pK (fun _=>.int .i64 0) m) 3)) lo lab a n v cl ts (some (⟨wr.heap.size,0,none⟩,m)) od:=by
 obtain⟨lab',ca,cc,h1,h2,h3,h4,h5⟩:=h
 have hb:=below_new wr (.cells (pK (fun _=>.int .i64 0) m) 3)
 have hs:w0.heap.size≤wr.heap.size:=h5.size
 have hlo:lo≤wr.heap.size:=Nat.le_of_lt (Nat.lt_of_le_of_lt h2.lh.1 h2.hb.lt)
 have hl:∀k,k<wr.heap.size→(fun k=>if k=wr.heap.size then 10+5*ts.length else lab' k) k=lab' k:=fun k hk=>if_neg (by omega)
 refine⟨fun k=>if k=wr.heap.size then 10+5*ts.length else lab' k,ca,cc,fun k hk=>by rw[hl k (by omega)];exact h1 k hk,(h2.re hl).later hb,fun p m' e=> ?_,fun p m' e=>⟨(h4 p m' e).1.later hb,((h4 p m' e).2.re hl).le hb.size⟩,h5.alloc _⟩
 cases e
 exact⟨dZ.kH _ _ _ _,fun _ b off e=>by cases e;exact⟨hlo,by simp,if_pos rfl⟩⟩
theorem NS.Wo{op:Option (Addr × Nat)}(h:NS w0 wr lo lab a n v cl ts op none)(m:Nat):NS w0 (wr.alloc (.cells (pK (fun _=>.int .u32 0) m) 119)) lo lab a n v cl ts op (some (⟨wr.heap.size,0,none⟩,m)):=by
 obtain⟨lab',ca,cc,h1,h2,h3,h4,h5⟩:=h
 have hb:=below_new wr (.cells (pK (fun _=>.int .u32 0) m) 119)
 have hs:w0.heap.size≤wr.heap.size:=h5.size
 have hlo:lo≤wr.heap.size:=Nat.le_of_lt (Nat.lt_of_le_of_lt h2.lh.1 h2.hb.lt)
 have hl:∀k,k<wr.heap.size→(fun k=>if k=wr.heap.size then 11+5*ts.length else lab' k) k=lab' k:=fun k hk=>if_neg (by omega)
 refine⟨fun k=>if k=wr.heap.size then 11+5*ts.length else lab' k,ca,cc,fun k hk=>by rw[hl k (by omega)];exact h1 k hk,(h2.re hl).later hb,fun p m' e=>⟨(h3 p m' e).1.later hb,((h3 p m' e).2.re hl).le hb.size⟩,fun p m' e=> ?_,h5.alloc _⟩
 cases e
 exact⟨dZ.kH _ _ _ _,fun _ b off e=>by cases e;exact⟨hlo,by simp,if_pos rfl⟩⟩
def MS(w0 wr:World)(lo:Nat)(lab:Nat→Nat)(a:WA)(n v:Nat)(cl:List Nat)(ts:List Th)(tb:Nat)(pa da:Addr)(h np nd:Nat)(lv:List Int)(lav:Value):Prop:=
 ∃lab' ca cc,(∀k,k<w0.heap.size→lab' k=lab k)∧mY wr lo lab' {a with ca:=ca,cc:=cc} n v cl ts∧aT wr tb #[.int .i64 (h:Int),lav,.slice (some pa) np np,.slice (some da) nd nd,.bool false] 100∧(lo≤tb∧lab' tb=7+5*ts.length)∧w0.heap.size≤tb∧
  dZ wr .i64 (some pa) (kH np)∧qZ wr lo lab' (some pa) np (10+5*ts.length)∧dZ wr .u32 (some da) (kH nd)∧qZ wr lo lab' (some da) nd (11+5*ts.length)∧
  wr.ownsRow lo 3 1 lav lv.length (lv.map (Value.int .i64))∧(∀g,lav.ownBlock=some g→g<wr.heap.size∧lab' g=9+5*ts.length)∧(∀g,lav.ownBlock=some g→w0.heap.size≤g)∧Touch (XH w0 lo lab a.hb) w0 wr
theorem NS.box{p d:Addr}{np nd h:Nat}(H:NS w0 wr lo lab a n v cl ts (some (p,np)) (some (d,nd))):
  MS w0 (wr.alloc (.cells #[.int .i64 (h:Int),.slice none 0 0,.slice (some p) np np,.slice (some d) nd nd,.bool false] 100)) lo lab a n v cl ts wr.heap.size p d h np nd [] (.slice none 0 0):=by
 obtain⟨lab',ca,cc,h1,h2,h3,h4,h5⟩:=H
 obtain⟨p1,p2⟩:=h3 _ _ rfl
 obtain⟨d1,d2⟩:=h4 _ _ rfl
 have hb:=below_new wr (.cells #[.int .i64 (h:Int),.slice none 0 0,.slice (some p) np np,.slice (some d) nd nd,.bool false] 100)
 have hs:w0.heap.size≤wr.heap.size:=h5.size
 have hlo:lo≤wr.heap.size:=Nat.le_of_lt (Nat.lt_of_le_of_lt h2.lh.1 h2.hb.lt)
 have hl:∀k,k<wr.heap.size→(fun k=>if k=wr.heap.size then 7+5*ts.length else lab' k) k=lab' k:=fun k hk=>if_neg (by omega)
 exact⟨fun k=>if k=wr.heap.size then 7+5*ts.length else lab' k,ca,cc,fun k hk=>by rw[hl k (by omega)];exact h1 k hk,(h2.re hl).later hb,aT.new _ _ _,⟨hlo,if_pos rfl⟩,hs,p1.later hb,(p2.re hl).le hb.size,d1.later hb,(d2.re hl).le hb.size,World.ownsRow_nil _ _ _ _,fun g hg=>(by cases hg),fun g hg=>(by cases hg),h5.alloc _⟩
theorem NS.TL{od:Option (Addr × Nat)}{m:Nat}{p:Addr}(h:NS w0 wr lo lab a n v cl ts none od)(hp:p=⟨wr.heap.size,0,none⟩):NS w0 (wr.alloc (.cells (pK (fun _=>.int .i64 0) m) 3)) lo lab a n v cl ts (some (p,m)) od:=by
 subst hp;exact h.Wp m
theorem NS.TK{op:Option (Addr × Nat)}{m:Nat}{p:Addr}(h:NS w0 wr lo lab a n v cl ts op none)(hp:p=⟨wr.heap.size,0,none⟩):NS w0 (wr.alloc (.cells (pK (fun _=>.int .u32 0) m) 119)) lo lab a n v cl ts op (some (p,m)):=by
 subst hp;exact h.Wo m
theorem NS.WE{p d:Addr}{np nd h tb:Nat}(ht:tb=wr.heap.size)(H:NS w0 wr lo lab a n v cl ts (some (p,np)) (some (d,nd))):
  MS w0 (wr.alloc (.cells #[.int .i64 (h:Int),.slice none 0 0,.slice (some p) np np,.slice (some d) nd nd,.bool false] 100)) lo lab a n v cl ts tb p d h np nd [] (.slice none 0 0):=by
 subst ht;exact H.box
theorem MS.take{tb np nd h:Nat}{pa da:Addr}{lv:List Int}{lav:Value}(H:MS w0 wr lo lab a n v (b::cl) ts tb pa da h np nd lv lav)(hn:cl.length≤8000):
  Calls Tryz.prog 203 #[.pointer (some ⟨a.hb,0,none⟩)] wr fun e w'=>e=.returned (.int .i64 (b:Int))∧MS w0 w' lo lab a n v cl ts tb pa da h np nd lv lav:=by
 obtain⟨lab',ca,cc,h1,h2,h3,h4,ht0,h5,h6,h7,h8,h9,h10,hl0,h11⟩:=H
 refine(Oi h2 hn).mono ?_
 rintro e w' ⟨rfl,⟨lab2,ca2,cc2,k1,k2⟩,k3⟩
 have hlh:=h2.lh
 simp only at hlh
 have hs:w0.heap.size≤wr.heap.size:=h11.size
 have ho:=bR h9 k3 (fun g hg e=>by have:=(h10 g hg).2;simp only at e;rw[e] at this;omega)
 exact⟨rfl,lab2,ca2,cc2,fun k hk=>by rw[k1 k (by omega),h1 k hk],k2,h3.touch k3 (fun e=>by have:=h4.2;simp only at e;rw[e] at this;omega),⟨h4.1,by rw[k1 _ h3.lt];exact h4.2⟩,ht0,h5.touch k3 (h6.out (fun b _ _ e1 e2=>by simp only at e2;rw[e2] at e1;omega) (by simp[kH])),(h6.re k1).le k3.size,h7.touch k3 (h8.out (fun b _ _ e1 e2=>by simp only at e2;rw[e2] at e1;omega) (by simp[kH])),(h8.re k1).le k3.size,ho,fun g hg=>⟨Nat.lt_of_lt_of_le (h10 g hg).1 k3.size,by rw[k1 g (h10 g hg).1];exact(h10 g hg).2⟩,hl0,h11.trans (k3.mono (fun k _ e=>by simp only at e;rw[e];exact⟨hlh.1,.inr (.inl rfl)⟩))⟩
theorem dB{row:Option Nat}(hg:w.grownBy w' row):Touch (fun k=>row=some k) w w':=⟨hg.os,hg.tape,hg.output,hg.size,fun k hk hx=>hg.block k hk (fun e=>hx e.symm)⟩
theorem MS.push{w2:World}{tb np nd h g cap:Nat}{pa da:Addr}{lv:List Int}{lav:Value}{y:Int}(H:MS w0 wr lo lab a n v cl ts tb pa da h np nd lv lav)
  (ho:w2.ownsRow lo 3 1 (.slice (some ⟨g,0,none⟩) (lv.length+1) cap) (lv.length+1) (lv.map (Value.int .i64)++[.int .i64 y])) (hg:(wr.alloc (.cells #[.int .i64 y] 3)).grownBy w2 lav.ownBlock)
  (hat:lav.ownBlock=some g∨g=(wr.alloc (.cells #[.int .i64 y] 3)).heap.size) (hlt:g<w2.heap.size):
  MS w0 (w2.setCell ⟨tb,1,none⟩ (.slice (some ⟨g,0,none⟩) (lv.length+1) cap)) lo lab a n v cl ts tb pa da h np nd (lv++[y]) (.slice (some ⟨g,0,none⟩) (lv.length+1) cap):=by
 obtain⟨lab',ca,cc,h1,h2,h3,h4,ht0,h5,h6,h7,h8,h9,h10,hl0,h11⟩:=H
 have hb:=below_new wr (.cells #[.int .i64 y] 3)
 have hs:w0.heap.size≤wr.heap.size:=h11.size
 have hsz:(wr.alloc (.cells #[.int .i64 y] 3)).heap.size=wr.heap.size+1:=by simp
 have hlo:lo≤wr.heap.size:=Nat.le_of_lt (Nat.lt_of_le_of_lt h2.lh.1 h2.hb.lt)
 have hl:∀k,k<wr.heap.size→(fun k=>if k=wr.heap.size+1 then 9+5*ts.length else lab' k) k=lab' k:=fun k hk=>if_neg (by omega)
 have T1:=dB hg
 have k2:=(h2.re hl).later hb
 have k3:=h3.later hb
 have hgl:∀k,lav.ownBlock=some k→(fun k=>if k=wr.heap.size+1 then 9+5*ts.length else lab' k) k=9+5*ts.length:=fun k hk=>by rw[hl k (h10 k hk).1];exact(h10 k hk).2
 have htbl:(fun k=>if k=wr.heap.size+1 then 9+5*ts.length else lab' k) tb=7+5*ts.length:=by rw[hl tb h3.lt];exact h4.2
 have T2:Touch (fun k=>k=tb) w2 (w2.setCell ⟨tb,1,none⟩ (.slice (some ⟨g,0,none⟩) (lv.length+1) cap)):=(Touch.refl (fun k=>k=tb) w2).setCell (p:=⟨tb,1,none⟩) (fun _=>rfl) _
 have ntb:¬lav.ownBlock=some tb:=fun e=>by have e1:=hgl tb e;simp only at e1 htbl;omega
 have gne:g≠tb:=by
  rcases hat with e|e
  ·intro e2;exact ntb (by rw[e,e2])
  ·rw[hsz] at e;intro e2;have:=h3.lt;omega
 refine⟨fun k=>if k=wr.heap.size+1 then 9+5*ts.length else lab' k,ca,cc,fun k hk=>by rw[hl k (by omega)];exact h1 k hk,?_,?_,⟨h4.1,htbl⟩,ht0,?_,?_,?_,?_,?_,?_,?_,?_⟩
 ·refine(k2.touch T1 (fun b _ _ e1 e2=> ?_)).touch T2 (fun b _ _ e1 e2=> ?_)
  ·have:=hgl b e2;simp only at this e1;rcases e1 with e1|e1|e1|⟨j,hj,e1⟩<;>omega
  ·rw[e2] at e1;simp only at htbl e1;rcases e1 with e1|e1|e1|⟨j,hj,e1⟩<;>omega
 ·exact(k3.touch T1 ntb).put 1 _ rfl
 ·refine((h5.later hb).touch T1 ?_).touch T2 ?_
  ·exact((h6.re hl).le hb.size).out (fun b _ _ e1 e2=>by have:=hgl b e2;simp only at this e1;omega) (by simp[kH])
  ·exact((h6.re hl).le (Nat.le_trans hb.size T1.size)).out (fun b _ _ e1 e2=>by rw[e2] at e1;simp only at htbl e1;omega) (by simp[kH])
 ·exact(h6.re hl).le (Nat.le_trans hb.size (Nat.le_trans T1.size T2.size))
 ·refine((h7.later hb).touch T1 ?_).touch T2 ?_
  ·exact((h8.re hl).le hb.size).out (fun b _ _ e1 e2=>by have:=hgl b e2;simp only at this e1;omega) (by simp[kH])
  ·exact((h8.re hl).le (Nat.le_trans hb.size T1.size)).out (fun b _ _ e1 e2=>by rw[e2] at e1;simp only at htbl e1;omega) (by simp[kH])
 ·exact(h8.re hl).le (Nat.le_trans hb.size (Nat.le_trans T1.size T2.size))
 ·have:=bR ho T2 (fun k hk e=>gne (by cases hk;exact e))
  simpa using this
 ·intro k hk
  cases hk
  refine⟨by simpa using hlt,?_⟩
  rcases hat with e|e
  ·exact hgl g e
  ·rw[hsz] at e;exact if_pos e
 ·intro k hk
  cases hk
  rcases hat with e|e
  ·exact hl0 g e
  ·rw[hsz] at e;show w0.heap.size≤g;omega
 ·refine h11.trans ((Touch.of_below hb).trans ((T1.mono (fun k _ e=> ?_)).trans (T2.mono (fun k _ e=>by rw[e];exact⟨h4.1,.inl ht0⟩))))
  exact⟨aN h9 k e,.inl (hl0 k e)⟩
theorem MS.own{tb np nd h:Nat}{pa da:Addr}{lv:List Int}{lav:Value}(H:MS w0 wr lo lab a n v cl ts tb pa da h np nd lv lav):wr.ownsRow lo 3 1 lav lv.length (lv.map (Value.int .i64))∧wr.cell? ⟨tb,1,none⟩=some lav∧wr.frozen? ⟨tb,1,none⟩=false∧lo≤wr.heap.size∧tb<wr.heap.size:=by
 obtain⟨lab',ca,cc,h1,h2,h3,h4,ht0,h5,h6,h7,h8,h9,h10,hl0,h11⟩:=H
 exact⟨h9,h3.cell 1 rfl,h3.free 1,Nat.le_of_lt (Nat.lt_of_le_of_lt h2.lh.1 h2.hb.lt),h3.lt⟩
theorem tC(w:World)(u:Value)(t:TypeId):∀j z,[u][j]? =some z→(w.alloc (.cells #[u] t)).cell? ((⟨w.heap.size,0,none⟩:Addr).add j)=some z:=fun j z hz=>
 World.news_of_block (aT.new w #[u] t) j z (by simpa using hz)
theorem Me(y:Int):∀u∈[Value.int .i64 y],u.oneCell'=true:=fun u hu=>by simp at hu;subst hu;rfl
theorem MS.later{w2:World}{tb np nd h:Nat}{pa da:Addr}{lv:List Int}{lav:Value}(H:MS w0 wr lo lab a n v cl ts tb pa da h np nd lv lav)(hb:Below wr.heap.size wr w2):MS w0 w2 lo lab a n v cl ts tb pa da h np nd lv lav:=by
 obtain⟨lab',ca,cc,h1,h2,h3,h4,ht0,h5,h6,h7,h8,h9,h10,hl0,h11⟩:=H
 exact⟨lab',ca,cc,h1,h2.later hb,h3.later hb,h4,ht0,h5.later hb,h6.le hb.size,h7.later hb,h8.le hb.size,bR h9 (Touch.of_below (X:=fun _=>False) hb) (fun _ _=>id),fun g hg=>⟨Nat.lt_of_lt_of_le (h10 g hg).1 hb.size,(h10 g hg).2⟩,hl0,h11.trans (Touch.of_below hb)⟩
theorem MS.drew{tb np nd h:Nat}{pa da:Addr}{lv:List Int}{lav:Value}(H:MS w0 wr lo lab a n v cl ts tb pa da h np nd lv lav):MS w0 wr.drew lo lab a n v cl ts tb pa da h np nd lv lav:=H.later ⟨rfl,rfl,rfl,Nat.le_refl _,fun _ _=>rfl⟩
theorem MS.far{w2:World}{tb np nd h:Nat}{pa da:Addr}{lv:List Int}{lav:Value}{o:Obj}(H:MS w0 wr lo lab a n v cl ts tb pa da h np nd lv lav)(hg:(wr.alloc o).grownBy w2 lav.ownBlock):w2.cell? ⟨tb,1,none⟩=some lav∧w2.frozen? ⟨tb,1,none⟩=false:=by
 obtain⟨lab',ca,cc,h1,h2,h3,h4,ht0,h5,h6,h7,h8,h9,h10,hl0,h11⟩:=H
 have k:=(h3.later (below_new wr o)).touch (dB hg) (fun e=>by have:=(h10 tb e).2;have:=h4.2;omega)
 exact⟨k.cell 1 rfl,k.free 1⟩
theorem TE:(Tryz.prog.info? 97).map (fun i=>(i.zero,i.size,i.bytes))=some (some (.pointer none),1,8):=by kernel_rfl
theorem dZ.ofSlice{la:Option Addr}{lc:Nat}{lv:List Int}(h:w.ownsRow lo 3 1 (.slice la lv.length lc) lv.length (lv.map (Value.int .i64))):dZ w .i64 la lv:=by
 obtain⟨a',cap,e,h'⟩:=dZ.ow h
 cases e
 exact h'
theorem MS.finish{w2:World}{tb np nd h g cap:Nat}{pa da:Addr}{lv:List Int}{lav:Value}(H:MS w0 wr lo lab a n v cl ts tb pa da h np nd lv lav)(hh:h<1000000)
  (ho:w2.ownsRow lo 97 1 (.slice (some ⟨g,0,none⟩) (ts.length+1) cap) (ts.length+1) (a.tas.map TA.MK++[.pointer (some ⟨tb,0,none⟩)])) (hg:(wr.alloc (.cells #[.pointer (some ⟨tb,0,none⟩)] 97)).grownBy w2 a.tv.ownBlock)
  (hat:a.tv.ownBlock=some g∨g=wr.heap.size+1) (hlt:g<w2.heap.size):
  ∃lab' ca cc x,(∀k,k<w0.heap.size→lab' k=lab k)∧mY (w2.setCell ⟨a.hb,3,none⟩ (.slice (some ⟨g,0,none⟩) (ts.length+1) cap)) lo lab' {a with ca:=ca,cc:=cc,tv:=.slice (some ⟨g,0,none⟩) (ts.length+1) cap,tas:=a.tas++[x]} n v cl (ts++[⟨h,lv,kH np,kH nd,false,cz.new⟩])∧
   Touch (XH w0 lo lab a.hb) w0 (w2.setCell ⟨a.hb,3,none⟩ (.slice (some ⟨g,0,none⟩) (ts.length+1) cap)):=by
 obtain⟨lab',ca,cc,h1,h2,h3,h4,ht0,h5,h6,h7,h8,h9,h10,hl0,h11⟩:=H
 obtain⟨⟨la,lc,rfl⟩,_⟩:=jf h9
 have hb:=below_new wr (.cells #[.pointer (some ⟨tb,0,none⟩)] 97)
 have hs:w0.heap.size≤wr.heap.size:=h11.size
 have hsz:(wr.alloc (.cells #[.pointer (some ⟨tb,0,none⟩)] 97)).heap.size=wr.heap.size+1:=by simp
 have hlh:=h2.lh
 simp only at hlh
 have hl:∀k,k<wr.heap.size→(fun k=>if k=wr.heap.size+1 then 2 else lab' k) k=lab' k:=fun k hk=>if_neg (by omega)
 have T1:=dB hg
 have T2:Touch (fun k=>k=a.hb) w2 (w2.setCell ⟨a.hb,3,none⟩ (.slice (some ⟨g,0,none⟩) (ts.length+1) cap)):=(Touch.refl (fun k=>k=a.hb) w2).setCell (p:=⟨a.hb,3,none⟩) (fun _=>rfl) _
 have hgl:∀k,a.tv.ownBlock=some k→(fun k=>if k=wr.heap.size+1 then 2 else lab' k) k=2:=fun k hk=>by rw[hl k (h2.ltv k hk).1];exact(h2.ltv k hk).2
 have hhl:(fun k=>if k=wr.heap.size+1 then 2 else lab' k) a.hb=1:=by rw[hl a.hb h2.hb.lt];exact hlh.2
 have htl:(fun k=>if k=wr.heap.size+1 then 2 else lab' k) tb=7+5*ts.length:=by rw[hl tb h3.lt];exact h4.2
 have gl:(fun k=>if k=wr.heap.size+1 then 2 else lab' k) g=2:=by
  rcases hat with e|e
  ·exact hgl g e
  ·exact if_pos e
 have gne:g≠a.hb:=fun e=>by rw[e] at gl;simp only at gl hhl;omega
 have B1:∀{b:Nat} {cs:Array Value} {t:TypeId} (K:Nat),aT wr b cs t→(fun k=>if k=wr.heap.size+1 then 2 else lab' k) b=K→K≠1→K≠2→aT (w2.setCell ⟨a.hb,3,none⟩ (.slice (some ⟨g,0,none⟩) (ts.length+1) cap)) b cs t:=fun K k e k1 k2=>
  ((k.later hb).touch T1 (fun e1=>by have:=hgl _ e1;simp only at this e;omega)).touch T2 (fun e1=>by rw[e1] at e;simp only at hhl e;omega)
 have R1:∀{k:IntKind} {o:Option Addr} {zs:List Int} {m:Nat} (K:Nat),dZ wr k o zs→qZ wr lo lab' o m K→zs.length=m→K≠1→K≠2→dZ (w2.setCell ⟨a.hb,3,none⟩ (.slice (some ⟨g,0,none⟩) (ts.length+1) cap)) k o zs:=fun K k hL e k1 k2=>
  ((k.later hb).touch T1 (((hL.re hl).le hb.size).out (fun b _ _ e1 e2=>by have:=hgl b e2;simp only at this e1;omega) e)).touch T2 (((hL.re hl).le (Nat.le_trans hb.size T1.size)).out (fun b _ _ e1 e2=>by rw[e2] at e1;simp only at hhl e1;omega) e)
 have hS:wr.heap.size≤(w2.setCell ⟨a.hb,3,none⟩ (.slice (some ⟨g,0,none⟩) (ts.length+1) cap)).heap.size:=Nat.le_trans hb.size (Nat.le_trans T1.size T2.size)
 have L1:∀{o:Option Addr} {m K:Nat},qZ wr lo lab' o m K→qZ (w2.setCell ⟨a.hb,3,none⟩ (.slice (some ⟨g,0,none⟩) (ts.length+1) cap)) lo (fun k=>if k=wr.heap.size+1 then 2 else lab' k) o m K:=fun hL=>(hL.re hl).le hS
 refine⟨fun k=>if k=wr.heap.size+1 then 2 else lab' k,ca,cc,⟨tb,0,la,some pa,some da,lc,np,nd⟩,fun k hk=>by rw[hl k (by omega)];exact h1 k hk,⟨?_,⟨hlh.1,hhl⟩,by simp[h2.len],?_,?_,?_,?_,L1 h2.lca,?_⟩,?_⟩
 ·exact(((h2.hb.later hb).touch T1 (fun e1=>by have:=hgl _ e1;simp only at this hhl;omega))).put 3 _ rfl
 ·have:=bR ho T2 (fun k hk e=>gne (by cases hk;exact e))
  simpa[TA.MK] using this
 ·intro k hk
  cases hk
  exact⟨by simpa using hlt,gl⟩
 ·intro j s y hs' hy
  by_cases hj:j<ts.length
  ·rw[List.getElem?_append_left hj] at hs'
   rw[List.getElem?_append_left (by rw[h2.len];exact hj)] at hy
   have k:=h2.th j s y hs' hy
   exact⟨B1 (7+5*j) k.tb ((hl _ k.tb.lt).trans k.ltb.2) (by omega) (by omega),R1 _ k.lv k.lla rfl (by omega) (by omega),R1 _ k.pt k.lpa rfl (by omega) (by omega),R1 _ k.dt k.lda rfl (by omega) (by omega),⟨k.ltb.1,(hl _ k.tb.lt).trans k.ltb.2⟩,L1 k.lla,L1 k.lpa,L1 k.lda⟩
  ·have hj':=(List.getElem?_eq_some_iff.1 hs').1
   simp at hj'
   obtain rfl:j=ts.length:=by omega
   rw[List.getElem?_append_right (Nat.le_refl _)] at hs'
   rw[List.getElem?_append_right (by rw[h2.len];exact Nat.le_refl _)] at hy
   simp at hs'
   have hln:=h2.len
   simp only at hln
   simp[hln] at hy
   subst hs' hy
   have e0:dZ wr .i64 la lv:=dZ.ofSlice h9
   have eL:qZ wr lo lab' la lv.length (9+5*ts.length):=fun h0 b off e=>by
    subst e
    obtain⟨q1,q2⟩:=h10 b rfl
    exact⟨aN h9 b rfl,q1,q2⟩
   refine⟨?_,R1 _ e0 eL rfl (by omega) (by omega),R1 _ h5 h6 (by simp[kH]) (by omega) (by omega),R1 _ h7 h8 (by simp[kH]) (by omega) (by omega),⟨h4.1,htl⟩,L1 eL,by simpa[kH] using L1 h6,by simpa[kH] using L1 h8⟩
   have:=B1 (7+5*ts.length) h3 htl (by omega) (by omega)
   simpa[Th.cells,kH] using this
 ·have:=(h2.crow.later hb)
  exact(this.touch T1 (((h2.lca.re hl).le hb.size).out (fun b _ _ e1 e2=>by have:=hgl b e2;simp only at this e1;omega))).touch T2 (((h2.lca.re hl).le (Nat.le_trans hb.size T1.size)).out (fun b _ _ e1 e2=>by rw[e2] at e1;simp only at hhl e1;omega))
 ·intro s hs'
  rcases List.mem_append.1 hs' with e|e
  ·exact h2.bd s e
  ·simp at e
   subst e
   exact hh
 ·refine h11.trans ((Touch.of_below hb).trans ((T1.mono (fun k hk e=> ?_)).trans (T2.mono (fun k _ e=>by subst e;exact⟨hlh.1,.inr (.inl rfl)⟩))))
  refine⟨aN h2.tv k e,?_⟩
  by_cases hk0:w0.heap.size≤k
  ·exact .inl hk0
  ·exact .inr (.inr (by rw[←h1 k (by omega)];exact(h2.ltv k e).2))
theorem MS.ends{tb np nd h:Nat}{pa da:Addr}{lv:List Int}{lav:Value}(H:MS w0 wr lo lab a n v cl ts tb pa da h np nd lv lav):
  wr.cell? ⟨a.hb,3,none⟩=some a.tv∧wr.frozen? ⟨a.hb,3,none⟩=false∧wr.cell? ⟨tb,0,none⟩=some (.int .i64 (h:Int))∧wr.ownsRow lo 97 1 a.tv ts.length (a.tas.map TA.MK)∧lo≤wr.heap.size∧a.hb<wr.heap.size∧tb<wr.heap.size:=by
 obtain⟨lab',ca,cc,h1,h2,h3,h4,ht0,h5,h6,h7,h8,h9,h10,hl0,h11⟩:=H
 exact⟨h2.c3,h2.hb.free 3,h3.cell 0 rfl,h2.tv,Nat.le_of_lt (Nat.lt_of_le_of_lt h2.lh.1 h2.hb.lt),h2.hb.lt,h3.lt⟩
def SB(w:World)(lo:Nat)(lab:Nat→Nat)(a:WA)(n v:Nat)(cl:List Nat)(ts:List Th)(t:Th)(e:Ending)(w':World):Prop:=
 e=.returned (.tuple #[.int .i64 ((t.h:Int)+1),.int .i64 0])∧∃lab' ca cc tv x,(∀k,k<w.heap.size→lab' k=lab k)∧mY w' lo lab' {a with ca:=ca,cc:=cc,tv:=tv,tas:=a.tas++[x]} n v cl (ts++[t])∧Touch (XH w lo lab a.hb) w w'
theorem MS.WF{w2:World}{tb np nd h:Nat}{pa da:Addr}{lv:List Int}{lav:Value}{o:Obj}(H:MS w0 wr lo lab a n v cl ts tb pa da h np nd lv lav)(hg:(wr.alloc o).grownBy w2 a.tv.ownBlock):
  w2.cell? ⟨a.hb,3,none⟩=some a.tv∧w2.frozen? ⟨a.hb,3,none⟩=false∧w2.cell? ⟨tb,0,none⟩=some (.int .i64 (h:Int))∧¬tb=a.hb:=by
 obtain⟨lab',ca,cc,h1,h2,h3,h4,ht0,h5,h6,h7,h8,h9,h10,hl0,h11⟩:=H
 have hlh:=h2.lh
 simp only at hlh
 have k:=(h3.later (below_new wr o)).touch (dB hg) (fun e=>by have:=(h2.ltv tb e).2;have:=h4.2;omega)
 have k2:=(h2.hb.later (below_new wr o)).touch (dB hg) (fun e=>by have:=(h2.ltv a.hb e).2;have:=hlh.2;omega)
 exact⟨k2.cell 3 rfl,k2.free 3,k.cell 0 rfl,fun e=>by rw[e] at h4;omega⟩
set_option maxHeartbeats 2000000 in
theorem Iu{ls:List Nat}{v':Nat}(h:mY w lo lab a n v (b::ls++cl) ts)(hv:v=v')(np nd:Nat)(he:bF (v':Int) np nd=0)(hk:(1+ls.length:Int)=aZ (v':Int) np nd)(hc:(b::ls++cl).length≤8000)(hp:np≤1000000)(hd:nd≤1000000)(hb:b<1000000)(hts:ts.length≤8000):
  Calls Tryz.prog 168 #[.pointer (some ⟨a.hb,0,none⟩),.int .i64 (np:Int),.int .i64 (nd:Int)] w (SB w lo lab a n v cl ts ⟨b,ints ls,kH np,kH nd,false,cz.new⟩):=by
 subst hv
 have hmp:=fun w=>IW np hp w
 have hmd:=fun w=>IV nd (by omega) w
 have c1:=h.c1
 have c2:w.cell? ⟨a.hb,2,none⟩=some (.slice a.ca (b::ls++cl).length a.cc):=h.c2
 have HBl:=hid (fun w=>oG (v:Int) np nd w)
 rw[←hk,he] at HBl
 have hlt:¬((b::ls++cl).length:Int)<1+(ls.length:Int):=by simp only[List.length_cons,List.length_append,List.cons_append];omega
 have H:=hid h
 have HN0:=hid (NS.start h)
 have HCn:=hid hc
 have HTl:=hid hts
 obtain⟨i0,hinf,hz0,hz1,hz2⟩:=info_parts jy
 clear h hc hk he hts
 go_enter Tryz.func168,Tryz.ntmps168
 go_wp2_with fail
 refine(HBl.out _).mono ?_
 rintro e w1 ⟨rfl,rfl⟩
 go_upto_region 6 with fail
 go_cut [10] (fun s wx=>∃tb pa da,s=.pointer (some ⟨tb,0,none⟩)∧MS w wx lo lab a n v (ls++cl) ts tb pa da b np nd [] (.slice none 0 0))
 case first=>
  go_region_with (first|(go_at_call 203;refine(NS.take (by first|exact HN0.out.drew|exact(HN0.out.drew).Wp _|exact(HN0.out.drew).Wo _|exact((HN0.out.drew).Wp _).Wo _|exact((HN0.out.drew).Wo _).Wp _) (by have:=HCn.out;simp at this ⊢;omega)).mono ?_;rintro e w2 ⟨rfl,hN⟩;try simp at hN;have HN1:=hid hN;clear hN))
  all_goals (go_wp2_with fail;go_meet)
  all_goals refine⟨_,_,_,rfl,NS.WE ?_ ?_⟩
  all_goals (first|exact HN1.out|(refine NS.TL HN1.out ?_;simp;done)|(refine NS.TK HN1.out ?_;simp;done)|(refine NS.TK (NS.TL HN1.out ?_) ?_<;>simp<;>done)|(refine NS.TL (NS.TK HN1.out ?_) ?_<;>simp<;>done)|(simp;done))
 case rest=>
  obtain⟨tb,pa,da,rfl,hM⟩:=hcut
  have HM0:=hid hM
  clear hM c1 c2
  go_wp2_with fail
  go_loopw [11] (fun s wx=>∃j:Nat,j≤ls.length∧s=.int .i64 (1+(j:Int))∧∃lav,MS w wx lo lab a n v (ls.drop j++cl) ts tb pa da b np nd (ints (ls.take j)) lav) (fun s _=>ls.length+1-(intOf s).toNat)
  case atStart=>exact⟨0,Nat.zero_le _,by simp,_,by simpa[ints] using HM0.out⟩
  case round=>
   obtain⟨j,hj,rfl,lav,hM⟩:=hrel
   have HM:=hid hM
   clear hM
   by_cases hlt':j<ls.length
   ·have hd':ls.drop j++cl=ls[j]::(ls.drop (j+1)++cl):=by rw[List.drop_eq_getElem_cons hlt'];rfl
    have HM':Hid (MS w wr lo lab a n v (ls[j]::(ls.drop (j+1)++cl)) ts tb pa da b np nd (ints (ls.take j)) lav):=hid (hd'▸HM.out)
    have HTk:=hid (fun wz (hz:MS w wz lo lab a n v (ls[j]::(ls.drop (j+1)++cl)) ts tb pa da b np nd (ints (ls.take j)) lav)=>MS.take hz (by have:=HCn.out;simp at this ⊢;omega))
    obtain⟨o1,m1,f1,l1,t1⟩:=HM.out.own
    have HLen:Hid ((ints (ls.take j)).length=j):=hid (by simp[ints];omega)
    have HTs:Hid (ints (ls.take j)++[(ls[j]:Int)]=ints (ls.take (j+1))):=hid (by rw[List.take_succ_eq_append_getElem hlt'];unfold ints;rw[List.map_append];rfl)
    generalize ls[j]=y at*
    have HJ:Hid (j≤8000):=hid (by have:=HCn.out;simp at this;omega)
    have HMd:=hid (MS.drew HM'.out)
    have HWj:Hid (wrap64 (1+(j:Int)+1)=1+((j+1:Nat):Int)):=hid (by rw[show 1+(j:Int)+1=1+((j+1:Nat):Int) by omega];exact IntWalk.wrap64_in (1+((j+1:Nat):Int)) (by have:=HJ.out;omega))
    clear o1 l1 hd'
    go_wp2_with fail
    go_region_law? (first|(go_simp;go_at_call 203;refine(HTk.out _ (by first|exact HM'.out|exact HMd.out)).mono ?_;rintro e w4 ⟨rfl,hN⟩;have HM4:=hid hN;clear hN;have m1:=HM4.out.own.2.1;have z4:=HM4.out.own.2.2.2.2;have f1:=HM4.out.own.2.2.1;have HOw:=hid (HLen.out▸(HM4.out.own.1.alloc (.cells #[.int .i64 (y:Int)] 3)));have HNw:=hid (tC w4 (.int .i64 (y:Int)) 3);have HN1:=hid (Me (y:Int));have HLw:Hid (lo≤(w4.alloc (.cells #[.int .i64 (y:Int)] 3)).heap.size):=hid (by have:=HM4.out.own.2.2.2.1;simp;omega))|(refine step_append_lies _ rfl (.tmp 49) (.tmp 52) 45 rfl lo 3 i0 (.int .i64 0) 1 8 Tryz.underlying45 hinf hz0 hz1 hz2 rfl (by decide) lav j ((ints (ls.take j)).map (Value.int .i64)) (by simp[Act.eval,Act.put]) HOw.out ⟨w4.heap.size,0,none⟩ 1 1 [.int .i64 (y:Int)] (by simp[Act.eval,Act.put]) rfl HNw.out HN1.out (by decide) (by have:=HJ.out;unfold maxLen;omega) (by have:=HJ.out;omega) HLw.out (w4.heap.size+1) (by simp) ?_;intro g cap w6 ho hg hat hlt;have m6:=(MS.far HM4.out hg).1;have f6:=(MS.far HM4.out hg).2;have HO6:=hid ho;have HG6:=hid hg;have HA6:=hid hat;have HL6:=hid hlt;clear ho hg hat hlt))
    all_goals (have hp0:=MS.push (y:=(y:Int)) HM4.out (by rw[HLen.out];exact HO6.out) HG6.out (by rcases HA6.out with e|e;exact .inl e;exact .inr (by rw[e];simp)) HL6.out;rw[HLen.out,HTs.out] at hp0;have HP:=hid hp0;clear hp0)
    all_goals (go_wp2_with fail)
    all_goals go_roundw
    all_goals (first|exact⟨j+1,by omega,by rw[HWj.out],_,HP.out⟩|(rw[HWj.out];simp[intOf];omega))
   ·obtain rfl:j=ls.length:=by omega
    have HM2:Hid (MS w wr lo lab a n v cl ts tb pa da b np nd (ints ls) lav):=hid (by have:=HM.out;rw[List.drop_length,List.take_length,List.nil_append] at this;exact this)
    clear HM
    obtain⟨c3,z3,d0,y0,y1,y2,y3⟩:=HM2.out.ends
    obtain⟨ip,hip,hp0,hp1,hp2⟩:=info_parts TE
    have hwb:IntKind.i64.wrap ((b:Int)+1)=(b:Int)+1:=IntWalk.i64_in _ (by omega)
    go_wp2_with (at_builtin;refine wpList_append_lies _ rfl _ _ 90 rfl lo 97 ip (.pointer none) 1 8 Tryz.underlying90 hip hp0 hp1 hp2 rfl (by decide) _ _ _ rfl (y0.alloc _) ⟨wr.heap.size,0,none⟩ 1 1 [.pointer (some ⟨tb,0,none⟩)] rfl rfl ?c1 ?c2 (by decide) ?c3 ?c4 ?c5 (wr.heap.size+1) (by simp) ?c6)
    case c1=>exact tC _ _ _
    case c2=>intro u hu;simp at hu;subst hu;rfl
    case c3=>have:=HTl.out;unfold maxLen;omega
    case c4=>have:=HTl.out;omega
    case c5=>simp;omega
    case c6=>
     intro g cap w6 ho hg hat hlt6
     obtain⟨q1,q2,q3,q4⟩:=MS.WF HM2.out hg
     have HE:Hid (SB w lo lab a n v cl ts ⟨b,ints ls,kH np,kH nd,false,cz.new⟩ (.returned (.tuple #[.int .i64 ((b:Int)+1),.int .i64 0])) (w6.setCell ⟨a.hb,3,none⟩ (.slice (some ⟨g,0,none⟩) (ts.length+1) cap))):=hid (by
      obtain⟨lab',ca,cc,x,k1,k2,k3⟩:=MS.finish HM2.out hb ho hg hat hlt6
      exact⟨rfl,lab',ca,cc,_,x,k1,k2,k3⟩)
     clear ho hg hat hlt6 c3 z3 d0 y0
     go_wp2_with fail
     go_ret2
     exact HE.out
end
section
variable {w w' w0 wr:World} {lo:Nat} {lab lab':Nat→Nat} {a:WA} {D:Wd} {i:Nat} {t:Th} {x:TA} {n v b:Nat} {cl:List Nat} {ts:List Th}
theorem ED(h:mY w lo lab a n v cl ts)(np nd:Int)(he:bF (v:Int) np nd≠0):
  Calls Tryz.prog 168 #[.pointer (some ⟨a.hb,0,none⟩),.int .i64 np,.int .i64 nd] w fun e w'=>e=.returned (.tuple #[.int .i64 0,.int .i64 (bF (v:Int) np nd)])∧w=w':=by
 have c1:=h.c1
 have HBl:=hid (fun w=>oG (v:Int) np nd w)
 have hb:(bF (v:Int) np nd !=0)=true:=by rw[bne_iff_ne];exact he
 generalize bF (v:Int) np nd=E at*
 clear h he
 go_enter Tryz.func168,Tryz.ntmps168
 go_wp2_with fail
 refine(HBl.out _).mono ?_
 rintro e w1 ⟨rfl,rfl⟩
 go_wp2_with fail
 go_ret2
 exact⟨rfl,rfl⟩
theorem EC(h:mY w lo lab a n v cl ts)(np nd:Int)(he:bF (v:Int) np nd=0)(hl:(cl.length:Int)<aZ (v:Int) np nd):
  Calls Tryz.prog 168 #[.pointer (some ⟨a.hb,0,none⟩),.int .i64 np,.int .i64 nd] w fun e w'=>e=.returned (.tuple #[.int .i64 0,.int .i64 4])∧w=w':=by
 have c1:=h.c1
 have c2:=h.c2
 have HBl:=hid (fun w=>oG (v:Int) np nd w)
 rw[he] at HBl
 generalize aZ (v:Int) np nd=B at*
 clear h he
 go_enter Tryz.func168,Tryz.ntmps168
 go_wp2_with fail
 refine(HBl.out _).mono ?_
 rintro e w1 ⟨rfl,rfl⟩
 go_wp2_with fail
 go_ret2
 exact⟨rfl,rfl⟩
def Wd.made(D:Wd)(b:Nat)(ls cl:List Nat)(np nd:Nat):Wd:={D with clean:=cl,ts:=D.ts++[⟨b,ints ls,kH np,kH nd,false,cz.new⟩]}
theorem JO(h:az w lo lab a D)(np nd E:Int)(hE:E≠0)(hF:Calls Tryz.prog 168 #[.pointer (some ⟨a.hb,0,none⟩),.int .i64 np,.int .i64 nd] w fun e w'=>e=.returned (.tuple #[.int .i64 0,.int .i64 E])∧w=w'):
  Calls Tryz.prog 97 #[.pointer (some ⟨a.q,0,none⟩),.int .i64 np,.int .i64 nd] w fun e w'=>e=.returned (.tuple #[.int .i64 0,.int .i64 E])∧w=w':=by
 have c0:=h.c0
 have HF:=hid hF
 have hb:(E==0)=false:=by rw[beq_eq_false_iff_ne];exact hE
 clear h hF hE
 go_enter Tryz.func97,Tryz.ntmps97
 go_wp2_with fail
 refine HF.out.mono ?_
 rintro e w1 ⟨rfl,rfl⟩
 go_wp2_with fail
 go_ret2
 exact⟨rfl,rfl⟩
theorem TD:(Tryz.prog.info? 93).map (fun i=>(i.zero,i.size,i.bytes))=some (some (.pointer none),1,8):=by kernel_rfl
theorem mY.WL{x y:TA}{l:List TA}(h:mY w lo lab {a with tas:=l++[x]} n v cl ts)(hy:y.tb=x.tb∧y.la=x.la∧y.pa=x.pa∧y.da=x.da∧y.lc=x.lc∧y.pc=x.pc∧y.dc=x.dc)(mv:Value):mY w lo lab {a with tas:=l++[y],mv:=mv} n v cl ts:=by
 obtain⟨e1,e2,e3,e4,e5,e6,e7⟩:=hy
 refine⟨h.hb,h.lh,by simpa using h.len,?_,h.ltv,fun j s z hs hz=> ?_,h.crow,h.lca,h.bd⟩
 ·have:=h.tv
  simpa[TA.MK,e1] using this
 ·by_cases hj:j<l.length
  ·simp only at hz
   rw[List.getElem?_append_left hj] at hz
   exact h.th j s z hs (by simp only;rw[List.getElem?_append_left hj];exact hz)
  ·simp only at hz
   rw[List.getElem?_append_right (by omega)] at hz
   have hz':j-l.length=0∧y=z:=by
    have:=(List.getElem?_eq_some_iff.1 hz).1
    simp at this
    have h0:j-l.length=0:=by omega
    rw[h0] at hz
    simp at hz
    exact⟨h0,hz⟩
   obtain⟨h0,rfl⟩:=hz'
   have k:=h.th j s x hs (by simp only;rw[List.getElem?_append_right (by omega),h0];rfl)
   refine⟨?_,by rw[e2];exact k.lv,by rw[e3];exact k.pt,by rw[e4];exact k.dt,by rw[e1];exact k.ltb,by rw[e2];exact k.lla,by rw[e3];exact k.lpa,by rw[e4];exact k.lda⟩
   have:=k.tb
   unfold Th.cells at*
   rw[e1,e2,e3,e4,e5,e6,e7]
   exact this
structure Rest (w:World) (lo:Nat) (lab:Nat→Nat) (a:WA) (D:Wd):Prop where
 wb:aT w a.q (D.cells a) 78
 lq:lo≤a.q∧lab a.q=0
 mv:w.ownsRow lo 93 1 a.mv D.ts.length (a.tas.map TA.OJ)
 lmv:∀g,a.mv.ownBlock=some g→g<w.heap.size∧lab g=3
 mb:∀(i:Nat) t x,D.ts[i]? =some t→a.tas[i]? =some x→aT w x.mb t.mr.cells 96∧lo≤x.mb∧lab x.mb=8+5*i
 rg:Row w .i64 a.ra (ints D.ring)
 lra:qZ w lo lab a.ra D.ring.length 5
 gv:Row w .i64 a.ga (ints D.grave)
 lga:qZ w lo lab a.ga D.grave.length 6
theorem az.rest(h:az w lo lab a D):Rest w lo lab a D:=⟨h.wb,h.lq,h.mv,h.lmv,h.mb,h.rg,h.lra,h.gv,h.lga⟩
theorem Rest.touch{X:Nat→Prop}(h:Rest w lo lab a D)(T:Touch X w w')(hX:∀b,lo≤b→b<w.heap.size→(lab b=0∨lab b=3∨lab b=5∨lab b=6∨∃i,i<D.ts.length∧lab b=8+5*i)→¬X b):Rest w' lo lab a D where
 wb:=h.wb.touch T (hX _ h.lq.1 h.wb.lt (.inl h.lq.2))
 lq:=h.lq
 mv:=bR h.mv T (fun g hg=>hX g (aN h.mv g hg) (h.lmv g hg).1 (.inr (.inl (h.lmv g hg).2)))
 lmv:=fun g hg=>⟨Nat.lt_of_lt_of_le (h.lmv g hg).1 T.size,(h.lmv g hg).2⟩
 mb:=fun i t x h1 h2=>⟨(h.mb i t x h1 h2).1.touch T (hX _ (h.mb i t x h1 h2).2.1 (h.mb i t x h1 h2).1.lt (.inr (.inr (.inr (.inr ⟨i,(List.getElem?_eq_some_iff.1 h1).1,(h.mb i t x h1 h2).2.2⟩))))),(h.mb i t x h1 h2).2⟩
 rg:=h.rg.touch T (h.lra.out (fun b h1 h2 h3=>hX b h1 h2 (.inr (.inr (.inl h3)))))
 lra:=h.lra.le T.size
 gv:=h.gv.touch T (h.lga.out (fun b h1 h2 h3=>hX b h1 h2 (.inr (.inr (.inr (.inl h3))))))
 lga:=h.lga.le T.size
theorem Rest.re(h:Rest w lo lab a D)(hl:∀b,b<w.heap.size→lab' b=lab b):Rest w lo lab' a D:=
 ⟨h.wb,⟨h.lq.1,by rw[hl _ h.wb.lt];exact h.lq.2⟩,h.mv,fun g hg=>⟨(h.lmv g hg).1,by rw[hl g (h.lmv g hg).1];exact(h.lmv g hg).2⟩,fun i t x h1 h2=>by
  obtain⟨g1,g2,g3⟩:=h.mb i t x h1 h2
  exact⟨g1,g2,by rw[hl _ g1.lt];exact g3⟩,h.rg,h.lra.re hl,h.gv,h.lga.re hl⟩
theorem OH{w1 w2:World}{ca:Option Addr}{cc g cap:Nat}{tv:Value}{t:Th}(ht:t.mr=cz.new)(R:Rest w1 lo lab a D)(H:mY w1 lo lab {a with ca:=ca,cc:=cc,tv:=tv,tas:=a.tas++[x]} D.n D.w cl (D.ts++[t]))
  (ho:w2.ownsRow lo 93 1 (.slice (some ⟨g,0,none⟩) (D.ts.length+1) cap) (D.ts.length+1) (a.tas.map TA.OJ++[.pointer (some ⟨w1.heap.size,0,none⟩)]))
  (hg:((w1.alloc (.cells cz.new.cells 96)).alloc (.cells #[.pointer (some ⟨w1.heap.size,0,none⟩)] 93)).grownBy w2 a.mv.ownBlock)
  (hat:a.mv.ownBlock=some g∨g=w1.heap.size+2) (hlt:g<w2.heap.size):
  bT (w2.setCell ⟨a.q,1,none⟩ (.slice (some ⟨g,0,none⟩) (D.ts.length+1) cap)) lo a.q {D with clean:=cl,ts:=D.ts++[t]}∧Touch (fun k=>lo≤k) w1 (w2.setCell ⟨a.q,1,none⟩ (.slice (some ⟨g,0,none⟩) (D.ts.length+1) cap)):=by
 have hlo:lo≤w1.heap.size:=Nat.le_of_lt (Nat.lt_of_le_of_lt R.lq.1 R.wb.lt)
 have hb1:=below_new w1 (.cells cz.new.cells 96)
 have hs1:(w1.alloc (.cells cz.new.cells 96)).heap.size=w1.heap.size+1:=by simp
 have hb2:=below_step hb1 (below_new (w1.alloc (.cells cz.new.cells 96)) (.cells #[.pointer (some ⟨w1.heap.size,0,none⟩)] 93))
 have hs2:((w1.alloc (.cells cz.new.cells 96)).alloc (.cells #[.pointer (some ⟨w1.heap.size,0,none⟩)] 93)).heap.size=w1.heap.size+2:=by simp
 have BM:aT ((w1.alloc (.cells cz.new.cells 96)).alloc (.cells #[.pointer (some ⟨w1.heap.size,0,none⟩)] 93)) w1.heap.size cz.new.cells 96:=(aT.new _ _ _).alloc _
 generalize hw2:(w1.alloc (.cells cz.new.cells 96)).alloc (.cells #[.pointer (some ⟨w1.heap.size,0,none⟩)] 93)=wa at*
 let L:Nat→Nat:=fun k=>if k=w1.heap.size then 8+5*D.ts.length else if k=w1.heap.size+2 then 3 else lab k
 have hl:∀k,k<w1.heap.size→L k=lab k:=fun k hk=>by show(if _ then _ else if _ then _ else _)=_;rw[if_neg (by omega),if_neg (by omega)]
 have L0:L w1.heap.size=8+5*D.ts.length:=if_pos rfl
 have T1:=dB hg
 have T2:Touch (fun k=>k=a.q) w2 (w2.setCell ⟨a.q,1,none⟩ (.slice (some ⟨g,0,none⟩) (D.ts.length+1) cap)):=(Touch.refl (fun k=>k=a.q) w2).setCell (p:=⟨a.q,1,none⟩) (fun _=>rfl) _
 have hql:L a.q=0:=(hl _ R.wb.lt).trans R.lq.2
 have hml:∀k,a.mv.ownBlock=some k→k<w1.heap.size∧L k=3:=fun k hk=>⟨(R.lmv k hk).1,(hl _ (R.lmv k hk).1).trans (R.lmv k hk).2⟩
 have gl:L g=3:=by
  rcases hat with e|e
  ·exact(hml g e).2
  ·show(if _ then _ else if _ then _ else _)=_;rw[if_neg (by omega),if_pos e]
 have gne:g≠a.q:=fun e=>by rw[e] at gl;omega
 have hsz:w1.heap.size≤wa.heap.size:=by omega
 have H2:=mY.WL (a:={a with ca:=ca,cc:=cc,tv:=tv}) (l:=a.tas) (x:=x) (y:={x with mb:=w1.heap.size}) ((((H.re hl).later hb2).touch T1 (fun b _ _ e1 e2=>by have:=(hml b e2).2;rcases e1 with e1|e1|e1|⟨j,hj,e1⟩<;>omega)).touch T2 (fun b _ _ e1 e2=>by rw[e2] at e1;rcases e1 with e1|e1|e1|⟨j,hj,e1⟩<;>omega)) ⟨rfl,rfl,rfl,rfl,rfl,rfl,rfl⟩ (.slice (some ⟨g,0,none⟩) (D.ts.length+1) cap)
 have B1:∀{b:Nat} {cs:Array Value} {ty:TypeId},aT wa b cs ty→L b≠3→L b≠0→aT (w2.setCell ⟨a.q,1,none⟩ (.slice (some ⟨g,0,none⟩) (D.ts.length+1) cap)) b cs ty:=fun k k1 k2=>
  (k.touch T1 (fun e1=>k1 (hml _ e1).2)).touch T2 (fun e1=>by subst e1;exact k2 hql)
 have hS:wa.heap.size≤(w2.setCell ⟨a.q,1,none⟩ (.slice (some ⟨g,0,none⟩) (D.ts.length+1) cap)).heap.size:=Nat.le_trans T1.size T2.size
 have htl:a.tas.length=D.ts.length:=by have:=H.len;simp at this;exact this
 refine⟨⟨L,{a with ca:=ca,cc:=cc,tv:=tv,mv:=.slice (some ⟨g,0,none⟩) (D.ts.length+1) cap,tas:=a.tas++[{x with mb:=w1.heap.size}]},rfl,H2,?_,⟨R.lq.1,hql⟩,?_,?_,?_,?_,?_,?_,?_⟩,?_⟩
 ·exact((R.wb.later hb2).touch T1 (fun e1=>by have:=(hml _ e1).2;omega)).put 1 _ rfl
 ·have:=bR ho T2 (fun k hk e=>gne (by cases hk;exact e))
  simpa[TA.OJ] using this
 ·intro k hk
  cases hk
  exact⟨by simpa using hlt,gl⟩
 ·intro j s y hs hy
  simp only at hs hy
  by_cases hj:j<D.ts.length
  ·rw[List.getElem?_append_left hj] at hs
   rw[List.getElem?_append_left (by omega)] at hy
   obtain⟨g1,g2,g3⟩:=R.mb j s y hs hy
   have e3:=(hl _ g1.lt).trans g3
   exact⟨B1 (g1.later hb2) (by omega) (by omega),g2,e3⟩
  ·have hj':=(List.getElem?_eq_some_iff.1 hs).1
   simp at hj'
   obtain rfl:j=D.ts.length:=by omega
   rw[List.getElem?_append_right (Nat.le_refl _)] at hs
   rw[List.getElem?_append_right (by omega)] at hy
   simp[htl] at hs hy
   subst hs hy
   rw[ht]
   exact⟨B1 BM (by rw[L0];omega) (by rw[L0];omega),hlo,L0⟩
 ·exact((R.rg.later hb2).touch T1 (((R.lra.re hl).le hsz).out (fun b _ _ e1 e2=>by have:=(hml b e2).2;omega))).touch T2 (((R.lra.re hl).le (Nat.le_trans hsz T1.size)).out (fun b _ _ e1 e2=>by rw[e2] at e1;omega))
 ·exact(R.lra.re hl).le (Nat.le_trans hsz hS)
 ·exact((R.gv.later hb2).touch T1 (((R.lga.re hl).le hsz).out (fun b _ _ e1 e2=>by have:=(hml b e2).2;omega))).touch T2 (((R.lga.re hl).le (Nat.le_trans hsz T1.size)).out (fun b _ _ e1 e2=>by rw[e2] at e1;omega))
 ·exact(R.lga.re hl).le (Nat.le_trans hsz hS)
 ·exact(Touch.of_below hb2).trans ((T1.mono (fun k _ e=>aN R.mv k e)).trans (T2.mono (fun k _ e=>by subst e;exact R.lq.1)))
set_option maxHeartbeats 1000000 in
theorem JP{ls:List Nat}(h:az w lo lab a D)(hcl:D.clean=b::ls++cl)(np nd:Nat)(he:bF (D.w:Int) np nd=0)(hk:(1+ls.length:Int)=aZ (D.w:Int) np nd)(hc:D.clean.length≤8000)(hp:np≤1000000)(hd:nd≤1000000)(hb:b<1000000)(hts:D.ts.length≤8000):
  Calls Tryz.prog 97 #[.pointer (some ⟨a.q,0,none⟩),.int .i64 (np:Int),.int .i64 (nd:Int)] w (dW w lo a.q (D.made b ls cl np nd) (.tuple #[.int .i64 ((b:Int)+1),.int .i64 0])):=by
 have c0:=h.c0
 have hH:=h.h
 rw[hcl] at hH
 have HF:=hid (Iu hH rfl np nd he hk (by rw[←hcl];exact hc) hp hd hb hts)
 have H:=hid h
 have HTl:=hid hts
 obtain⟨ip,hip,hp0,hp1,hp2⟩:=info_parts TD
 clear h hH he hk hcl hc hts
 go_enter Tryz.func97,Tryz.ntmps97
 go_wp2_with fail
 refine HF.out.mono ?_
 rintro e w1 ⟨rfl,lab1,ca,cc,tv,x,k1,k2,k3⟩
 have HK:=hid k2
 have HRs:Hid (Rest w1 lo lab1 a D):=hid ((H.out.rest.re k1).touch k3 (fun b e0 e1 e2 e3=>by
  obtain⟨f0,f1⟩:=e3
  rw[k1 b e1] at e2
  have hh:=H.out.h.lh.2
  rcases f1 with f1|f1|f1
  ·omega
  ·rw[f1] at e2
   rcases e2 with e2|e2|e2|e2|⟨j,hj,e2⟩<;>omega
  ·rcases e2 with e2|e2|e2|e2|⟨j,hj,e2⟩<;>omega))
 have HT1:Hid (Touch (fun k=>lo≤k) w w1):=hid (k3.mono (fun k _ e=>e.1))
 clear k1 k2 k3
 have d0:w1.cell? ⟨a.q,0,none⟩=some (.pointer (some ⟨a.hb,0,none⟩)):=HRs.out.wb.cell 0 rfl
 have d1:w1.cell? ⟨a.q,1,none⟩=some a.mv:=HRs.out.wb.cell 1 rfl
 have y0:=HRs.out.mv
 have y1:lo≤w1.heap.size:=Nat.le_of_lt (Nat.lt_of_le_of_lt HRs.out.lq.1 HRs.out.wb.lt)
 have y2:a.q<w1.heap.size:=HRs.out.wb.lt
 go_wp2_with (at_builtin;refine wpList_append_lies _ rfl _ _ 76 rfl lo 93 ip (.pointer none) 1 8 Tryz.underlying76 hip hp0 hp1 hp2 rfl (by decide) _ _ _ rfl ((y0.alloc _).alloc _) ⟨w1.heap.size+1,0,none⟩ 1 1 [.pointer (some ⟨w1.heap.size,0,none⟩)] rfl rfl ?c1 ?c2 (by decide) ?c3 ?c4 ?c5 (w1.heap.size+2) (by simp) ?c6)
 case c1=>
  have:=tC (w1.alloc (.cells cz.new.cells 96)) (.pointer (some ⟨w1.heap.size,0,none⟩)) 93
  intro j u hu
  have:=this j u hu
  simpa[cz.cells,cz.new] using this
 case c2=>intro u hu;simp at hu;subst hu;rfl
 case c3=>have:=HTl.out;unfold maxLen;omega
 case c4=>have:=HTl.out;omega
 case c5=>simp;omega
 case c6=>
  intro g cap w6 ho hg hat hlt6
  have kq:=((HRs.out.wb.alloc (.cells cz.new.cells 96)).alloc (.cells #[.pointer (some ⟨w1.heap.size,0,none⟩)] 93)).touch (dB hg) (fun e=>by have:=(HRs.out.lmv _ e).2;have:=HRs.out.lq.2;omega)
  have q1:w6.cell? ⟨a.q,1,none⟩=some a.mv:=kq.cell 1 rfl
  have q2:=kq.free 1
  obtain⟨k1,k2⟩:=OH (x:=x) (t:=⟨b,ints ls,kH np,kH nd,false,cz.new⟩) rfl HRs.out HK.out ho hg hat hlt6
  have HE:Hid (dW w lo a.q (D.made b ls cl np nd) (.tuple #[.int .i64 ((b:Int)+1),.int .i64 0]) (.returned (.tuple #[.int .i64 ((b:Int)+1),.int .i64 0])) (w6.setCell ⟨a.q,1,none⟩ (.slice (some ⟨g,0,none⟩) (D.ts.length+1) cap))):=hid ⟨rfl,k1,HT1.out.trans k2⟩
  clear ho hg hat hlt6 d0 d1 y0 kq k1 k2
  go_wp2_with fail
  go_ret2
  exact HE.out
end
def Does(c:Cf)(D:Wd)(f:FuncId)(args:List Value)(B:Nat)(D':Wd)(v:Value):Prop:=∀zs,Wz c zs→aG c zs D→∃zs',jk c f args zs B zs' v∧aG c zs' D'
structure BB:Prop where
 parity:∀c D,Does c D 95 [] 1 D (.int .i64 D.parity)
 phase:∀c D,Does c D 48 [] 1 D (.int .i64 D.phase)
 turn:∀c D,∃v,Does c D 37 [] 2 D.turn v
 begin_:∀c D (ph:Int),Does c D 21 [.int .i64 ph] 5 (D.pM ph) (.bool (phB ph))
 at_:∀c D,Does c D 47 [] 2 D (.tuple #[.int .i64 D.cursor,.int .i64 D.field])
 move:∀c D (x y:Int),Does c D 53 [.int .i64 x,.int .i64 y] 2 (D.Az x y) (.bool (OM x y))
 nQ:∀c D (r:Int),In64 r→Does c D 69 [.int .i64 r] 5 (D.nQ r) (.bool (D.find r).isSome)
 fB:∀c D (r:Int),In64 r→Does c D 51 [.int .i64 r] 3 D (.bool (D.fB r))
 cO:∀c D (r:Int),In64 r→Does c D 54 [.int .i64 r] 4 (D.cO r) (.bool (D.find r).isSome)
 touch:∀c D (r:Int),In64 r→Does c D 88 [.int .i64 r] 14 (D.touch r) (.bool (D.aU r))
 dead:∀c D (r:Int),In64 r→Does c D 50 [.int .i64 r] 2 D (.bool (D.dead r))
 shadow:∀c D (r:Int),In64 r→Does c D 121 [.int .i64 r] 4 D (.int .i64 (D.fE r))
 fG:∀c D (r:Int),In64 r→D.fE r<4294967295→Does c D 181 [.int .i64 r] 9 (D.fG r) (.bool (D.find r).isSome)
 counted:∀c D (r i:Int),In64 r→Does c D 123 [.int .i64 r,.int .i64 i] 6 D (.bool (D.counted r i))
 done:∀c D (r:Int),In64 r→Does c D 137 [.int .i64 r] 4 (D.done r) (.bool (D.find r).isSome)
def ic(w:World)(p:Pl)(c:Cf)(D:Wd)(wr:World):Prop:=
 ∃zs m,G wr p c ⟨zs,m⟩∧aG c zs D∧(∀k,ah p k→w.heap.size≤k)∧Below w.heap.size w wr
section
variable {w wr w':World} {p:Pl} {c:Cf} {D D':Wd} {zs zs':List Int}
theorem ic.below(h:ic w p c D wr):Below w.heap.size w wr:=by obtain⟨zs,m,hG,_,_,hb⟩:=h;exact hb
theorem ic.later(h:ic w p c D wr)(hb:Below wr.heap.size wr w'):ic w p c D w':=by
 obtain⟨zs,m,hG,hh,hp,hB⟩:=h
 exact⟨zs,m,hG.later hb,hh,hp,below_step hB hb⟩
theorem ic.Vu(h:ic w p c D wr){i:Nat}(hi:wr.heap.size≤i):¬nR p i:=by
 obtain⟨zs,m,hG,hh,hp,hB⟩:=h
 intro hx
 have:=hG.fe hx
 omega
theorem ic.touch{X:Nat→Prop}(h:ic w p c D wr)(T:Touch X wr w')(hX:∀i,nR p i→¬X i)(hw:∀i,X i→w.heap.size≤i):ic w p c D w':=by
 obtain⟨zs,m,hG,hh,hp,hB⟩:=h
 exact⟨zs,m,hG.touch T hX,hh,hp,hB.trans (T.below hw hB.size)⟩
theorem ic.does{f:FuncId}{args:List Value}{B:Nat}{v:Value}(h:ic w p c D wr)(ha:Does c D f args B D' v):
  Calls Tryz.prog f (List.toArray (.pointer (some ⟨p.a,0,none⟩)::args)) wr fun e w'=>e=.returned v∧ic w p c D' w'∧Touch (ah p) wr w':=by
 obtain⟨zs,m,hG,hR,hp,hB⟩:=h
 obtain⟨zs',⟨d,_,H⟩,hR'⟩:=ha zs hG.wz hR
 refine(H p m wr hG).mono ?_
 rintro e w' ⟨rfl,hG',hT⟩
 exact⟨rfl,⟨zs',_,hG',hR',hp,hB.trans (hT.below hp hB.size)⟩,hT⟩
theorem ic.looks{f:FuncId}{args:List Value}{Q:World→Ending→World→Prop}(h:ic w p c D wr)(ha:∀zs,Wz c zs→aG c zs D→Looks c f args zs Q):
  Calls Tryz.prog f (List.toArray (.pointer (some ⟨p.a,0,none⟩)::args)) wr (Q wr):=by
 obtain⟨zs,m,hG,hR,_⟩:=h
 exact ha zs hG.wz hR p m wr hG
theorem pI.nE(h:pI c zs)(hm:c.May):aG c zs (Wd.new c.N c.W):=by
 have hf:=h.fresh
 have hr:∀r,3≤r→r<24→nth zs r=0:=hf.reg
 refine⟨rfl,rfl,h.heap,fun t ht=>absurd ht (by simp[Wd.live,Wd.new,bP]),fun t ht=>absurd ht (by simp[Wd.live,Wd.new,bP]),hf.ring h.heap hm,⟨hr 3 (by omega) (by omega),hr 4 (by omega) (by omega),hr 5 (by omega) (by omega),by simp[Wd.new],by simp[Wd.new],trivial⟩,hr 6 (by omega) (by omega),fun k h1 h2=> ?_,.inl rfl,by simp[Wd.new],fun t ht=>absurd ht (by simp[Wd.live,Wd.new,bP])⟩
 rw[hr k (by omega) (by omega)]
 have:k=10∨k=11∨k=12∨k=13∨k=14∨k=15∨k=16∨k=17∨k=18:=by omega
 rcases this with rfl|rfl|rfl|rfl|rfl|rfl|rfl|rfl|rfl<;>rfl
theorem jS{b:Nat}{ls cl:List Nat}{np nd:Nat}:(D.made b ls cl np nd).live=D.live++[⟨b,ints ls,kH np,kH nd,false,cz.new⟩]:=by
 unfold Wd.live Wd.made bP
 simp
theorem OO{b:Nat}{ls:List Nat}{np nd:Nat}:Th.ob ⟨b,ints ls,kH np,kH nd,false,cz.new⟩=iA b np nd ls:=by
 unfold Th.ob iA ints kH
 simp
theorem OQ{b:Nat}{ls cl:List Nat}{np nd:Nat}:(D.made b ls cl np nd).bZ=D.bZ++[iA b np nd ls]:=by
 unfold Wd.bZ
 rw[jS,List.map_append]
 simp only[List.map_cons,List.map_nil,OO]
theorem Bq.nE{b:Nat}{ls cl:List Nat}{np nd:Nat}(R:aG c zs D)(hm:c.May)(hcl:D.clean=b::ls++cl)(M:Bq c zs zs' cl D.bZ (iA b np nd ls)):aG c zs' (D.made b ls cl np nd):=by
 have hw:=hm.w
 have hn:=hm.n
 have hO:iA b np nd ls∈D.bZ++[iA b np nd ls]:=by simp
 have hblk:∀{t:Th} {x:Nat},t∈D.live→x∈t.ob.blocks→∀y,y∈(iA b np nd ls).blocks→x≠y:=fun {t x} ht hx y hy e=>by
  have:=M.heap.nodupB
  rw[List.flatMap_append,List.nodup_append] at this
  exact this.2.2 x (List.mem_flatMap.2 ⟨t.ob,R.bN ht,hx⟩) y (by simpa using hy) e
 have hk:∀{t:Th},t∈D.live→∀v,v<8→nth zs' (ai c t.h v)=nth zs (ai c t.h v):=fun {t} ht v hv=>M.out _ (by have:=aP c t.h v;omega) (fun y hy=>jw (hblk ht t.ob.iy y hy) (by omega))
 have hreg:∀r,3≤r→r<24→nth zs' r=nth zs r:=fun r h3 h24=>M.out r (by omega) (fun y _=>qH (by omega))
 have hring:∀x,x∈D.ring→∃t,t∈D.live∧t.h=x:=fun x hx=>by
  obtain⟨o,ho,e⟩:=R.heap.qm hm R.ring hx
  obtain⟨t,ht,rfl⟩:=List.mem_map.1 ho
  exact⟨t,ht,e⟩
 have htok:∀x,x<c.N→ek (nth zs' (ai c x 0)):=fun x hx=>by
  rcases M.heap.kinds hx with h0|⟨o,ho,rfl⟩|⟨y,hy,h2⟩
  ·rw[h0];exact jK.1
  ·exact(M.heap.bZ o ho).tok
  ·rw[h2];exact(pY (by omega)).1
 refine⟨R.n,R.w,by rw[OQ];exact M.heap,fun t ht=> ?_,fun t ht i a hi ha=> ?_,⟨by rw[hreg 7 (by omega) (by omega)];exact R.ring.r7,by rw[hreg 8 (by omega) (by omega)];exact R.ring.r8,by rw[hreg 9 (by omega) (by omega)];exact R.ring.r9,R.ring.lt,R.ring.nd,R.ring.seg.congr (fun x hx=> ?_),htok,fun x hx=> ?_,fun x hx=> ?_⟩,?_,by rw[hreg 6 (by omega) (by omega)];exact R.r6,fun k h1 h2=>by rw[hreg k (by omega) (by omega)];exact R.reg k h1 h2,R.par,fun r hr=> ?_,fun t ht hg=> ?_⟩
 ·rw[jS] at ht
  rcases List.mem_append.1 ht with h1|h1
  ·obtain⟨a1,a2,a3,a4,a5,a6⟩:=R.own t h1
   constructor<;>rw[hk h1 _ (by omega)]<;>assumption
  ·obtain rfl:=List.mem_singleton.1 h1
   have h0:=M.tag
   have e:nth zs' (ai c b 0)=1∨nth zs' (ai c b 0)=2:=by
    rw[show nth zs' (ai c b 0)=_ from h0]
    split<;>simp
   refine⟨?_,?_,?_,?_,M.own 3 (by omega) (by omega),M.own 4 (by omega) (by omega)⟩
   ·show uC (nth zs' (ai c b 0))=0;rcases e with e|e<;>rw[e]<;>decide
   ·show uN (nth zs' (ai c b 0))=0;rcases e with e|e<;>rw[e]<;>decide
   ·show uS (nth zs' (ai c b 0))=0;rcases e with e|e<;>rw[e]<;>decide
   ·show uD (nth zs' (ai c b 0))=0;rcases e with e|e<;>rw[e]<;>decide
 ·rw[jS] at ht
  rcases List.mem_append.1 ht with h1|h1
  ·rw[←R.wM t h1 i a hi ha]
   obtain⟨q,hq,rfl⟩:∃q,bH c t.ob i=some q∧ai c q.1 q.2=a:=by
    unfold bg at ha
    cases hp:bH c t.ob i with
    |none=>rw[hp] at ha;cases ha
    |some q=>rw[hp] at ha;simp at ha;exact⟨q,rfl,ha⟩
   have hoff:=gF hm hi hq
   exact M.out _ (by have:=aP c q.1 q.2;omega) (fun y hy=>jw (hblk h1 (gD hq) y hy) hoff.2.1)
  ·obtain rfl:=List.mem_singleton.1 h1
   rw[OO] at hi ha
   have:=M.wM i hi
   unfold iw at this
   rw[ha] at this
   simp only at this
   rw[this]
   unfold Th.wM nth kH
   split<;>simp[List.getD,List.getElem?_replicate]<;>split<;>rfl
 ·obtain⟨t,ht,rfl⟩:=hring x hx
  exact⟨hk ht 6 (by omega),hk ht 7 (by omega)⟩
 ·obtain⟨t,ht,rfl⟩:=hring x hx
  rw[hk ht 0 (by omega)]
  exact R.ring.hd _ hx
 ·by_cases hin:∃t,t∈D.live∧t.h=x
  ·obtain⟨t,ht,rfl⟩:=hin
   rw[hk ht 0 (by omega)]
   exact R.ring.mrk _ hx
  ·have hxr:x∉D.ring:=fun h=>hin (hring x h)
   have:uG (nth zs' (ai c x 0))=0:=by
    rcases M.heap.kinds hx with h0|⟨o,ho,rfl⟩|⟨y,hy,h2⟩
    ·rw[h0];exact jK.2.1
    ·rcases List.mem_append.1 ho with h1|h1
     ·obtain⟨t,ht,rfl⟩:=List.mem_map.1 h1
      exact absurd ⟨t,ht,rfl⟩ hin
     ·obtain rfl:=List.mem_singleton.1 h1
      rw[show nth zs' (ai c (iA b np nd ls).h 0)=_ from M.tag]
      split<;>decide
    ·rw[h2];exact(pY (by omega)).2.1
   rw[this]
   simp[Wd.made,hxr]
 ·refine R.grave.congr (hreg 3 (by omega) (by omega)) (hreg 4 (by omega) (by omega)) (hreg 5 (by omega) (by omega)) (fun x hx=> ?_)
  obtain⟨r,hr,e⟩:=List.mem_map.1 hx
  obtain⟨t,ht,e2⟩:=R.gv r hr
  have:x=t.h:=by omega
  rw[this,iI]
  exact hk ht 5 (by omega)
 ·obtain⟨t,ht,e⟩:=R.gv r hr
  exact⟨t,by rw[jS];simp[ht],e⟩
 ·rw[jS] at ht
  rcases List.mem_append.1 ht with h1|h1
  ·obtain⟨b1,b2,b3,b4⟩:=R.bur t h1 hg
   exact⟨b1,by rw[hk h1 6 (by omega)];exact b2,by rw[hk h1 7 (by omega)];exact b3,b4⟩
  ·obtain rfl:=List.mem_singleton.1 h1
   obtain⟨t,ht,e⟩:=R.gv _ hg
   exact absurd (show t.h=b by have:t.h+1=b+1:=e;omega) (hblk ht t.ob.iy b (iA b np nd ls).iy)
end
section
variable (D:Wd) (x y:Int)
def Wd.kQ:Int:=if bF (D.w:Int) x y=0 then(if(D.clean.length:Int)<aZ (D.w:Int) x y then 4 else 0) else bF (D.w:Int) x y
def Wd.wP:Nat:=(aZ (D.w:Int) x y).toNat-1
def Wd.wD:Nat:=D.clean.headD 0
def Wd.kG:Wd:=if D.kQ x y=0 then D.made D.wD (D.clean.tail.take (D.wP x y)) (D.clean.tail.drop (D.wP x y)) x.toNat y.toNat else D
def Wd.jO:Int:=if D.kQ x y=0 then(D.wD:Int)+1 else 0
end
theorem IZ{D:Wd}{x y:Int}(h:D.kQ x y=0):bF (D.w:Int) x y=0∧(x.toNat:Int)=x∧(y.toNat:Int)=y∧x≤63488∧y≤63488∧D.clean=D.wD::D.clean.tail.take (D.wP x y)++D.clean.tail.drop (D.wP x y)∧(1+(D.clean.tail.take (D.wP x y)).length:Int)=aZ (D.w:Int) x y:=by
 unfold Wd.kQ at h
 by_cases hs:bF (D.w:Int) x y=0
 ·rw[if_pos hs] at h
  by_cases hl:(D.clean.length:Int)<aZ (D.w:Int) x y
  ·rw[if_pos hl] at h;omega
  ·obtain⟨w0,w1,x0,y0,hf⟩:=uk hs
   have hb:aZ (D.w:Int) x y=1+bA (D.w:Int) (x+y):=by unfold aZ;rw[if_pos hs]
   have hbd:=lm (W:=(D.w:Int)) (n:=x+y) w0 w1 hf
   have hfl:aL (D.w:Int)≤63488:=by
    unfold aL
    have h1:(D.w:Int)-8≤248:=by omega
    have h2:(D.w:Int)-1≤255:=by omega
    have:=Int.mul_le_mul h1 h2 (by omega) (by omega)
    omega
   refine⟨hs,by omega,by omega,by omega,by omega,?_,?_⟩
   ·cases hc:D.clean with
    |nil=>rw[hc] at hl;simp at hl;omega
    |cons b t=>unfold Wd.wD;rw[hc];simp
   ·cases hc:D.clean with
    |nil=>rw[hc] at hl;simp at hl;omega
    |cons b t=>
     rw[hc] at hl
     simp at hl
     unfold Wd.wP
     simp
     omega
 ·rw[if_neg hs] at h
  exact absurd h hs
section
variable {w wr w':World} {p:Pl} {c:Cf} {D D':Wd} {zs zs':List Int} {lo q:Nat}
theorem LV(O:Nk)(c:Cf)(D:Wd)(x y:Int){wr w:World}{p:Pl}(h:ic w p c D wr):
  Calls Tryz.prog 68 #[.pointer (some ⟨p.a,0,none⟩),.int .i64 x,.int .i64 y] wr fun e w'=>e=.returned (.tuple #[.int .i64 (D.jO x y),.int .i64 (D.kQ x y)])∧ic w p c (D.kG x y) w'∧Touch (ah p) wr w':=by
 obtain⟨zs,m,hG,hR,hp,hB⟩:=h
 have hW:(D.w:Int)=(c.W:Int):=by rw[hR.w]
 by_cases h0:D.kQ x y=0
 ·obtain⟨hs,ex,ey,_,_,hcl,hk⟩:=IZ h0
  have hH:=hR.heap
  rw[hcl] at hH
  rw[hW] at hs hk
  obtain⟨B,zs',⟨d,_,H⟩,hM⟩:=O.make_yes c zs _ _ _ D.bZ x.toNat y.toNat hG.wz hH (by rw[ex,ey];exact hs) (by rw[ex,ey];exact hk)
  rw[ex,ey] at H
  refine(H p m wr hG).mono ?_
  rintro e w' ⟨rfl,hG',hT⟩
  refine⟨by unfold Wd.jO;rw[h0];rfl,⟨zs',_,hG',?_,hp,hB.trans (hT.below hp hB.size)⟩,hT⟩
  unfold Wd.kG
  rw[if_pos h0]
  exact hM.nE hR hG.may hcl
 ·have hD:D.kG x y=D:=by unfold Wd.kG;rw[if_neg h0]
  have hRv:D.jO x y=0:=by unfold Wd.jO;rw[if_neg h0]
  rw[hD,hRv]
  by_cases hs:bF (D.w:Int) x y=0
  ·have hl:(D.clean.length:Int)<aZ (D.w:Int) x y:=by
    by_cases hl:(D.clean.length:Int)<aZ (D.w:Int) x y
    ·exact hl
    ·exact absurd (by unfold Wd.kQ;rw[if_pos hs,if_neg hl]) h0
   have hE:D.kQ x y=4:=by unfold Wd.kQ;rw[if_pos hs,if_pos hl]
   rw[hE]
   rw[hW] at hs hl
   obtain⟨B,d,_,H⟩:=O.make_full c zs D.clean D.bZ x y hG.wz hR.heap hs hl
   refine(H p m wr hG).mono ?_
   rintro e w' ⟨rfl,hG',hT⟩
   exact⟨rfl,⟨zs,_,hG',hR,hp,hB.trans (hT.below hp hB.size)⟩,hT⟩
  ·have hE:D.kQ x y=bF (c.W:Int) x y:=by unfold Wd.kQ;rw[if_neg hs,hW]
   rw[hE]
   rw[hW] at hs
   obtain⟨B,d,_,H⟩:=O.make_size c zs x y hG.wz hs
   refine(H p m wr hG).mono ?_
   rintro e w' ⟨rfl,hG',hT⟩
   exact⟨rfl,⟨zs,_,hG',hR,hp,hB.trans (hT.below hp hB.size)⟩,hT⟩
theorem UH(x y:Int)(h:bT w lo q D)(hc:D.clean.length≤8000)(hts:D.ts.length≤8000)(hb:D.wD<1000000):
  Calls Tryz.prog 97 #[.pointer (some ⟨q,0,none⟩),.int .i64 x,.int .i64 y] w (dW w lo q (D.kG x y) (.tuple #[.int .i64 (D.jO x y),.int .i64 (D.kQ x y)])):=by
 obtain⟨lab,a,rfl,h⟩:=h
 by_cases h0:D.kQ x y=0
 ·obtain⟨hs,ex,ey,bx,by_,hcl,hk⟩:=IZ h0
  have:=JP h hcl x.toNat y.toNat (by rw[ex,ey];exact hs) (by rw[ex,ey];exact hk) hc (by omega) (by omega) hb hts
  rw[ex,ey] at this
  unfold Wd.kG Wd.jO
  rw[if_pos h0,if_pos h0,h0]
  exact this
 ·have hD:D.kG x y=D:=by unfold Wd.kG;rw[if_neg h0]
  have hRv:D.jO x y=0:=by unfold Wd.jO;rw[if_neg h0]
  rw[hD,hRv]
  have hF:Calls Tryz.prog 168 #[.pointer (some ⟨a.hb,0,none⟩),.int .i64 x,.int .i64 y] w fun e w'=>e=.returned (.tuple #[.int .i64 0,.int .i64 (D.kQ x y)])∧w=w':=by
   by_cases hs:bF (D.w:Int) x y=0
   ·have hl:(D.clean.length:Int)<aZ (D.w:Int) x y:=by
     by_cases hl:(D.clean.length:Int)<aZ (D.w:Int) x y
     ·exact hl
     ·exact absurd (by unfold Wd.kQ;rw[if_pos hs,if_neg hl]) h0
    rw[show D.kQ x y=4 by unfold Wd.kQ;rw[if_pos hs,if_pos hl]]
    exact EC h.h x y hs hl
   ·rw[show D.kQ x y=bF (D.w:Int) x y by unfold Wd.kQ;rw[if_neg hs]]
    exact ED h.h x y hs
  refine(JO h x y _ h0 hF).mono ?_
  rintro e w' ⟨rfl,rfl⟩
  exact⟨rfl,⟨lab,a,rfl,h⟩,Touch.refl _ _⟩
theorem EG(n v:Nat)(w:World)(hn:n≤10000):
  Calls Tryz.prog 94 #[.int .i64 (n:Int),.int .i64 (v:Int)] w fun e w'=>∃h a cap,e=.returned (.pointer (some ⟨h,0,none⟩))∧aT w' h #[.int .i64 (n:Int),.int .i64 (v:Int),.slice a n cap,.slice none 0 0] 92∧Row w' .i64 a (ints (List.range n))∧(0<n→∀b off,a=some ⟨b,off,none⟩→w.heap.size≤b∧b<h)∧w.heap.size≤h∧Below w.heap.size w w':=by
 go_enter Tryz.func94,Tryz.ntmps94
 go_wp2_with fail
 refine(FQ n _ hn).mono ?_
 rintro e w1 ⟨a,cap,rfl,hr,hf,hb⟩
 have HR:=hid hr
 have HF:=hid hf
 have HB:=hid hb
 rw[List.length_range]
 clear hr hf hb
 go_wp2_with fail
 go_ret
 refine⟨w1.heap.size,a,cap,rfl,aT.new _ _ _,HR.out.alloc _,fun h0 b off e=>⟨HF.out b off e,?_⟩,HB.out.size,HB.out.alloc HB.out.size _⟩
 obtain⟨b',off',e',hb',_⟩:=HR.out 0 (by simpa[ints] using h0)
 rw[e] at e'
 cases e'
 exact hb'
theorem VY(n v:Nat)(w:World)(hn:n≤10000):
  Calls Tryz.prog 36 #[.int .i64 (n:Int),.int .i64 (v:Int)] w fun e w'=>∃q,e=.returned (.pointer (some ⟨q,0,none⟩))∧bT w' w.heap.size q (Wd.new n v)∧Below w.heap.size w w':=by
 go_enter Tryz.func36,Tryz.ntmps36
 go_wp2_with fail
 refine(EG n v _ hn).mono ?_
 rintro e w1 ⟨h,a,cap,rfl,hk,hr,hf,hh,hb⟩
 have HK:=hid hk
 have HR:=hid hr
 have HF:=hid hf
 have HB:=hid hb
 have HH:=hid hh
 clear hr hf hb hk hh
 go_wp2_with fail
 go_ret
 have hlt:=HK.out.lt
 refine⟨w1.heap.size,rfl,⟨fun k=>if k=w1.heap.size then 0 else if k=h then 1 else 4,⟨w1.heap.size,h,.slice none 0 0,.slice none 0 0,a,none,none,cap,0,0,[]⟩,rfl,⟨?_,⟨HH.out,?_⟩,rfl,World.ownsRow_nil _ _ _ _,fun g hg=>(by cases hg),fun i t x ht=>(by simp[Wd.new] at ht),?_,?_,fun t ht=>(by simp[Wd.new] at ht)⟩,?_,⟨HB.out.size,if_pos rfl⟩,World.ownsRow_nil _ _ _ _,fun g hg=>(by cases hg),fun i t x ht=>(by simp[Wd.new] at ht),Row.nil _ _ _,qZ.nil _ _ _ _ _,Row.nil _ _ _,qZ.nil _ _ _ _ _⟩,HB.out.alloc HB.out.size _⟩
 ·have:=HK.out.alloc (.cells #[.pointer (some ⟨h,0,none⟩),.slice none 0 0,.int .i64 0,.int .i64 0,.int .i64 0,.int .i64 0,.int .i64 0,.int .i64 0,.int .i64 0,.int .i64 0,.int .i64 0,.slice none 0 0,.slice none 0 0,.int .i64 0] 78)
  simpa[hcells,Wd.new] using this
 ·show(if h=w1.heap.size then 0 else if h=h then 1 else 4)=1
  rw[if_neg (by omega),if_pos rfl]
 ·exact HR.out.alloc _
 ·intro h0 b off e
  have h0':0<n:=by simpa[Wd.new] using h0
  obtain⟨g1,g2⟩:=HF.out h0' b off e
  refine⟨g1,by simp;omega,?_⟩
  show(if _ then _ else if _ then _ else _)=_
  rw[if_neg (by omega),if_neg (by omega)]
 ·exact aT.new _ _ _
def Nl(w:World)(c:Cf)(e:Ending)(w':World):Prop:=
 ∃p q lo,e=.returned (.tuple #[.pointer (some ⟨Pl.a p,0,none⟩),.pointer (some ⟨q,0,none⟩),.bool true])∧ic w p c (Wd.new c.N c.W) w'∧bT w' lo q (Wd.new c.N c.W)∧(∀i,lo≤i→¬nR p i)∧w.heap.size≤lo∧lo≤w'.heap.size
set_option maxHeartbeats 1000000 in
theorem tQ(F:Bu)(c:Cf)(w:World)(hm:c.May)(hn:c.N≤10000):Calls Tryz.prog 8 #[c.val] w (Nl w c):=by
 have hg:=Od c (w.alloc (.cells #[.int .i64 (c.N:Int),.int .i64 (c.W:Int),.int .i64 (c.R:Int),.int .i64 (c.K:Int)] 23)) hm
 unfold Cf.val at hg ⊢
 have HGN:=hid hg
 obtain⟨zo,hzo,hOp⟩:=F.open_yes c hm
 obtain⟨dO,_,HO⟩:=hzo
 have DO:=hid (fun p m w hG=>HO p m w hG)
 have HOp:=hid (hOp.nE hm)
 have HBk0:=hid (aT.new w #[.int .i64 (c.N:Int),.int .i64 (c.W:Int),.int .i64 (c.R:Int),.int .i64 (c.K:Int)] 23)
 clear hg HO hOp
 go_enter Tryz.func8,Tryz.ntmps8
 go_wp2_with fail
 refine HGN.out.mono ?_
 rintro e w1 ⟨p,rfl,hG,hp,hb⟩
 have HG:=hid hG
 have HBk:=hid (HBk0.out.later hb)
 have HP:Hid (∀k,ah p k→w.heap.size≤k):=hid (fun k hk=>Nat.le_trans (below_new w _).size (hp k (Or.inr hk)))
 have HNo:Hid (¬ah p w.heap.size):=hid (fun hx=>by have:=hp _ (Or.inr hx);simp at this;omega)
 have HB:Hid (Below w.heap.size w w1):=hid (below_step (below_new w _) hb)
 clear hG hp hb
 go_wp2_with fail
 refine(DO.out p 0 _ HG.out).mono ?_
 rintro e w4 ⟨rfl,hG4,hT4⟩
 have HS4:Hid (ic w p c (Wd.new c.N c.W) w4):=hid ⟨zo,_,hG4,HOp.out,HP.out,HB.out.trans (hT4.below (B:=w.heap.size) HP.out HB.out.size)⟩
 have hk:=HBk.out.touch hT4 HNo.out
 have c0:=hk.cell 0 rfl
 have c1:=hk.cell 1 rfl
 have hz:w.heap.size<w4.heap.size:=hk.lt
 have HW:=hid (VY c.N c.W w4 hn)
 clear hG4 hT4 hk
 go_wp2_with fail
 refine HW.out.mono ?_
 rintro e w5 ⟨q,rfl,hN,hb⟩
 have HS5:=hid (HS4.out.later hb)
 have HN:=hid hN
 have HSz:Hid (w4.heap.size≤w5.heap.size):=hid hb.size
 clear hN hb
 go_wp2_with fail
 go_ret3
 exact⟨p,q,w4.heap.size,rfl,HS5.out,HN.out,fun i hi=>HS4.out.Vu hi,by omega,HSz.out⟩
theorem Je(F:Bu)(n:Nat)(w:World)(h0:1≤n)(h1:n≤1000):Calls Tryz.prog 8 #[.agg #[.int .i64 (n:Int),.int .i64 16,.int .i64 1,.int .i64 1]] w (Nl w (cfR n)):=tQ F (cfR n) w (QK h0 h1) (Nat.le_trans h1 (by omega))
end
theorem Does.as{c:Cf}{D D' D2:Wd}{f:FuncId}{args:List Value}{B:Nat}{v v2:Value}(h:Does c D f args B D' v)(hv:v=v2)(hD:D'=D2):Does c D f args B D2 v2:=by subst hv hD;exact h
theorem vb{a b:Bool}(h:a=b):Value.bool a=.bool b:=by rw[h]
theorem vi{a b:Int}(h:a=b):Value.int .i64 a=.int .i64 b:=by rw[h]
theorem EI(r:Int)(h: -1000000≤r∧r≤1000000:=by omega):In64 r:=by unfold In64;omega
theorem ic.Pv(R:Bw){w wr:World}{p:Pl}{c:Cf}{D:Wd}(h:ic w p c D wr):Calls Tryz.prog 118 #[.pointer (some ⟨p.a,0,none⟩)] wr (fA D.ring wr):=h.looks (fun zs hz hr=>R.list c zs D.ring hz hr.ring)
structure Wm:Prop where
 turn:∀(w:World),∃v,Calls Tryz.prog 37 #[.pointer none] w fun e w'=>e=.returned v∧Below w.heap.size w w'
 at_:∀(w:World),Calls Tryz.prog 47 #[.pointer none] w fun e w'=>e=.returned (.tuple #[.int .i64 0,.int .i64 0])∧Below w.heap.size w w'
 parity:∀(w:World),Calls Tryz.prog 95 #[.pointer none] w fun e w'=>e=.returned (.int .i64 0)∧Below w.heap.size w w'
 phase:∀(w:World),Calls Tryz.prog 48 #[.pointer none] w fun e w'=>e=.returned (.int .i64 0)∧Below w.heap.size w w'
 begin_:∀(i:Int) (w:World),Calls Tryz.prog 21 #[.pointer none,.int .i64 i] w fun e w'=>e=.returned (.bool false)∧Below w.heap.size w w'
 move:∀(r:Int) (i:Int) (w:World),Calls Tryz.prog 53 #[.pointer none,.int .i64 r,.int .i64 i] w fun e w'=>e=.returned (.bool false)∧Below w.heap.size w w'
 nQ:∀(r:Int) (w:World),Calls Tryz.prog 69 #[.pointer none,.int .i64 r] w fun e w'=>e=.returned (.bool false)∧Below w.heap.size w w'
 fB:∀(r:Int) (w:World),Calls Tryz.prog 51 #[.pointer none,.int .i64 r] w fun e w'=>e=.returned (.bool false)∧Below w.heap.size w w'
 cO:∀(r:Int) (w:World),Calls Tryz.prog 54 #[.pointer none,.int .i64 r] w fun e w'=>e=.returned (.bool false)∧Below w.heap.size w w'
 touch:∀(r:Int) (w:World),Calls Tryz.prog 88 #[.pointer none,.int .i64 r] w fun e w'=>e=.returned (.bool false)∧Below w.heap.size w w'
 dead:∀(r:Int) (w:World),Calls Tryz.prog 50 #[.pointer none,.int .i64 r] w fun e w'=>e=.returned (.bool false)∧Below w.heap.size w w'
 kill:∀(r:Int) (w:World),Calls Tryz.prog 134 #[.pointer none,.int .i64 r] w fun e w'=>e=.returned (.bool false)∧Below w.heap.size w w'
 shadow:∀(r:Int) (w:World),Calls Tryz.prog 121 #[.pointer none,.int .i64 r] w fun e w'=>e=.returned (.int .i64 0)∧Below w.heap.size w w'
 fG:∀(r:Int) (w:World),Calls Tryz.prog 181 #[.pointer none,.int .i64 r] w fun e w'=>e=.returned (.bool false)∧Below w.heap.size w w'
 aI:∀(r:Int) (w:World),Calls Tryz.prog 188 #[.pointer none,.int .i64 r] w fun e w'=>e=.returned (.bool false)∧Below w.heap.size w w'
 counted:∀(r:Int) (i:Int) (w:World),Calls Tryz.prog 123 #[.pointer none,.int .i64 r,.int .i64 i] w fun e w'=>e=.returned (.bool false)∧Below w.heap.size w w'
 done:∀(r:Int) (w:World),Calls Tryz.prog 137 #[.pointer none,.int .i64 r] w fun e w'=>e=.returned (.bool false)∧Below w.heap.size w w'
end Go.Proofs.YtjmifnljckmimaaGreat.Pk
