/-
  Texts laid together: ObjFn4, ObjFn5, CountFn.
-/
import Derived.Test.YtjmifnljckmimaaGreatObjRdEtc
import Derived.Test.YtjmifnljckmimaaGreatChainsEtc
import Derived.Test.YtjmifnljckmimaaGreatPoolDoEtc
namespace Go.Proofs.YtjmifnljckmimaaGreat.Pk
open Lib (hid)
open Go.RowKit
set_option linter.unusedVariables false
set_option linter.unusedSimpArgs false
set_option maxRecDepth 100000
section
variable {p:Pl} {c:Cf} {s:St} {w:World}
theorem Al(np nd:Int)(hG:G w p c s)(he:dM c.W np nd≠0):
  Calls Tryz.prog 68 #[.pointer (some ⟨p.a,0,none⟩),.int .i64 np,.int .i64 nd] w (GP w p c s (.tuple #[.int .i64 0,.int .i64 (dM c.W np nd)])):=by
 have HSB:=hid (iM c.W np nd)
 generalize dM c.W np nd=E at*
 have hne:(E !=0)=true:=by simpa using he
 have HG:=hid hG
 have hfd:=jw (c.N:Int) (c.W:Int) (c.R:Int) (c.K:Int)
 clear hG he
 go_enter Tryz.func68,Tryz.ntmps68
 have HT0:Hid (Touch (inG p) w w):=hid (Touch.refl _ _)
 go_wp2_with fail
 refine(cZ p c s _ HG.out).mono ?_
 rintro e wm1 ⟨rfl,hb⟩
 have HG1:=hid (HG.out.later hb)
 have HT1:Hid (Touch (inG p) _ wm1):=hid (HT0.out.trans (Touch.of_below hb))
 clear hb
 go_wp2_with fail
 refine(HSB.out _).mono ?_
 rintro e wm2 ⟨rfl,hb⟩
 have HG2:=hid (HG1.out.later hb)
 have HT2:Hid (Touch (inG p) _ wm2):=hid (HT1.out.trans (Touch.of_below hb))
 clear hb
 go_wp2_with fail
 go_ret2
 exact⟨rfl,HG2.out,HT2.out⟩
theorem Ak(np nd:Int)(pool:List Nat)(hG:G w p c s)(hC:aR c s.zs 0 pool)(he:dM c.W np nd=0)(hl:(pool.length:Int)<bL c.W np nd):
  Calls Tryz.prog 68 #[.pointer (some ⟨p.a,0,none⟩),.int .i64 np,.int .i64 nd] w (GP w p c ⟨s.zs,s.m+1⟩ (.tuple #[.int .i64 0,.int .i64 4])):=by
 have hSB:=iM c.W np nd
 rw[he] at hSB
 have HSB:=hid hSB
 have HLen:=hid (fun w' (hG':G w' p c s)=>Fx p c s _ w' hG' hC)
 obtain⟨B,hB⟩:∃B:Int,B=bL c.W np nd:=⟨_,rfl⟩
 obtain⟨T,hT⟩:∃T:Int,T=(pool.length:Int):=⟨_,rfl⟩
 rw[←hB] at HSB
 rw[←hT] at HLen
 have hlt:T<B:=by rw[hT,hB];exact hl
 have HG:=hid hG
 have hfd:=jw (c.N:Int) (c.W:Int) (c.R:Int) (c.K:Int)
 clear hG he hl hC hSB hB hT
 go_enter Tryz.func68,Tryz.ntmps68
 have HT0:Hid (Touch (inG p) w w):=hid (Touch.refl _ _)
 go_wp2_with fail
 refine(cZ p c s _ HG.out).mono ?_
 rintro e wm1 ⟨rfl,hb⟩
 have HG1:=hid (HG.out.later hb)
 have HT1:Hid (Touch (inG p) _ wm1):=hid (HT0.out.trans (Touch.of_below hb))
 clear hb
 go_wp2_with fail
 refine(HSB.out _).mono ?_
 rintro e wm2 ⟨rfl,hb⟩
 have HG2:=hid (HG1.out.later hb)
 have HT2:Hid (Touch (inG p) _ wm2):=hid (HT1.out.trans (Touch.of_below hb))
 clear hb
 go_wp2_with fail
 refine(HLen.out _ HG2.out).mono ?_
 rintro e wm3 ⟨rfl,hG,hT⟩
 have HG3:=hid hG
 have HT3:Hid (Touch (inG p) _ wm3):=hid (HT2.out.trans hT)
 clear hG hT
 go_wp2_with fail
 go_ret2
 exact⟨rfl,HG3.out,HT3.out⟩
def JK(w:World)(base:Nat)(e:TypeId)(k:IntKind)(v:Value)(l:List Int):Prop:=w.ownsRow base e 1 v l.length (l.map (Value.int k))
theorem gp{w:World}{base:Nat}{e t:TypeId}{v:Value}{n:Nat}{xs:List Value}{b:Nat}{cs:Array Value}(h:w.ownsRow base e 1 v n xs)(hb:Blk w b cs t)(ht:t≠e):some b≠v.ownBlock:=by
 rcases h.2 with⟨rfl,_⟩|⟨g,cap,cur,rfl,_,hg,_⟩
 ·intro e;cases e
 ·intro e2
  have:b=g:=by simpa[Value.ownBlock] using e2
  subst this
  unfold Blk at hb
  rw[hb] at hg
  cases hg
  exact ht rfl
theorem vY{w:World}{base:Nat}{e t:TypeId}{v u:Value}{n m:Nat}{xs ys:List Value}(h:w.ownsRow base e 1 v n xs)(k:w.ownsRow base t 1 u m ys)(ht:t≠e):u.ownBlock=none∨u.ownBlock≠v.ownBlock:=by
 rcases k.2 with⟨rfl,_⟩|⟨g,cap,cur,rfl,_,hg,_⟩
 ·exact .inl rfl
 ·exact .inr (gp h (b:=g) (cs:=cur) hg ht)
theorem Blk.grown{w w':World}{row:Option Nat}{b:Nat}{cs:Array Value}{t:TypeId}(h:Blk w b cs t)(hg:w.grownBy w' row)(hne:some b≠row):Blk w' b cs t:=(hg.block b h.lt hne).trans h
theorem jC{w:World}{base:Nat}{e t:TypeId}{v:Value}{n:Nat}{xs:List Value}{q i:Nat}{cs:Array Value}(h:w.ownsRow base e 1 v n xs)(hb:Blk w q cs t)(ht:t≠e)(u:Value):(w.setCell ⟨q,i,none⟩ u).ownsRow base e 1 v n xs:=by
 refine⟨h.1,?_⟩
 have hne:=gp h hb ht
 rcases h.2 with hn|⟨g,cap,cur,rfl,hbg,hgg,rest⟩
 ·exact .inl hn
 ·exact .inr ⟨g,cap,cur,rfl,hbg,(Below.heap_setCell _ _ _ _ (fun e=>hne (congrArg some e.symm))).trans hgg,rest⟩
theorem dx{w w':World}{base:Nat}{e:TypeId}{v:Value}{n:Nat}{xs:List Value}(h:w.ownsRow base e 1 v n xs)(hb:Below w.heap.size w w'):w'.ownsRow base e 1 v n xs:=by
 refine⟨h.1,?_⟩
 rcases h.2 with hn|⟨g,cap,cur,rfl,hbg,hgg,rest⟩
 ·exact .inl hn
 ·exact .inr ⟨g,cap,cur,rfl,hbg,(hb.block g (lt_of_block hgg)).trans hgg,rest⟩
structure mP (w:World) (p:Pl) (c:Cf) (s:St) (np nd:Nat) (P D:List Int) (nl q rb:Nat) (wr:World) (v1 v2:Value):Prop where
 g:G wr p c s
 b:Below w.heap.size w wr
 ln:Blk wr nl #[.int .i64 (np:Int),.int .i64 (nd:Int)] 113
 ob:Blk wr q #[v1,v2] 57
 rs:Blk wr rb #[.slice none 0 0,.slice none 0 0] 57
 o1:JK wr w.heap.size 3 .i64 v1 P
 o2:JK wr w.heap.size 119 .u32 v2 D
theorem mP.later{w wr w':World}{np nd:Nat}{P D:List Int}{nl q rb:Nat}{v1 v2:Value}(h:mP w p c s np nd P D nl q rb wr v1 v2)(hb:Below wr.heap.size wr w'):mP w p c s np nd P D nl q rb w' v1 v2:=
 ⟨h.g.later hb,below_step h.b hb,h.ln.later hb,h.ob.later hb,h.rs.later hb,dx h.o1 hb,dx h.o2 hb⟩
theorem mP.ptr{w wr w4:World}{np nd:Nat}{P D:List Int}{nl q rb:Nat}{v1 v2 v':Value}{y:Int}{ob:Obj}(h:mP w p c s np nd P D nl q rb wr v1 v2)(hw:w.heap.size≤q)(hqr:q≠rb)(hG:∀i,jf p i→i<w.heap.size)
  (ho:w4.ownsRow w.heap.size 3 1 v' (P.length+1) (P.map (Value.int .i64)++[.int .i64 y])) (hg:(wr.alloc ob).grownBy w4 v1.ownBlock):
  Blk w4 q #[v1,v2] 57∧Blk w4 nl #[.int .i64 (np:Int),.int .i64 (nd:Int)] 113∧mP w p c s np nd (P++[y]) D nl q rb (w4.setCell ⟨q,0,none⟩ v') v' v2:=by
 have hsz:=h.b.size
 have o1a:(wr.alloc ob).ownsRow w.heap.size 3 1 v1 P.length (P.map (Value.int .i64)):=dx h.o1 (below_new _ _)
 have o2a:(wr.alloc ob).ownsRow w.heap.size 119 1 v2 D.length (D.map (Value.int .u32)):=dx h.o2 (below_new _ _)
 have q4:=(h.ob.alloc ob).grown hg (gp o1a (h.ob.alloc ob) (by decide))
 have l4:=(h.ln.alloc ob).grown hg (gp o1a (h.ln.alloc ob) (by decide))
 have r4:=(h.rs.alloc ob).grown hg (gp o1a (h.rs.alloc ob) (by decide))
 have o24:=o2a.kept hg (vY o1a o2a (by decide))
 have b4:Below w.heap.size w w4:=(h.b.alloc hsz ob).grown hg (by simp;omega) (bf o1a)
 have t4:=nJ hg (bf o1a) hsz
 have hq:=hw
 refine⟨q4,l4,?_,b4.setCell (p:=⟨q,0,none⟩) hq _,?_,q4.put 0 v' rfl,?_,?_,jC o24 q4 (by decide) _⟩
 ·have g4:G w4 p c s:=h.g.touch t4 (fun i hi hx=>by have h1:w.heap.size≤i:=hx;have:=hG i hi;omega)
  exact g4.touch ((Touch.refl (fun i=>i=q) w4).setCell (p:=⟨q,0,none⟩) (fun _=>rfl) v') (fun i hi e=>by have e2:i=q:=e;have:=hG i hi;omega)
 ·exact l4.other (p:=⟨q,0,none⟩) (fun e=>by have e2:q=nl:=e;subst e2;unfold Blk at q4 l4;rw[q4] at l4;cases l4) _
 ·exact r4.other (p:=⟨q,0,none⟩) hqr _
 ·have:=jC (i:=0) ho q4 (by decide) v'
  unfold JK
  rw[List.map_append,List.length_append]
  exact this
theorem mP.data{w wr w4:World}{np nd:Nat}{P D:List Int}{nl q rb:Nat}{v1 v2 v':Value}{y:Int}{ob:Obj}(h:mP w p c s np nd P D nl q rb wr v1 v2)(hw:w.heap.size≤q)(hqr:q≠rb)(hG:∀i,jf p i→i<w.heap.size)
  (ho:w4.ownsRow w.heap.size 119 1 v' (D.length+1) (D.map (Value.int .u32)++[.int .u32 y])) (hg:(wr.alloc ob).grownBy w4 v2.ownBlock):
  Blk w4 q #[v1,v2] 57∧Blk w4 nl #[.int .i64 (np:Int),.int .i64 (nd:Int)] 113∧mP w p c s np nd P (D++[y]) nl q rb (w4.setCell ⟨q,1,none⟩ v') v1 v':=by
 have hsz:=h.b.size
 have o1a:(wr.alloc ob).ownsRow w.heap.size 3 1 v1 P.length (P.map (Value.int .i64)):=dx h.o1 (below_new _ _)
 have o2a:(wr.alloc ob).ownsRow w.heap.size 119 1 v2 D.length (D.map (Value.int .u32)):=dx h.o2 (below_new _ _)
 have q4:=(h.ob.alloc ob).grown hg (gp o2a (h.ob.alloc ob) (by decide))
 have l4:=(h.ln.alloc ob).grown hg (gp o2a (h.ln.alloc ob) (by decide))
 have r4:=(h.rs.alloc ob).grown hg (gp o2a (h.rs.alloc ob) (by decide))
 have o14:=o1a.kept hg (vY o2a o1a (by decide))
 have b4:Below w.heap.size w w4:=(h.b.alloc hsz ob).grown hg (by simp;omega) (bf o2a)
 have t4:=nJ hg (bf o2a) hsz
 have hq:=hw
 refine⟨q4,l4,?_,b4.setCell (p:=⟨q,1,none⟩) hq _,?_,q4.put 1 v' rfl,?_,jC o14 q4 (by decide) _,?_⟩
 ·have g4:G w4 p c s:=h.g.touch t4 (fun i hi hx=>by have h1:w.heap.size≤i:=hx;have:=hG i hi;omega)
  exact g4.touch ((Touch.refl (fun i=>i=q) w4).setCell (p:=⟨q,1,none⟩) (fun _=>rfl) v') (fun i hi e=>by have e2:i=q:=e;have:=hG i hi;omega)
 ·exact l4.other (p:=⟨q,1,none⟩) (fun e=>by have e2:q=nl:=e;subst e2;unfold Blk at q4 l4;rw[q4] at l4;cases l4) _
 ·exact r4.other (p:=⟨q,1,none⟩) hqr _
 ·have:=jC (i:=1) ho q4 (by decide) v'
  unfold JK
  rw[List.map_append,List.length_append]
  exact this
theorem IX{os:List Ob}{pool:List Nat}{r:Int}(hG:G w p c s)(H:ah c s.zs pool os)(hr:In64 r)(ho:dJ os r=none):
  Calls Tryz.prog 23 #[.pointer (some ⟨p.a,0,none⟩),.int .i64 r] w fun e w'=>e=.returned (.tuple #[.agg #[.slice none 0 0,.slice none 0 0],.bool false])∧Below w.heap.size w w':=by
 have hmf:∀(fn:Fn) (first cap:Array Value) (w:World),(Instr.makeFunc fn first cap).run Tryz.prog w=.ok (.func fn first cap) w:=fun _ _ _ _=>rfl
 have HL:=hid (fun w' (hG':G w' p c s)=>qM (LA p c) s (prev r) _ w' hG' rfl (nQ H hG.may hr ho))
 have e1:wrap64 (r-1)=prev r:=rfl
 have HG0:=hid (hG.alloc (.cells #[.slice none 0 0,.slice none 0 0] 57))
 have BR:=hid (Blk.new w #[.slice none 0 0,.slice none 0 0] 57)
 have HT0:=hid (below_new w (.cells #[.slice none 0 0,.slice none 0 0] 57))
 clear hG H hr ho
 go_enter Tryz.func23,Tryz.ntmps23
 go_wp2_with fail
 generalize w.alloc (.cells #[.slice none 0 0,.slice none 0 0] 57)=w0 at*
 refine(HL.out _ HG0.out).mono ?_
 rintro e w1 ⟨rfl,hG,hR⟩
 have BR1:=hid (BR.out.later hR)
 have HT1:Hid (Below w.heap.size w w1):=hid (below_step HT0.out hR)
 have hz:w.heap.size<w1.heap.size:=Nat.lt_of_lt_of_le BR.out.lt hR.size
 clear hG hR HG0 BR HT0
 have r0:=BR1.out.cell 0 rfl
 have r1:=BR1.out.cell 1 rfl
 have f0:=BR1.out.free 0
 have f1:=BR1.out.free 1
 go_wp2_with fail
 exact bodyPost_ret (v:=.tuple #[.agg #[.slice none 0 0,.slice none 0 0],.bool false]) (by simp[results,Tryz.results23,go_sem,r0,r1,hz]) rfl ⟨rfl,by
  have h2:=(HT1.out.setCell (p:=⟨w.heap.size,0,none⟩) (Nat.le_refl _) (.slice none 0 0)).setCell (p:=⟨w.heap.size,1,none⟩) (Nat.le_refl _) (.slice none 0 0)
  exact h2.alloc h2.size _⟩
theorem Df{c:Cf}{zs:List Int}{o:Ob}{k:Nat}(h:k<o.np):(jl c zs o).take (k+1)=(jl c zs o).take k++[fK c zs o k]:=by
 rw[List.take_succ_eq_append_getElem (by rw[fo];exact h)]
 congr 2
 unfold jl
 simp
theorem yD{c:Cf}{zs:List Int}{o:Ob}{k:Nat}(h0:o.np≤k)(h:k<o.f):(fe c zs o).take (k+1-o.np)=(fe c zs o).take (k-o.np)++[fK c zs o k]:=by
 have h':k-o.np<o.nd:=by unfold Ob.f at h;omega
 rw[show k+1-o.np=(k-o.np)+1 by omega,List.take_succ_eq_append_getElem (by rw[jy];exact h')]
 congr 2
 unfold fe
 simp
 congr 1
 omega
theorem rU{c:Cf}{zs:List Int}{o:Ob}{k:Nat}{q:Nat × Nat}(h:bi c o k=some q):fK c zs o k=nth zs (adr c q.1 q.2):=by unfold fK aS;rw[h];rfl
theorem rT{c:Cf}{zs:List Int}{o:Ob}{k:Nat}(h:bi c o k=none):fK c zs o k=0:=by unfold fK aS;rw[h];rfl
theorem iA.Sg{w:World}{base:Nat}{e:TypeId}{k:IntKind}{v:Value}{l:List Int}(h:JK w base e k v l):
  ∃a cap,v=.slice a l.length cap∧iA w k a l∧(∀b off,a=some ⟨b,off,none⟩→base≤b∧b<w.heap.size∧∃cs,Blk w b cs e):=by
 obtain⟨a,cap,hv,ho⟩:=iA.kI h
 refine⟨a,cap,hv,ho,fun b off ha=> ?_⟩
 rcases h.2 with⟨h1,h2⟩|⟨g,cap',cur,h1,hb,hg,_⟩
 ·rw[h1] at hv;subst ha;cases hv
 ·rw[h1] at hv
  subst ha
  cases hv
  exact⟨hb,lt_of_block hg,cur,hg⟩
theorem LW{w wr:World}{o:Ob}{nl q:Nat}{a1 a2:Option Addr}{c1 c2:Nat}(h:mP w p c s o.np o.nd (jl c s.zs o) (fe c s.zs o) nl q w.heap.size wr (.slice a1 o.np c1) (.slice a2 o.nd c2))
  (w1:iA wr .i64 a1 (jl c s.zs o)) (w2:iA wr .u32 a2 (fe c s.zs o)) (x1:∀b off,a1=some ⟨b,off,none⟩→w.heap.size≤b∧b<wr.heap.size∧∃cs,Blk wr b cs 3) (x2:∀b off,a2=some ⟨b,off,none⟩→w.heap.size≤b∧b<wr.heap.size∧∃cs,Blk wr b cs 119):
  OU c s.zs o w (.returned (.tuple #[.agg #[.slice a1 o.np c1,.slice a2 o.nd c2],.bool true])) ((wr.setCell ⟨w.heap.size,0,none⟩ (.slice a1 o.np c1)).setCell ⟨w.heap.size,1,none⟩ (.slice a2 o.nd c2)):=by
 have hT:Touch (fun i=>i=w.heap.size) wr ((wr.setCell ⟨w.heap.size,0,none⟩ (.slice a1 o.np c1)).setCell ⟨w.heap.size,1,none⟩ (.slice a2 o.nd c2)):=((Touch.refl (fun i=>i=w.heap.size) wr).setCell (p:=⟨w.heap.size,0,none⟩) (fun _=>rfl) _).setCell (p:=⟨w.heap.size,1,none⟩) (fun _=>rfl) _
 have hB:Below w.heap.size w ((wr.setCell ⟨w.heap.size,0,none⟩ (.slice a1 o.np c1)).setCell ⟨w.heap.size,1,none⟩ (.slice a2 o.nd c2)):=(h.b.setCell (p:=⟨w.heap.size,0,none⟩) (Nat.le_refl _) _).setCell (p:=⟨w.heap.size,1,none⟩) (Nat.le_refl _) _
 have ne:∀(b:Nat) (cs:Array Value) (t:TypeId),Blk wr b cs t→t≠57→b≠w.heap.size:=fun b cs t hb ht e=>by
  subst e
  have h2:=h.rs
  unfold Blk at hb h2
  rw[hb] at h2
  cases h2
  exact ht rfl
 refine⟨a1,c1,a2,c2,rfl,w1.touch hT (fun _ b off e hx=> ?_),w2.touch hT (fun _ b off e hx=> ?_),fun b off e=>(x1 b off e).1,fun b off e=>(x2 b off e).1,fun b off b' off' e e' e2=> ?_,hB,fun b off e=> ?_,fun b off e=> ?_⟩
 ·obtain⟨_,_,cs,hb⟩:=x1 b off e
  exact ne b cs _ hb (by decide) hx
 ·obtain⟨_,_,cs,hb⟩:=x2 b off e
  exact ne b cs _ hb (by decide) hx
 ·obtain⟨_,_,cs,hb⟩:=x1 b off e
  obtain⟨_,_,cs',hb'⟩:=x2 b' off' e'
  subst e2
  unfold Blk at hb hb'
  rw[hb] at hb'
  cases hb'
 ·exact Nat.lt_of_lt_of_le (x1 b off e).2.1 hT.size
 ·exact Nat.lt_of_lt_of_le (x2 b off e).2.1 hT.size
set_option maxHeartbeats 4000000 in
theorem Fp{os:List Ob}{pool:List Nat}{o:Ob}(hG:G w p c s)(H:ah c s.zs pool os)(ho:o∈os):
  Calls Tryz.prog 23 #[.pointer (some ⟨p.a,0,none⟩),.int .i64 ((o.h:Int)+1)] w (OU c s.zs o w):=by
 have hmf:∀(fn:Fn) (first cap:Array Value) (w:World),(Instr.makeFunc fn first cap).run Tryz.prog w=.ok (.func fn first cap) w:=fun _ _ _ _=>rfl
 obtain⟨i0,hi,hz0,hz1,hz2⟩:=info_parts (show(Tryz.prog.info? 3).map (fun i=>(i.zero,i.size,i.bytes))=some (some (.int .i64 0),1,8) by kernel_rfl)
 obtain⟨j0,hj,hy0,hy1,hy2⟩:=info_parts (show(Tryz.prog.info? 119).map (fun i=>(i.zero,i.size,i.bytes))=some (some (.int .u32 0),1,4) by kernel_rfl)
 have hm:=hG.may
 have hA:=H.obs o ho
 have hsm:=vW hG H ho
 have HL:Hid (∀w',G w' p c s→Calls Tryz.prog 80 #[.func (.func 81) #[.pointer (some ⟨p.a,0,none⟩)] #[],.int .i64 (o.h:Int)] w' (LP (fun w w'=>Below w.heap.size w w') w' p c s (.tuple #[.agg #[.int .i64 (o.np:Int),.int .i64 (o.nd:Int)],.bool true]))):=hid (fun w' hG'=>by
  have h:=pK (LA p c) s o.h o.np o.nd _ w' hG' rfl hA.hlt hA.head hA.w1 hA.w2
  rw[Nat.zero_mul] at h
  exact h)
 obtain⟨b1,b2⟩:=yz hA hm
 have HBk:Hid (∀w',Calls Tryz.prog 82 #[.int .i64 (c.W:Int),.int .i64 (o.np:Int),.int .i64 (o.nd:Int)] w' fun e w''=>e=.returned (.tuple #[.int .i64 (1+(o.lv.length:Int)),.int .i64 0])∧Below w'.heap.size w' w''):=hid (fun w'=>by
  have h:=iM c.W o.np o.nd w'
  rw[b1,b2] at h
  exact h)
 have HPl:Hid (∀w' (k:Nat),G w' p c s→k<o.f→Calls Tryz.prog 84 #[.func (.func 81) #[.pointer (some ⟨p.a,0,none⟩)] #[],.int .i64 (c.W:Int),.int .i64 (o.h:Int),.int .i64 (o.f:Int),.int .i64 (k:Int)] w' (LP (fun w w'=>Below w.heap.size w w') w' p c s (Rz (bi c o k)))):=hid (fun w' k hG' hk=>by
  have h:=CV (LA p c) s o k w' hG' hA hk
  rw[Nat.zero_mul] at h
  exact h)
 have HFP:Hid (∀k q,k<o.f→bi c o k=some q→q.1<c.N∧q.2<c.W):=hid (fun k q hk hq=>⟨H.lt ho (fw hq),(fA hm hk hq).2.1⟩)
 have HWf:Hid (∀k,0≤nth s.zs k∧nth s.zs k≤4294967295):=hid hG.wf
 have e1:=bR hm hA.hlt
 have e2:wrap64 ((o.np:Int)+(o.nd:Int))=(o.f:Int):=by rw[wX (by omega)];unfold Ob.f;omega
 have hof:o.f=o.np+o.nd:=rfl
 have HOf:Hid (o.f=o.np+o.nd):=hid rfl
 have HSm:Hid (o.f≤100000):=hid (by omega)
 have hfd:=jw (c.N:Int) (c.W:Int) (c.R:Int) (c.K:Int)
 have HGL:Hid (∀i,jf p i→i<w.heap.size):=hid (fun i hi=>hG.dW hi)
 have HG0:=hid (hG.alloc (.cells #[.slice none 0 0,.slice none 0 0] 57))
 have BR0:=hid (Blk.new w #[.slice none 0 0,.slice none 0 0] 57)
 have HT0:=hid (below_new w (.cells #[.slice none 0 0,.slice none 0 0] 57))
 clear hG H ho b1 b2 hof hsm hA hm
 go_enter Tryz.func23,Tryz.ntmps23
 go_wp2_with fail
 generalize w.alloc (.cells #[.slice none 0 0,.slice none 0 0] 57)=w0 at*
 refine(HL.out _ HG0.out).mono ?_
 rintro e w1 ⟨rfl,hG,hR⟩
 have HG1:=hid (hG.alloc (.cells #[.int .i64 (o.np:Int),.int .i64 (o.nd:Int)] 113))
 have BR1:=hid ((BR0.out.later hR).alloc (.cells #[.int .i64 (o.np:Int),.int .i64 (o.nd:Int)] 113))
 have BN1:=hid (Blk.new w1 #[.int .i64 (o.np:Int),.int .i64 (o.nd:Int)] 113)
 have HT1:Hid (Below w.heap.size w (w1.alloc (.cells #[.int .i64 (o.np:Int),.int .i64 (o.nd:Int)] 113))):=hid (below_step (below_step HT0.out hR) (below_new _ _))
 clear hG hR HG0 BR0 HT0
 go_wp2_with fail
 generalize w1.heap.size=nl at*
 generalize w1.alloc (.cells #[.int .i64 (o.np:Int),.int .i64 (o.nd:Int)] 113)=v1 at*
 refine(cZ p c _ _ HG1.out).mono ?_
 rintro e w2 ⟨rfl,hb⟩
 have HG2:=hid (HG1.out.later hb)
 have BR2:=hid (BR1.out.later hb)
 have BN2:=hid (BN1.out.later hb)
 have HT2:=hid (below_step HT1.out hb)
 clear hb HG1 BR1 BN1 HT1
 have c0:w2.cell? ⟨nl,0,none⟩=some (.int .i64 (o.np:Int)):=BN2.out.cell 0 rfl
 have c1:w2.cell? ⟨nl,1,none⟩=some (.int .i64 (o.nd:Int)):=BN2.out.cell 1 rfl
 go_wp2_with fail
 refine(HBk.out _).mono ?_
 rintro e w3 ⟨rfl,hb⟩
 have BN3:=hid (BN2.out.later hb)
 have hnl:nl<w3.heap.size:=BN3.out.lt
 have hrb3:w.heap.size<w3.heap.size:=(BR2.out.later hb).lt
 have HS0:Hid (mP w p c s o.np o.nd [] [] nl w3.heap.size w.heap.size (w3.alloc (.cells #[.slice none 0 0,.slice none 0 0] 57)) (.slice none 0 0) (.slice none 0 0)):=hid
  ⟨(HG2.out.later hb).alloc _,below_step (below_step HT2.out hb) (below_new _ _),BN3.out.alloc _,Blk.new w3 _ _,(BR2.out.later hb).alloc _,World.ownsRow_nil _ _ _ _,World.ownsRow_nil _ _ _ _⟩
 have hwq:w.heap.size≤w3.heap.size:=(below_step HT2.out hb).size
 clear c0 c1 hb HG2 BR2 BN2 HT2
 have c0:w3.cell? ⟨nl,0,none⟩=some (.int .i64 (o.np:Int)):=BN3.out.cell 0 rfl
 have c1:w3.cell? ⟨nl,1,none⟩=some (.int .i64 (o.nd:Int)):=BN3.out.cell 1 rfl
 go_wp2_with fail
 have hqr:w3.heap.size≠w.heap.size:=by omega
 generalize w3.alloc (.cells #[.slice none 0 0,.slice none 0 0] 57)=v3 at*
 generalize w3.heap.size=q at*
 clear c0 c1 BN3 hnl hrb3
 refine(sj _ _ _ _ e2).mono ?_
 rintro e w4 ⟨rfl,hb⟩
 have HS4:=hid (HS0.out.later hb)
 clear hb HS0
 have HQ:=hid hwq
 have HQr:=hid hqr
 clear hwq hqr
 go_wp2_with fail
 go_loopw [45] (fun i wr=>∃(k:Nat) (u1 u2:Value),k≤o.f∧i=.int .i64 (k:Int)∧mP w p c s o.np o.nd ((jl c s.zs o).take k) ((fe c s.zs o).take (k-o.np)) nl q w.heap.size wr u1 u2) (fun i _=>o.f-(intOf i).toNat)
 case atStart=>
  exact⟨0,.slice none 0 0,.slice none 0 0,Nat.zero_le _,rfl,by rw[List.take_zero,Nat.zero_sub,List.take_zero];exact HS4.out⟩
 case round=>
  obtain⟨k,u1,u2,hk,rfl,hS⟩:=hrel
  have HS:=hid hS
  clear hS HS4
  by_cases hlt:k<o.f
  ·have HWk:Hid (wrap64 ((k:Int)+1)=((k+1:Nat):Int)):=hid (by have:=HSm.out;exact IntWalk.wrap64_in _ (by omega))
   have HLn:Hid (((jl c s.zs o).take k).length≤o.f∧((fe c s.zs o).take (k-o.np)).length≤o.f):=hid (by have:=HOf.out;rw[List.length_take,List.length_take,fo,jy];omega)
   rcases Nat.lt_or_ge k o.np with hp|hp
   ·cases hq:bi c o k with
    |none=>
     have HPk:Hid (∀w',G w' p c s→Calls Tryz.prog 84 #[.func (.func 81) #[.pointer (some ⟨p.a,0,none⟩)] #[],.int .i64 (c.W:Int),.int .i64 (o.h:Int),.int .i64 (o.f:Int),.int .i64 (k:Int)] w' (LP (fun w w'=>Below w.heap.size w w') w' p c s (.tuple #[.int .i64 0,.int .i64 0,.bool false]))):=hid (fun w' hG'=>by have h:=HPl.out w' k hG' hlt;rw[hq] at h;exact h)
     have hy:fK c s.zs o k=0:=rT hq
     have HPn:Hid ((jl c s.zs o).take (k+1)=(jl c s.zs o).take k++[0]):=hid (by rw[Df hp,hy])
     have HDn:Hid ((fe c s.zs o).take (k+1-o.np)=(fe c s.zs o).take (k-o.np)):=hid (by rw[show k+1-o.np=0 by omega,show k-o.np=0 by omega])
     generalize (jl c s.zs o).take k=P at*
     generalize (fe c s.zs o).take (k-o.np)=D at*
     clear hq hy
     have c0:=HS.out.ln.cell 0 rfl
     have c1:=HS.out.ln.cell 1 rfl
     go_wp2_with fail
     refine(sj _ _ _ _ e2).mono ?_
     rintro e w5 ⟨rfl,hb⟩
     have HS5:=hid (HS.out.later hb)
     clear hb c0 c1
     go_wp2_with fail
     refine(HPk.out _ HS5.out.g).mono ?_
     rintro e w6 ⟨rfl,hG,hR⟩
     have HS6:=hid (HS5.out.later hR)
     clear hG hR
     have c0:=HS6.out.ln.cell 0 rfl
     have d0:=HS6.out.ob.cell 0 rfl
     have hlq:=HS6.out.ob.lt
     have hown:=HS6.out.o1
     have hsz:=HS6.out.b.size
     have hPl:P.length≤100000:=by have:=HSm.out;have:=HLn.out.1;omega
     go_wp2_with (at_builtin;refine wpList_append_own _ rfl _ _ 45 rfl w.heap.size 3 i0 (.int .i64 0) 1 8 Tryz.underlying45 hi hz0 hz1 hz2 rfl (by decide) _ _ _ rfl (dx hown (below_new _ _)) ⟨w6.heap.size,0,none⟩ 1 1 [.int .i64 0] rfl rfl ?c1 ?c2 ?c3 ?c4 ?c5 ?c6)
     case c1=>exact cell_one_new w6 _ _
     case c2=>intro u hu;simp at hu;subst hu;rfl
     case c3=>unfold maxLen;omega
     case c4=>omega
     case c5=>simp;omega
     case c6=>
      intro v' w8 hown' hgrow _
      obtain⟨a8,cap8,rfl⟩:=lu hown'
      obtain⟨Q8,L8,S9⟩:=HS6.out.ptr HQ.out HQr.out HGL.out hown' hgrow
      have HS9:=hid S9
      have f0:=Q8.free 0
      have d8:=Q8.cell 0 rfl
      clear hown' hgrow hown hsz S9 Q8 L8 d0 c0 hlq
      go_wp2_with fail
      go_roundw
      case rel=>exact⟨k+1,_,u2,by omega,by rw[HWk.out],by rw[HPn.out,HDn.out];exact HS9.out⟩
      case measure=>rw[HWk.out];simp[intOf];omega
    |some q=>
     obtain⟨q1,q2⟩:=q
     have HPk:Hid (∀w',G w' p c s→Calls Tryz.prog 84 #[.func (.func 81) #[.pointer (some ⟨p.a,0,none⟩)] #[],.int .i64 (c.W:Int),.int .i64 (o.h:Int),.int .i64 (o.f:Int),.int .i64 (k:Int)] w' (LP (fun w w'=>Below w.heap.size w w') w' p c s (.tuple #[.int .i64 (q1:Int),.int .i64 (q2:Int),.bool true]))):=hid (fun w' hG'=>by have h:=HPl.out w' k hG' hlt;rw[hq] at h;exact h)
     have HF:Hid (q1<c.N∧q2<c.W):=hid (HFP.out k (q1,q2) hlt hq)
     have hy:fK c s.zs o k=nth s.zs (adr c q1 q2):=rU hq
     have hyb:=HWf.out (adr c q1 q2)
     obtain⟨y,hyy⟩:∃y,nth s.zs (adr c q1 q2)=y:=⟨_,rfl⟩
     rw[hyy] at hy hyb
     have HY:=hid hyy
     have HPn:Hid ((jl c s.zs o).take (k+1)=(jl c s.zs o).take k++[y]):=hid (by rw[Df hp,hy])
     have HDn:Hid ((fe c s.zs o).take (k+1-o.np)=(fe c s.zs o).take (k-o.np)):=hid (by rw[show k+1-o.np=0 by omega,show k-o.np=0 by omega])
     generalize (jl c s.zs o).take k=P at*
     generalize (fe c s.zs o).take (k-o.np)=D at*
     have hwy:IntKind.i64.wrap y=y:=IntWalk.i64_in _ (by omega)
     clear hyy
     clear hq hy
     have c0:=HS.out.ln.cell 0 rfl
     have c1:=HS.out.ln.cell 1 rfl
     go_wp2_with fail
     refine(sj _ _ _ _ e2).mono ?_
     rintro e w5 ⟨rfl,hb⟩
     have HS5:=hid (HS.out.later hb)
     clear hb c0 c1
     go_wp2_with fail
     refine(HPk.out _ HS5.out.g).mono ?_
     rintro e w6 ⟨rfl,hG,hR⟩
     have HS6:=hid (HS5.out.later hR)
     clear hG hR
     go_wp2_with fail
     refine(Dx p c s q1 q2 _ _ y _ HS6.out.g HF.out.1 HF.out.2 rfl rfl HY.out).mono ?_
     rintro e w7 ⟨rfl,hd⟩
     have HS7:=hid (HS6.out.later hd.new)
     clear hd
     have c0:=HS7.out.ln.cell 0 rfl
     have d0:=HS7.out.ob.cell 0 rfl
     have hlq:=HS7.out.ob.lt
     have hown:=HS7.out.o1
     have hsz:=HS7.out.b.size
     have hPl:P.length≤100000:=by have:=HSm.out;have:=HLn.out.1;omega
     go_wp2_with (at_builtin;refine wpList_append_own _ rfl _ _ 45 rfl w.heap.size 3 i0 (.int .i64 0) 1 8 Tryz.underlying45 hi hz0 hz1 hz2 rfl (by decide) _ _ _ rfl (dx hown (below_new _ _)) ⟨w7.heap.size,0,none⟩ 1 1 [.int .i64 y] rfl rfl ?c1 ?c2 ?c3 ?c4 ?c5 ?c6)
     case c1=>exact cell_one_new w7 _ _
     case c2=>intro u hu;simp at hu;subst hu;rfl
     case c3=>unfold maxLen;omega
     case c4=>omega
     case c5=>simp;omega
     case c6=>
      intro v' w8 hown' hgrow _
      obtain⟨a8,cap8,rfl⟩:=lu hown'
      obtain⟨Q8,L8,S9⟩:=HS7.out.ptr HQ.out HQr.out HGL.out hown' hgrow
      have HS9:=hid S9
      have f0:=Q8.free 0
      have d8:=Q8.cell 0 rfl
      clear hown' hgrow hown hsz S9 Q8 L8 d0 c0 hlq
      go_wp2_with fail
      go_roundw
      case rel=>exact⟨k+1,_,u2,by omega,by rw[HWk.out],by rw[HPn.out,HDn.out];exact HS9.out⟩
      case measure=>rw[HWk.out];simp[intOf];omega
   ·cases hq:bi c o k with
    |none=>
     have HPk:Hid (∀w',G w' p c s→Calls Tryz.prog 84 #[.func (.func 81) #[.pointer (some ⟨p.a,0,none⟩)] #[],.int .i64 (c.W:Int),.int .i64 (o.h:Int),.int .i64 (o.f:Int),.int .i64 (k:Int)] w' (LP (fun w w'=>Below w.heap.size w w') w' p c s (.tuple #[.int .i64 0,.int .i64 0,.bool false]))):=hid (fun w' hG'=>by have h:=HPl.out w' k hG' hlt;rw[hq] at h;exact h)
     have hy:fK c s.zs o k=0:=rT hq
     have HPn:Hid ((jl c s.zs o).take (k+1)=(jl c s.zs o).take k):=hid (by rw[List.take_of_length_le (by rw[fo];omega),List.take_of_length_le (by rw[fo];omega)])
     have HDn:Hid ((fe c s.zs o).take (k+1-o.np)=(fe c s.zs o).take (k-o.np)++[0]):=hid (by rw[yD (by omega) hlt,hy])
     generalize (jl c s.zs o).take k=P at*
     generalize (fe c s.zs o).take (k-o.np)=D at*
     clear hq hy
     have c0:=HS.out.ln.cell 0 rfl
     have c1:=HS.out.ln.cell 1 rfl
     go_wp2_with fail
     refine(sj _ _ _ _ e2).mono ?_
     rintro e w5 ⟨rfl,hb⟩
     have HS5:=hid (HS.out.later hb)
     clear hb c0 c1
     go_wp2_with fail
     refine(HPk.out _ HS5.out.g).mono ?_
     rintro e w6 ⟨rfl,hG,hR⟩
     have HS6:=hid (HS5.out.later hR)
     clear hG hR
     have c0:=HS6.out.ln.cell 0 rfl
     have d0:=HS6.out.ob.cell 1 rfl
     have hlq:=HS6.out.ob.lt
     have hown:=HS6.out.o2
     have hsz:=HS6.out.b.size
     have hPl:D.length≤100000:=by have:=HSm.out;have:=HLn.out.2;omega
     go_wp2_with (at_builtin;refine wpList_append_own _ rfl _ _ 55 rfl w.heap.size 119 j0 (.int .u32 0) 1 4 Tryz.underlying55 hj hy0 hy1 hy2 rfl (by decide) _ _ _ rfl (dx hown (below_new _ _)) ⟨w6.heap.size,0,none⟩ 1 1 [.int .u32 0] rfl rfl ?c1 ?c2 ?c3 ?c4 ?c5 ?c6)
     case c1=>exact cell_one_new w6 _ _
     case c2=>intro u hu;simp at hu;subst hu;rfl
     case c3=>unfold maxLen;omega
     case c4=>omega
     case c5=>simp;omega
     case c6=>
      intro v' w8 hown' hgrow _
      obtain⟨a8,cap8,rfl⟩:=lu hown'
      obtain⟨Q8,L8,S9⟩:=HS6.out.data HQ.out HQr.out HGL.out hown' hgrow
      have HS9:=hid S9
      have f0:=Q8.free 1
      have d8:=Q8.cell 1 rfl
      clear hown' hgrow hown hsz S9 Q8 L8 d0 c0 hlq
      go_wp2_with fail
      go_roundw
      case rel=>exact⟨k+1,u1,_,by omega,by rw[HWk.out],by rw[HPn.out,HDn.out];exact HS9.out⟩
      case measure=>rw[HWk.out];simp[intOf];omega
    |some q=>
     obtain⟨q1,q2⟩:=q
     have HPk:Hid (∀w',G w' p c s→Calls Tryz.prog 84 #[.func (.func 81) #[.pointer (some ⟨p.a,0,none⟩)] #[],.int .i64 (c.W:Int),.int .i64 (o.h:Int),.int .i64 (o.f:Int),.int .i64 (k:Int)] w' (LP (fun w w'=>Below w.heap.size w w') w' p c s (.tuple #[.int .i64 (q1:Int),.int .i64 (q2:Int),.bool true]))):=hid (fun w' hG'=>by have h:=HPl.out w' k hG' hlt;rw[hq] at h;exact h)
     have HF:Hid (q1<c.N∧q2<c.W):=hid (HFP.out k (q1,q2) hlt hq)
     have hy:fK c s.zs o k=nth s.zs (adr c q1 q2):=rU hq
     have hyb:=HWf.out (adr c q1 q2)
     obtain⟨y,hyy⟩:∃y,nth s.zs (adr c q1 q2)=y:=⟨_,rfl⟩
     rw[hyy] at hy hyb
     have HY:=hid hyy
     have HPn:Hid ((jl c s.zs o).take (k+1)=(jl c s.zs o).take k):=hid (by rw[List.take_of_length_le (by rw[fo];omega),List.take_of_length_le (by rw[fo];omega)])
     have HDn:Hid ((fe c s.zs o).take (k+1-o.np)=(fe c s.zs o).take (k-o.np)++[y]):=hid (by rw[yD (by omega) hlt,hy])
     generalize (jl c s.zs o).take k=P at*
     generalize (fe c s.zs o).take (k-o.np)=D at*
     have hwy:IntKind.i64.wrap y=y:=IntWalk.i64_in _ (by omega)
     clear hyy
     clear hq hy
     have c0:=HS.out.ln.cell 0 rfl
     have c1:=HS.out.ln.cell 1 rfl
     go_wp2_with fail
     refine(sj _ _ _ _ e2).mono ?_
     rintro e w5 ⟨rfl,hb⟩
     have HS5:=hid (HS.out.later hb)
     clear hb c0 c1
     go_wp2_with fail
     refine(HPk.out _ HS5.out.g).mono ?_
     rintro e w6 ⟨rfl,hG,hR⟩
     have HS6:=hid (HS5.out.later hR)
     clear hG hR
     go_wp2_with fail
     refine(Dx p c s q1 q2 _ _ y _ HS6.out.g HF.out.1 HF.out.2 rfl rfl HY.out).mono ?_
     rintro e w7 ⟨rfl,hd⟩
     have HS7:=hid (HS6.out.later hd.new)
     clear hd
     have c0:=HS7.out.ln.cell 0 rfl
     have d0:=HS7.out.ob.cell 1 rfl
     have hlq:=HS7.out.ob.lt
     have hown:=HS7.out.o2
     have hsz:=HS7.out.b.size
     have hPl:D.length≤100000:=by have:=HSm.out;have:=HLn.out.2;omega
     go_wp2_with (at_builtin;refine wpList_append_own _ rfl _ _ 55 rfl w.heap.size 119 j0 (.int .u32 0) 1 4 Tryz.underlying55 hj hy0 hy1 hy2 rfl (by decide) _ _ _ rfl (dx hown (below_new _ _)) ⟨w7.heap.size,0,none⟩ 1 1 [.int .u32 y] rfl rfl ?c1 ?c2 ?c3 ?c4 ?c5 ?c6)
     case c1=>exact cell_one_new w7 _ _
     case c2=>intro u hu;simp at hu;subst hu;rfl
     case c3=>unfold maxLen;omega
     case c4=>omega
     case c5=>simp;omega
     case c6=>
      intro v' w8 hown' hgrow _
      obtain⟨a8,cap8,rfl⟩:=lu hown'
      obtain⟨Q8,L8,S9⟩:=HS7.out.data HQ.out HQr.out HGL.out hown' hgrow
      have HS9:=hid S9
      have f0:=Q8.free 1
      have d8:=Q8.cell 1 rfl
      clear hown' hgrow hown hsz S9 Q8 L8 d0 c0 hlq
      go_wp2_with fail
      go_roundw
      case rel=>exact⟨k+1,u1,_,by omega,by rw[HWk.out],by rw[HPn.out,HDn.out];exact HS9.out⟩
      case measure=>rw[HWk.out];simp[intOf];omega
  ·have he:k=o.f:=by omega
   subst he
   have hS:=HS.out
   rw[List.take_of_length_le (by rw[fo];have:=HOf.out;omega),List.take_of_length_le (by rw[jy];have:=HOf.out;omega)] at hS
   obtain⟨a1,c1,rfl,w1,x1⟩:=iA.Sg hS.o1
   obtain⟨a2,c2,rfl,w2,x2⟩:=iA.Sg hS.o2
   rw[fo] at hS
   rw[jy] at hS
   have HS2:=hid hS
   have W1:=hid w1
   have W2:=hid w2
   have X1:=hid x1
   have X2:=hid x2
   have d0:=HS2.out.ob.cell 0 rfl
   have d1:=HS2.out.ob.cell 1 rfl
   have r0:=HS2.out.rs.cell 0 rfl
   have r1:=HS2.out.rs.cell 1 rfl
   have f0:=HS2.out.rs.free 0
   have f1:=HS2.out.rs.free 1
   clear hS HS w1 w2 x1 x2
   go_wp2_with fail
   exact bodyPost_ret (v:=.tuple #[.agg #[.slice a1 o.np c1,.slice a2 o.nd c2],.bool true]) (by simp[results,Tryz.results23,go_sem,r0,r1]) rfl (LW HS2.out W1.out W2.out X1.out X2.out)
end
theorem Ca{c:Cf}{o:Ob}{i a:Nat}(h:aS c o i=some a):∃q,bi c o i=some q∧a=adr c q.1 q.2:=by
 unfold aS at h
 cases hp:bi c o i with
 |none=>rw[hp] at h;cases h
 |some q=>rw[hp] at h;simp at h;exact⟨q,rfl,h.symm⟩
theorem pF{c:Cf}{o:Ob}{i:Nat}:(aS c o i).isSome=(bi c o i).isSome:=by unfold aS;rw[Option.isSome_map]
theorem JQ{c:Cf}{zs:List Int}{pool:List Nat}{os:List Ob}{r:Int}(i:Int)(hz:Wz c zs)(H:ah c zs pool os)(hr:In64 r):
  gY c 70 [.int .i64 r,.int .i64 i] zs 12 zs (.tuple #[.int .i64 (qR c zs os r i),.int .i64 (qQ c os r i)]):=by
 cases h:dJ os r with
 |none=>
  rw[show qR c zs os r i=0 by unfold qR;rw[h],show qQ c os r i=8 by unfold qQ;rw[h]]
  exact⟨dF (aB c (prev r) 0),by have:=lU (aB c (prev r) 0);omega,fun p m w hG=>qa i 8 (by decide) (CR hG H hr h 0 i)⟩
 |some o=>
  obtain⟨ho,rfl⟩:=jK h
  cases hb:jG i o.np with
  |false=>
   rw[show qR c zs os ((o.h:Int)+1) i=0 by unfold qR;rw[h];simp[hb],show qQ c os ((o.h:Int)+1) i=7 by unfold qQ;rw[h];simp[hb]]
   exact⟨3,by omega,fun p m w hG=>qa i 7 (by decide) (Aj hG H ho i hb)⟩
  |true=>
   obtain⟨k,rfl,hk⟩:=kE hb
   have hv:qR c zs os ((o.h:Int)+1) (k:Int)=fK c zs o k:=by unfold qR;rw[h];simp[hb]
   have hif:k<o.f:=by unfold Ob.f;omega
   cases hq:bi c o k with
   |none=>
    rw[hv,rT hq,show qQ c os ((o.h:Int)+1) (k:Int)=7 by unfold qQ;rw[h];simp[hb,pF,hq]]
    exact⟨3+Fv c o,by have:=Fw c o;omega,fun p m w hG=>qa (k:Int) 7 (by decide) (by have h2:=vT hG H ho k hk;rw[hq] at h2;exact h2)⟩
   |some q=>
    rw[hv,rU hq,show qQ c os ((o.h:Int)+1) (k:Int)=0 by unfold qQ;rw[h];simp[hb,pF,hq]]
    have hwf:=hz.wf (adr c q.1 q.2)
    exact⟨3+Fv c o+1,by have:=Fw c o;omega,fun p m w hG=>IW (k:Int) q.1 q.2 _ (H.lt ho (fw hq)) (fA hz.may hif hq).2.1 rfl hwf.1 hwf.2 (by have h2:=vT hG H ho k hk;rw[hq] at h2;exact h2)⟩
theorem objFns:ObjFns where
 make_size:=fun c zs a b hz he=>⟨0,0,Nat.le_refl _,fun p m w hG=>Al a b hG he⟩
 make_full:=fun c zs pool os a b hz H he hl=>⟨1,1,Nat.le_refl _,fun p m w hG=>Ak a b pool hG H.pl.ch he hl⟩
 make_yes:=fun c zs h ls pool os a b hz H he hb=>⟨CF c ls pool h,vO c h ls a b zs,⟨CF c ls pool h,Nat.le_refl _,fun p m w hG=>by have e:=CU (s:=⟨zs,m⟩) h a b ls pool os hG H he hb;exact e⟩,Ns hz.may hz.len H he hb⟩
 is_:=fun c zs pool os r hz H hr=>by
  rw[←Pv H hz.may hr]
  exact⟨1*dF (aB c (prev r) 0),by have:=lU (aB c (prev r) 0);omega,fun p m w hG=>vU hG r⟩
 iJ:=fun c zs pool os r o hz H h=>by
  obtain⟨ho,rfl⟩:=jK h
  exact⟨3,by omega,fun p m w hG=>nR hG H ho⟩
 oM:=fun c zs pool os r hz H hr h=>⟨dF (aB c (prev r) 0),by have:=lU (aB c (prev r) 0);omega,fun p m w hG=>Fj hG H hr h⟩
 ptr:=fun c zs pool os r i hz H hr=>JQ i hz H hr
 setptr_yes:=fun c zs pool os o i a x hz H ho hi ha h0 h1=>by
  obtain⟨q,hq,rfl⟩:=Ca ha
  have hif:i<o.f:=by unfold Ob.f;omega
  exact⟨3+Fv c o+1,by have:=Fw c o;omega,fun p m w hG=>Ah (i:Int) q.1 q.2 x hz.may (H.lt ho (fw hq)) (fA hz.may hif hq).2.1 h0 h1 (by have h2:=vT hG H ho i hi;rw[hq] at h2;exact h2)⟩
 blocks:=fun c zs pool os r hz H hr=>by
  cases h:dJ os r with
  |none=>
   rw[show blkN os r=0 by unfold blkN;rw[h]]
   exact⟨dF (aB c (prev r) 0),by have:=lU (aB c (prev r) 0);omega,fun p m w hG=>Ai hG H hr h⟩
  |some o=>
   rw[show blkN os r=1+(o.lv.length:Int) by unfold blkN;rw[h]]
   obtain⟨ho,rfl⟩:=jK h
   exact⟨3,by omega,fun p m w hG=>kN hG H ho⟩
 see_yes:=fun c zs pool os o hz H ho p m w hG=>Fp hG H ho
 see_no:=fun c zs pool os r hz H hr h p m w hG=>IX hG H hr h
section
variable {p:Pl} {c:Cf} {s:St} {pool:List Nat} {os:List Ob} {o:Ob} {r:Int} {w:World}
theorem sw(hG:G w p c s)(H:ah c s.zs pool os)(ho:o∈os):Calls Tryz.prog 49 #[.pointer (some ⟨p.a,0,none⟩),.int .i64 ((o.h:Int)+1)] w (GP w p c ⟨s.zs,s.m+1⟩ (.bool true)):=by
 have hA:=H.obs o ho
 have hm:=hG.may
 have hW:=hm.w
 have h:=vU hG ((o.h:Int)+1)
 rw[Pv H hm (H.vH hm ho),H.dJ ho,uI hm hA.hlt,show aB c (o.h:Int) 0=some (adr c o.h 0) from fQ hA.hlt (v:=0) (by omega)] at h
 exact h
theorem CS(hG:G w p c s)(H:ah c s.zs pool os)(hr:In64 r)(ho:dJ os r=none):Calls Tryz.prog 49 #[.pointer (some ⟨p.a,0,none⟩),.int .i64 r] w (GP w p c ⟨s.zs,s.m+dF (aB c (prev r) 0)⟩ (.bool false)):=by
 have h:=vU hG r
 rw[Pv H hG.may hr,ho,Nat.one_mul] at h
 exact h
theorem Kh(hG:G w p c s)(H:ah c s.zs pool os)(hr:In64 r)(ho:dJ os r=none):Calls Tryz.prog 33 #[.pointer (some ⟨p.a,0,none⟩),.int .i64 r] w (GP w p c ⟨s.zs,s.m+dF (aB c (prev r) 0)⟩ (.int .i64 0)):=by
 have HI:=hid (CS hG H hr ho)
 have HG:=hid hG
 clear hG H hr ho
 go_enter Tryz.func33,Tryz.ntmps33
 have HT0:Hid (Touch (inG p) w w):=hid (Touch.refl _ _)
 go_wp2_with fail
 refine(HI.out).mono ?_
 rintro e wm1 ⟨rfl,hG,hT⟩
 have HG1:=hid hG
 have HT1:Hid (Touch (inG p) _ wm1):=hid (HT0.out.trans hT)
 clear hG hT
 go_wp2_with fail
 go_ret
 exact⟨rfl,HG1.out,HT1.out⟩
theorem Ip(hG:G w p c s)(H:ah c s.zs pool os)(ho:o∈os):Calls Tryz.prog 33 #[.pointer (some ⟨p.a,0,none⟩),.int .i64 ((o.h:Int)+1)] w (GP w p c ⟨s.zs,s.m+2⟩ (.int .i64 (nth s.zs (adr c o.h 3)))):=by
 have HI:=hid (sw hG H ho)
 have HG:=hid hG
 have hA:=H.obs o ho
 have hW:=hG.may.w
 have HB:=hid hA.hlt
 have HV:Hid (3<c.W):=hid (by omega)
 have hwf:=hG.wz.wf (adr c o.h 3)
 have e1:=bR hG.may hA.hlt
 have HY:Hid (nth s.zs (adr c o.h 3)=nth s.zs (adr c o.h 3)):=hid rfl
 generalize hy:nth s.zs (adr c o.h 3)=y at*
 have HY2:=hid hy
 have hwr:IntKind.i64.wrap y=y:=IntWalk.i64_in _ (by omega)
 clear hG H ho hA hW HY hy hwf
 go_enter Tryz.func33,Tryz.ntmps33
 have HT0:Hid (Touch (inG p) w w):=hid (Touch.refl _ _)
 go_wp2_with fail
 refine(HI.out).mono ?_
 rintro e wm1 ⟨rfl,hG,hT⟩
 have HG1:=hid hG
 have HT1:Hid (Touch (inG p) _ wm1):=hid (HT0.out.trans hT)
 clear hG hT
 go_wp2_with fail
 refine(fq p c _ o.h 3 _ _ y _ HG1.out HB.out HV.out rfl rfl HY2.out).mono ?_
 rintro e wm2 ⟨rfl,hG,hT⟩
 have HG2:=hid hG
 have HT2:Hid (Touch (inG p) _ wm2):=hid (HT1.out.trans hT)
 clear hG hT
 go_wp2_with fail
 go_ret
 exact⟨rfl,HG2.out,HT2.out⟩
theorem zG(b:Int)(hG:G w p c s)(H:ah c s.zs pool os)(hr:In64 r)(ho:dJ os r=none):Calls Tryz.prog 133 #[.pointer (some ⟨p.a,0,none⟩),.int .i64 r,.int .i64 b] w (GP w p c ⟨s.zs,s.m+dF (aB c (prev r) 0)⟩ (.tuple #[.int .i64 0,.bool false])):=by
 have HI:=hid (CS hG H hr ho)
 have HG:=hid hG
 clear hG H hr ho
 go_enter Tryz.func133,Tryz.ntmps133
 have HT0:Hid (Touch (inG p) w w):=hid (Touch.refl _ _)
 go_wp2_with fail
 refine(HI.out).mono ?_
 rintro e wm1 ⟨rfl,hG,hT⟩
 have HG1:=hid hG
 have HT1:Hid (Touch (inG p) _ wm1):=hid (HT0.out.trans hT)
 clear hG hT
 go_wp2_with fail
 go_ret2
 exact⟨rfl,HG1.out,HT1.out⟩
theorem xn(b:Int)(hG:G w p c s)(H:ah c s.zs pool os)(ho:o∈os)(hb0: -1≤b)(hb1:b≤1)(hn:nth s.zs (adr c o.h 3)+b<0∨4294967295<nth s.zs (adr c o.h 3)+b):Calls Tryz.prog 133 #[.pointer (some ⟨p.a,0,none⟩),.int .i64 ((o.h:Int)+1),.int .i64 b] w (GP w p c ⟨s.zs,s.m+2⟩ (.tuple #[.int .i64 0,.bool false])):=by
 have HI:=hid (sw hG H ho)
 have HG:=hid hG
 have hA:=H.obs o ho
 have hW:=hG.may.w
 have HB:=hid hA.hlt
 have HV:Hid (3<c.W):=hid (by omega)
 have hwf:=hG.wz.wf (adr c o.h 3)
 have e1:=bR hG.may hA.hlt
 generalize hy:nth s.zs (adr c o.h 3)=y at*
 have HY2:=hid hy
 have hwr:IntKind.i64.wrap y=y:=IntWalk.i64_in _ (by omega)
 have hwr2:IntKind.i64.wrap (y+b)=y+b:=IntWalk.i64_in _ (by omega)
 clear hG H ho hA hW hy
 by_cases h0:y+b<0
 ·clear hwf hn hb0 hb1
  go_enter Tryz.func133,Tryz.ntmps133
  have HT0:Hid (Touch (inG p) w w):=hid (Touch.refl _ _)
  go_wp2_with fail
  refine(HI.out).mono ?_
  rintro e wm1 ⟨rfl,hG,hT⟩
  have HG1:=hid hG
  have HT1:Hid (Touch (inG p) _ wm1):=hid (HT0.out.trans hT)
  clear hG hT
  go_wp2_with fail
  refine(fq p c _ o.h 3 _ _ y _ HG1.out HB.out HV.out rfl rfl HY2.out).mono ?_
  rintro e wm2 ⟨rfl,hG,hT⟩
  have HG2:=hid hG
  have HT2:Hid (Touch (inG p) _ wm2):=hid (HT1.out.trans hT)
  clear hG hT
  go_wp2_with fail
  go_ret2
  exact⟨rfl,HG2.out,HT2.out⟩
 ·have h1:4294967295<y+b:=by omega
  clear hwf hn hb0 hb1
  go_enter Tryz.func133,Tryz.ntmps133
  have HT0:Hid (Touch (inG p) w w):=hid (Touch.refl _ _)
  go_wp2_with fail
  refine(HI.out).mono ?_
  rintro e wm1 ⟨rfl,hG,hT⟩
  have HG1:=hid hG
  have HT1:Hid (Touch (inG p) _ wm1):=hid (HT0.out.trans hT)
  clear hG hT
  go_wp2_with fail
  refine(fq p c _ o.h 3 _ _ y _ HG1.out HB.out HV.out rfl rfl HY2.out).mono ?_
  rintro e wm2 ⟨rfl,hG,hT⟩
  have HG2:=hid hG
  have HT2:Hid (Touch (inG p) _ wm2):=hid (HT1.out.trans hT)
  clear hG hT
  go_wp2_with fail
  go_ret2
  exact⟨rfl,HG2.out,HT2.out⟩
theorem pE(b n:Int)(hG:G w p c s)(H:ah c s.zs pool os)(ho:o∈os)(hb0: -1≤b)(hb1:b≤1)(hn:nth s.zs (adr c o.h 3)+b=n)(hn0:0≤n)(hn1:n≤4294967295):Calls Tryz.prog 133 #[.pointer (some ⟨p.a,0,none⟩),.int .i64 ((o.h:Int)+1),.int .i64 b] w (GP w p c ⟨s.zs.set (adr c o.h 3) n,s.m+3⟩ (.tuple #[.int .i64 n,.bool true])):=by
 have HI:=hid (sw hG H ho)
 have HG:=hid hG
 have hA:=H.obs o ho
 have hW:=hG.may.w
 have HB:=hid hA.hlt
 have HV:Hid (3<c.W):=hid (by omega)
 have hwf:=hG.wz.wf (adr c o.h 3)
 have e1:=bR hG.may hA.hlt
 generalize hy:nth s.zs (adr c o.h 3)=y at*
 have HY2:=hid hy
 have hwr:IntKind.i64.wrap y=y:=IntWalk.i64_in _ (by omega)
 have hwr2:IntKind.i64.wrap (y+b)=n:=by rw[hn];exact IntWalk.i64_in _ (by omega)
 have hwr3:IntKind.u32.wrap n=n:=by rw[IntKind.wrap_u32];omega
 have HN0:=hid hn0
 have HN1:=hid hn1
 have g0:¬n<0:=by omega
 have g1:¬4294967295<n:=by omega
 clear hG H ho hA hW hy hwf hn hn0 hn1 hb0 hb1
 go_enter Tryz.func133,Tryz.ntmps133
 have HT0:Hid (Touch (inG p) w w):=hid (Touch.refl _ _)
 go_wp2_with fail
 refine(HI.out).mono ?_
 rintro e wm1 ⟨rfl,hG,hT⟩
 have HG1:=hid hG
 have HT1:Hid (Touch (inG p) _ wm1):=hid (HT0.out.trans hT)
 clear hG hT
 go_wp2_with fail
 refine(fq p c _ o.h 3 _ _ y _ HG1.out HB.out HV.out rfl rfl HY2.out).mono ?_
 rintro e wm2 ⟨rfl,hG,hT⟩
 have HG2:=hid hG
 have HT2:Hid (Touch (inG p) _ wm2):=hid (HT1.out.trans hT)
 clear hG hT
 go_wp2_with fail
 refine(aK p c _ o.h 3 _ _ n _ HG2.out HB.out HV.out rfl rfl HN0.out HN1.out).mono ?_
 rintro e wm3 ⟨rfl,hG,hT⟩
 have HG3:=hid hG
 have HT3:Hid (Touch (inG p) _ wm3):=hid (HT2.out.trans hT)
 clear hG hT
 go_wp2_with fail
 go_ret2
 exact⟨rfl,HG3.out,HT3.out⟩
theorem QM{s':St}{v:Value}(h:Calls Tryz.prog 133 #[.pointer (some ⟨p.a,0,none⟩),.int .i64 r,.int .i64 1] w (GP w p c s' v))(hv:∃a b,v=.tuple #[a,b]):Calls Tryz.prog 72 #[.pointer (some ⟨p.a,0,none⟩),.int .i64 r] w (GP w p c s' v):=by
 obtain⟨a,b,rfl⟩:=hv
 have H:=hid h
 clear h
 go_enter Tryz.func72,Tryz.ntmps72
 go_wp2_with fail
 refine H.out.mono ?_
 rintro e w1 ⟨rfl,hG,hT⟩
 have HG1:=hid hG
 have HT1:=hid hT
 clear hG hT
 go_wp2_with fail
 go_ret2
 exact⟨rfl,HG1.out,HT1.out⟩
theorem zH{s':St}{v:Value}(h:Calls Tryz.prog 133 #[.pointer (some ⟨p.a,0,none⟩),.int .i64 r,.int .i64 (-1)] w (GP w p c s' v))(hv:∃a b,v=.tuple #[a,b]):Calls Tryz.prog 111 #[.pointer (some ⟨p.a,0,none⟩),.int .i64 r] w (GP w p c s' v):=by
 obtain⟨a,b,rfl⟩:=hv
 have H:=hid h
 clear h
 go_enter Tryz.func111,Tryz.ntmps111
 go_wp2_with fail
 refine H.out.mono ?_
 rintro e w1 ⟨rfl,hG,hT⟩
 have HG1:=hid hG
 have HT1:=hid hT
 clear hG hT
 go_wp2_with fail
 go_ret2
 exact⟨rfl,HG1.out,HT1.out⟩
end
theorem countFns:JF where
 up_yes:=fun c zs pool os o hz H ho hk=>⟨3,by omega,fun p m w hG=>QM (pE 1 _ hG H ho (by omega) (by omega) rfl (by have:=(hz.wf (adr c o.h 3)).1;show 0≤nth zs _+1;omega) (by show nth zs _+1≤_;omega)) ⟨_,_,rfl⟩⟩
 down_zero:=fun c zs pool os o hz H ho hk=>⟨2,by omega,fun p m w hG=>zH (xn (-1) hG H ho (by omega) (by omega) (.inl (by show nth zs _+(-1)<0;omega))) ⟨_,_,rfl⟩⟩
 down_no:=fun c zs pool os r hz H hr ho=>⟨dF (aB c (prev r) 0),by have:=lU (aB c (prev r) 0);omega,fun p m w hG=>zH (zG (-1) hG H hr ho) ⟨_,_,rfl⟩⟩
end Go.Proofs.YtjmifnljckmimaaGreat.Pk
