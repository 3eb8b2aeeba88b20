/-
  Texts laid together: ObjRd, ObjFn, ObjFn2, ObjFn3, ObjFn4, ObjFn5.
-/
import Derived.Test.YtbfdimibehkbjaaGreatChainsEtc
import Derived.Test.YtbfdimibehkbjaaGreatTagIEtc
import Derived.Test.YtbfdimibehkbjaaGreatTagFnEtc
import Derived.Test.YtbfdimibehkbjaaGreatShape2Etc
import Derived.Test.YtbfdimibehkbjaaGreatPoolFnEtc
import Derived.Test.YtbfdimibehkbjaaGreatTameEtc
import Derived.OwnWalk
import Derived.Laws.OwnMore
namespace Go.Proofs.YtbfdimibehkbjaaGreat.Pk
open Lib (hid)
open Go.RowKit
set_option linter.unusedVariables false
set_option linter.unusedSimpArgs false
set_option maxRecDepth 100000
def LP(R:World→World→Prop)(w:World)(p:Pl)(c:Cf)(s:St)(v:Value)(e:Ending)(w':World):Prop:=e=.returned v∧G w' p c s∧R w w'
structure NP (p:Pl) (c:Cf) (k:FuncId) (d:Nat) (R:World→World→Prop):Prop where
 refl:∀w,R w w
 trans:∀{a b e:World},R a b→R b e→R a e
 below:∀{w w':World},Below w.heap.size w w'→R w w'
 touch:∀{w w':World},R w w'→Touch (inG p) w w'
 set:∀{w w':World} {q:Addr},R w w'→w.heap.size≤q.block→∀v,R w (w'.setCell q v)
 ent:∀(args:Array Value) (w:World),(callFunc k args).run Tryz.prog w=.ok (.enter k args) w
 rd:∀(s:St) (b v y:Int) (w:World),G w p c s→(⟨s.zs,0⟩:St).at? (aF c b v)=y→Calls Tryz.prog k #[.pointer (some ⟨p.a,0,none⟩),.int .i64 b,.int .i64 v] w (LP R w p c ⟨s.zs,s.m+d*fe (aF c b v)⟩ (.int .u32 y))
theorem wX(p:Pl)(c:Cf):NP p c 88 1 (Touch (inG p)) where
 refl:=fun w=>Touch.refl _ w
 trans:=fun h k=>h.trans k
 below:=fun h=>Touch.of_below h
 touch:=fun h=>h
 set:=fun h hq v=>h.setCell (fun hlt=>absurd hlt (Nat.not_lt.2 hq)) v
 ent:=fun args w=>rfl
 rd:=fun s b v y w hG hy=>by
  subst hy
  have h:=xK p c s b v w hG
  rw[s.JF,←Nat.one_mul (fe _)] at h
  exact h
section
variable {p:Pl} {c:Cf} {k:FuncId} {d:Nat} {R:World→World→Prop}
theorem NP.QS(L:NP p c k d R)(s:St)(b v:Nat)(x z y:Int)(w:World)(hG:G w p c s)(hb:b<c.N)(hv:v<c.W)(hx:x=(b:Int))(hz:z=(v:Int))(hy:nth s.zs (adr c b v)=y):
  Calls Tryz.prog k #[.pointer (some ⟨p.a,0,none⟩),.int .i64 x,.int .i64 z] w (LP R w p c ⟨s.zs,s.m+d⟩ (.int .u32 y)):=by
 subst hx hz hy
 have h:=L.rd s (b:Int) (v:Int) _ w hG rfl
 rw[iq hb hv] at h
 rw[show s.m+d*fe (some (adr c b v))=s.m+d by simp[fe]] at h
 exact h
def ql(t:Int):Bool:=uK t==1||uK t==2
theorem yS{t:Int}(h:bF t):ql t=true:=by unfold ql;rcases h with h|h<;>simp[h]
theorem BS{t:Int}(h:¬bF t):ql t=false:=by
 unfold ql bF at*
 have h1:¬uK t=1:=fun e=>h (.inl e)
 have h2:¬uK t=2:=fun e=>h (.inr e)
 simp[h1,h2]
theorem tN(L:NP p c k d R)(s:St)(b t:Int)(w:World)(hG:G w p c s)(ht:nJ c s.zs b=t):
  Calls Tryz.prog 87 #[.func (.func k) #[.pointer (some ⟨p.a,0,none⟩)] #[],.int .i64 b] w (LP R w p c ⟨s.zs,s.m+d*fe (aF c b 0)⟩ (.bool (ql t))):=by
 have H:=hid (L.rd s b 0 t w hG ht)
 have hbd:=Ar hG b
 rw[ht] at hbd
 have hfd:=zl
 have HL:=hid L
 have hent:=L.ent
 obtain⟨k1,e1⟩:∃x,(uK t==1)=x:=⟨_,rfl⟩
 obtain⟨k2,e2⟩:∃x,(uK t==2)=x:=⟨_,rfl⟩
 have E:Hid (ql t=(k1||k2)):=hid (by unfold ql;rw[e1,e2])
 clear hG ht L
 cases k1<;>cases k2
 all_goals
  go_enter Tryz.func87,Tryz.ntmps87
  go_wp2_with fail
  refine H.out.mono ?_
  rintro e w1 ⟨rfl,hG,hR⟩
  have HG:=hid hG
  have HR:=hid hR
  clear hG hR
  go_wp2_with fail
  refine(tunpack_any t _ hbd.1 hbd.2).mono ?_
  rintro e w2 ⟨rfl,hb⟩
  have HB:=hid hb
  clear hb
  go_wp2_with fail
  go_ret
  exact⟨by rw[E.out];rfl,HG.out.later HB.out,HL.out.trans HR.out (HL.out.below HB.out)⟩
theorem xY(L:NP p c k d R)(s:St)(b np nd:Nat)(x:Int)(w:World)(hG:G w p c s)(hx:x=(b:Int))(hb:b<c.N)(hk:bF (nth s.zs (adr c b 0)))(h1:nth s.zs (adr c b 1)=(np:Int))(h2:nth s.zs (adr c b 2)=(nd:Int)):
  Calls Tryz.prog 123 #[.func (.func k) #[.pointer (some ⟨p.a,0,none⟩)] #[],.int .i64 x] w (LP R w p c ⟨s.zs,s.m+d*3⟩ (.tuple #[.agg #[.int .i64 (np:Int),.int .i64 (nd:Int)],.bool true])):=by
 subst hx
 have hW:=hG.may.w
 have W1:Hid (1<c.W):=hid (by omega)
 have W2:Hid (2<c.W):=hid (by omega)
 have b1:=hG.wf (adr c b 1)
 have b2:=hG.wf (adr c b 2)
 rw[h1] at b1
 rw[h2] at b2
 have H1:=hid h1
 have H2:=hid h2
 have HL:=hid L
 have hent:=L.ent
 have HI:Hid (∀w',G w' p c s→Calls Tryz.prog 87 #[.func (.func k) #[.pointer (some ⟨p.a,0,none⟩)] #[],.int .i64 (b:Int)] w' (LP R w' p c ⟨s.zs,s.m+d⟩ (.bool true))):=hid (fun w' hG'=>by
  have h:=tN L s (b:Int) (nth s.zs (adr c b 0)) w' hG' (pY hG.may hb)
  rw[yS hk,show aF c (b:Int) 0=some (adr c b 0) from iq hb (v:=0) (by omega)] at h
  rw[show s.m+d*fe (some (adr c b 0))=s.m+d by simp[fe]] at h
  exact h)
 have HG0:=hid (hG.alloc (.cells #[.int .i64 0,.int .i64 0] 149))
 have BR:=hid (aT.new w #[.int .i64 0,.int .i64 0] 149)
 have HR0:Hid (R w (w.alloc (.cells #[.int .i64 0,.int .i64 0] 149))):=hid (L.below (ak w _))
 have NO:Hid (∀i,w.heap.size≤i→¬lV p i):=hid (fun i hi hx=>by have:=hG.eG hx;omega)
 have NG:Hid (∀i,w.heap.size≤i→¬inG p i):=hid (fun i hi hx=>NO.out i hi (Or.inr hx))
 have HS0:Hid (w.heap.size<(w.alloc (.cells #[.int .i64 0,.int .i64 0] 149)).heap.size):=hid (by simp)
 clear hG h1 h2 hk L
 go_enter Tryz.func123,Tryz.ntmps123
 go_wp2_with fail
 generalize w.alloc (.cells #[.int .i64 0,.int .i64 0] 149)=w0 at*
 refine(HI.out _ HG0.out).mono ?_
 rintro e w1 ⟨rfl,hG,hR⟩
 have HG1:=hid (hG.alloc (.cells #[.int .i64 0,.int .i64 0] 149))
 have BR1:=hid ((BR.out.touch (HL.out.touch hR) (NG.out _ (Nat.le_refl _))).alloc (.cells #[.int .i64 0,.int .i64 0] 149))
 have BN1:=hid (aT.new w1 #[.int .i64 0,.int .i64 0] 149)
 have hs1:w.heap.size<w1.heap.size:=Nat.lt_of_lt_of_le HS0.out (HL.out.touch hR).size
 have HR1:Hid (R w (w1.alloc (.cells #[.int .i64 0,.int .i64 0] 149))):=hid (HL.out.trans HR0.out (HL.out.trans hR (HL.out.below (ak w1 _))))
 clear hG hR HG0 BR HR0
 go_wp2_with fail
 generalize hn:w1.heap.size=n at*
 generalize w1.alloc (.cells #[.int .i64 0,.int .i64 0] 149)=v1 at*
 refine wp_loop_rounds 3 ?_
 rw[rounds_succ]
 go_wp2_with fail
 refine(HL.out.QS _ b 1 _ _ _ _ HG1.out hb W1.out rfl rfl H1.out).mono ?_
 rintro e w2 ⟨rfl,hG,hR⟩
 have HG2:=hid hG
 have BR2:=hid (BR1.out.touch (HL.out.touch hR) (NG.out _ (Nat.le_refl _)))
 have BN2:=hid (BN1.out.touch (HL.out.touch hR) (NG.out _ (Nat.le_of_lt hs1)))
 have HR2:=hid (HL.out.trans HR1.out hR)
 clear hG hR HG1 BR1 BN1 HR1
 have cn:=BN2.out.cell 0 rfl
 have fn:=BN2.out.free 0
 go_wp2_with fail
 have TQ:Hid (Touch (fun i=>i=n) w2 (w2.setCell ⟨n,0,none⟩ (.int .i64 (np:Int)))):=hid ((Touch.refl (fun i=>i=n) w2).setCell (p:=⟨n,0,none⟩) (fun _=>rfl) _)
 have HG3:=hid (HG2.out.touch TQ.out (fun i hi e=>NO.out i (by omega) hi))
 have BR3:=hid (BR2.out.other (p:=⟨n,0,none⟩) (by show n≠w.heap.size;omega) (.int .i64 (np:Int)))
 have BN3:=hid (BN2.out.put (cs':= #[.int .i64 (np:Int),.int .i64 0]) 0 (.int .i64 (np:Int)) rfl)
 have HR3:=hid (HL.out.set HR2.out (q:=⟨n,0,none⟩) (Nat.le_of_lt hs1) (.int .i64 (np:Int)))
 clear HG2 BR2 BN2 HR2 TQ cn fn
 generalize w2.setCell ⟨n,0,none⟩ (.int .i64 (np:Int))=v2 at*
 rw[rounds_succ]
 go_wp2_with fail
 refine(HL.out.QS _ b 2 _ _ _ _ HG3.out hb W2.out rfl rfl H2.out).mono ?_
 rintro e w4 ⟨rfl,hG,hR⟩
 have HG4:=hid hG
 have BR4:=hid (BR3.out.touch (HL.out.touch hR) (NG.out _ (Nat.le_refl _)))
 have BN4:=hid (BN3.out.touch (HL.out.touch hR) (NG.out _ (Nat.le_of_lt hs1)))
 have HR4:=hid (HL.out.trans HR3.out hR)
 clear hG hR HG3 BR3 BN3 HR3
 have cn:=BN4.out.cell 1 rfl
 have fn:=BN4.out.free 1
 go_wp2_with fail
 have TQ:Hid (Touch (fun i=>i=n) w4 (w4.setCell ⟨n,1,none⟩ (.int .i64 (nd:Int)))):=hid ((Touch.refl (fun i=>i=n) w4).setCell (p:=⟨n,1,none⟩) (fun _=>rfl) _)
 have HG5:=hid (HG4.out.touch TQ.out (fun i hi e=>NO.out i (by omega) hi))
 have BR5:=hid (BR4.out.other (p:=⟨n,1,none⟩) (by show n≠w.heap.size;omega) (.int .i64 (nd:Int)))
 have BN5:=hid (BN4.out.put (cs':= #[.int .i64 (np:Int),.int .i64 (nd:Int)]) 1 (.int .i64 (nd:Int)) rfl)
 have HR5:=hid (HL.out.set HR4.out (q:=⟨n,1,none⟩) (Nat.le_of_lt hs1) (.int .i64 (nd:Int)))
 clear HG4 BR4 BN4 HR4 TQ cn fn
 generalize w4.setCell ⟨n,1,none⟩ (.int .i64 (nd:Int))=v4 at*
 rw[rounds_succ]
 have c0:=BN5.out.cell 0 rfl
 have c1:=BN5.out.cell 1 rfl
 have r0:=BR5.out.cell 0 rfl
 have r1:=BR5.out.cell 1 rfl
 have f0:=BR5.out.free 0
 have f1:=BR5.out.free 1
 go_wp2_with fail
 exact bodyPost_ret (v:=.tuple #[.agg #[.int .i64 (np:Int),.int .i64 (nd:Int)],.bool true]) (by simp[results,Tryz.results123,go_sem,r0,r1]) rfl ⟨rfl,by
  have T2:Touch (fun i=>w.heap.size≤i) v4 ((v4.setCell ⟨w.heap.size,0,none⟩ (.int .i64 (np:Int))).setCell ⟨w.heap.size,1,none⟩ (.int .i64 (nd:Int))):=((Touch.refl _ v4).setCell (p:=⟨w.heap.size,0,none⟩) (fun _=>Nat.le_refl _) _).setCell (p:=⟨w.heap.size,1,none⟩) (fun _=>Nat.le_refl _) _
  exact(HG5.out.touch T2 (fun i hi e=>NO.out i e hi)).to rfl (by show s.m+d+d+d=s.m+d*3;omega),HL.out.set (HL.out.set HR5.out (q:=⟨w.heap.size,0,none⟩) (Nat.le_refl _) _) (q:=⟨w.heap.size,1,none⟩) (Nat.le_refl _) _⟩
theorem zZ(L:NP p c k d R)(s:St)(x t:Int)(w:World)(hG:G w p c s)(ht:nJ c s.zs x=t)(hk:¬bF t):
  Calls Tryz.prog 123 #[.func (.func k) #[.pointer (some ⟨p.a,0,none⟩)] #[],.int .i64 x] w (LP R w p c ⟨s.zs,s.m+d*fe (aF c x 0)⟩ (.tuple #[.agg #[.int .i64 0,.int .i64 0],.bool false])):=by
 have HL:=hid L
 have hent:=L.ent
 have HI:Hid (∀w',G w' p c s→Calls Tryz.prog 87 #[.func (.func k) #[.pointer (some ⟨p.a,0,none⟩)] #[],.int .i64 x] w' (LP R w' p c ⟨s.zs,s.m+d*fe (aF c x 0)⟩ (.bool false))):=hid (fun w' hG'=>by
  have h:=tN L s x t w' hG' ht
  rw[BS hk] at h
  exact h)
 have HG0:=hid (hG.alloc (.cells #[.int .i64 0,.int .i64 0] 149))
 have BR:=hid (aT.new w #[.int .i64 0,.int .i64 0] 149)
 have HR0:Hid (R w (w.alloc (.cells #[.int .i64 0,.int .i64 0] 149))):=hid (L.below (ak w _))
 have NO:Hid (∀i,w.heap.size≤i→¬lV p i):=hid (fun i hi hx=>by have:=hG.eG hx;omega)
 clear hG ht hk L
 go_enter Tryz.func123,Tryz.ntmps123
 go_wp2_with fail
 generalize w.alloc (.cells #[.int .i64 0,.int .i64 0] 149)=w0 at*
 refine(HI.out _ HG0.out).mono ?_
 rintro e w1 ⟨rfl,hG,hR⟩
 have HG1:=hid hG
 have BR1:=hid (BR.out.touch (HL.out.touch hR) (fun hx=>NO.out _ (Nat.le_refl _) (Or.inr hx)))
 have HR1:=hid (HL.out.trans HR0.out hR)
 clear hG hR HG0 BR HR0
 have f0:=BR1.out.free 0
 have f1:=BR1.out.free 1
 have r0:=BR1.out.cell 0 rfl
 have r1:=BR1.out.cell 1 rfl
 go_wp2_with fail
 exact bodyPost_ret (v:=.tuple #[.agg #[.int .i64 0,.int .i64 0],.bool false]) (by simp[results,Tryz.results123,go_sem,r0,r1]) rfl ⟨rfl,by
  have T2:Touch (fun i=>w.heap.size≤i) w1 ((w1.setCell ⟨w.heap.size,0,none⟩ (.int .i64 0)).setCell ⟨w.heap.size,1,none⟩ (.int .i64 0)):=((Touch.refl _ w1).setCell (p:=⟨w.heap.size,0,none⟩) (fun _=>Nat.le_refl _) _).setCell (p:=⟨w.heap.size,1,none⟩) (fun _=>Nat.le_refl _) _
  exact HG1.out.touch T2 (fun i hi e=>NO.out i e hi),HL.out.set (HL.out.set HR1.out (q:=⟨w.heap.size,0,none⟩) (Nat.le_refl _) _) (q:=⟨w.heap.size,1,none⟩) (Nat.le_refl _) _⟩
theorem zi(L:NP p c k d R)(s:St)(h j n:Nat)(x z:Int)(w:World)(hG:G w p c s)(hx:x=(h:Int))(hz:z=(j:Int))(hh:h<c.N)(hj:8+j<c.W)(hn:nth s.zs (adr c h (8+j))=(n:Int)):
  Calls Tryz.prog 178 #[.func (.func k) #[.pointer (some ⟨p.a,0,none⟩)] #[],.int .i64 x,.int .i64 z] w (LP R w p c ⟨s.zs,s.m+d⟩ (if n=0 then .tuple #[.int .i64 0,.bool false] else .tuple #[.int .i64 ((n:Int)-1),.bool true])):=by
 subst hx hz
 have hW:=hG.may.w
 have H:=hid (L.QS s h (8+j) (h:Int) (8+(j:Int)) (n:Int) w hG hh hj rfl (by omega) hn)
 have hbd:=hG.wf (adr c h (8+j))
 rw[hn] at hbd
 have hent:=L.ent
 clear hG hn L
 by_cases h0:n=0
 ·subst h0
  rw[if_pos rfl]
  go_enter Tryz.func178,Tryz.ntmps178
  go_wp2_with fail
  refine H.out.mono ?_
  rintro e w1 ⟨rfl,hG,hR⟩
  have HG:=hid hG
  have HR:=hid hR
  clear hG hR
  go_wp2_with fail
  go_ret2
  exact⟨rfl,HG.out,HR.out⟩
 ·rw[if_neg h0]
  have hne:((n:Int)==0)=false:=vV (by omega)
  go_enter Tryz.func178,Tryz.ntmps178
  go_wp2_with fail
  refine H.out.mono ?_
  rintro e w1 ⟨rfl,hG,hR⟩
  have HG:=hid hG
  have HR:=hid hR
  clear hG hR
  go_wp2_with fail
  go_ret2
  exact⟨rfl,HG.out,HR.out⟩
def EJ(c:Cf)(o:Ob):Nat:=if o.f≤c.W-8 then 0 else 1
theorem EK(c:Cf)(o:Ob):EJ c o≤1:=by unfold EJ;split<;>omega
def QP(q:Option (Nat × Nat)):Value:=match q with
 |some q=>.tuple #[.int .i64 (q.1:Int),.int .i64 (q.2:Int),.bool true]
 |none=>.tuple #[.int .i64 0,.int .i64 0,.bool false]
theorem KN(L:NP p c k d R)(s:St)(o:Ob)(i:Nat)(w:World)(hG:G w p c s)(hA:jo c s.zs o)(hi:i<o.f):
  Calls Tryz.prog 127 #[.func (.func k) #[.pointer (some ⟨p.a,0,none⟩)] #[],.int .i64 (c.W:Int),.int .i64 (o.h:Int),.int .i64 (o.f:Int),.int .i64 (i:Int)] w (LP R w p c ⟨s.zs,s.m+d*EJ c o⟩ (QP (bI c o i))):=by
 have hW:=hG.may.w
 have hf:=hA.size
 have hp:fo c.W o.f i=0:=zm (Ji (by omega) (by omega) (by omega) hf) (by omega) (by omega)
 have HP:=hid (CW c.W o.f i w)
 unfold ku at HP
 have HL:=hid L
 have HG:=hid hG
 by_cases hs:o.f≤c.W-8
 ·obtain⟨q1,q2⟩:=uR hp (by omega)
  rw[q1,q2,hp] at HP
  rw[jX hs,show EJ c o=0 by unfold EJ;rw[if_pos hs]]
  show Calls _ _ _ _ (LP R w p c ⟨s.zs,s.m⟩ (.tuple #[.int .i64 (o.h:Int),.int .i64 ((8+i:Nat):Int),.bool true]))
  have e8:((8+i:Nat):Int)=8+(i:Int):=by omega
  rw[e8]
  clear hG hA L hp q1 q2
  go_enter Tryz.func127,Tryz.ntmps127
  go_wp2_with fail
  refine HP.out.mono ?_
  rintro e w1 ⟨rfl,hb⟩
  have HB:=hid hb
  clear hb
  go_wp2_with fail
  go_ret3
  exact⟨rfl,HG.out.later HB.out,HL.out.below HB.out⟩
 ·obtain⟨q1,q2⟩:=zq hp (by omega)
  rw[q1,q2,hp] at HP
  have hpl:=hA.place hG.may hs hi
  have hlW:=hA.Im hG.may
  have hown:=hA.own _ hpl
  have eq1:(i:Int)/((c.W:Int)-1)=((i/(c.W-1):Nat):Int):=by rw[show((c.W:Int)-1)=((c.W-1:Nat):Int) by omega];exact(Int.natCast_ediv _ _).symm
  have eq2:1+(i:Int)%((c.W:Int)-1)=((1+i%(c.W-1):Nat):Int):=by
   have e:(i:Int)%((c.W:Int)-1)=((i%(c.W-1):Nat):Int):=by rw[show((c.W:Int)-1)=((c.W-1:Nat):Int) by omega];exact(Int.natCast_emod _ _).symm
   omega
  rw[eq1,eq2] at HP
  rw[show EJ c o=1 by unfold EJ;rw[if_neg hs],Nat.mul_one]
  have hg:o.lv[i/(c.W-1)]? =some o.lv[i/(c.W-1)]:=List.getElem?_eq_getElem hpl
  generalize o.lv[i/(c.W-1)]=n at*
  have HLf:=hid (fun w' hG'=>zi L s o.h (i/(c.W-1)) n (o.h:Int) _ w' hG' rfl rfl hA.hlt (by omega) hown)
  have hsm:¬(((i/(c.W-1):Nat):Int)= -1):=fun e=>by have h0:=Int.natCast_nonneg (i/(c.W-1));rw[e] at h0;exact absurd h0 (by decide)
  have hne:=vV hsm
  by_cases h0:n=0
  ·subst h0
   rw[BG hs hg]
   simp only[if_true] at HLf
   show Calls _ _ _ _ (LP R w p c ⟨s.zs,s.m+d⟩ (.tuple #[.int .i64 0,.int .i64 0,.bool false]))
   generalize i/(c.W-1)=lf at*
   generalize 1+i%(c.W-1)=at_ at*
   clear hG hA L hp q1 q2 eq1 eq2 hown hg hpl
   go_enter Tryz.func127,Tryz.ntmps127
   go_wp2_with fail
   refine HP.out.mono ?_
   rintro e w1 ⟨rfl,hb⟩
   have HB:=hid hb
   clear hb
   go_wp2_with fail
   refine(HLf.out w1 (HG.out.later HB.out)).mono ?_
   rintro e w2 ⟨rfl,hG,hR⟩
   have HG2:=hid hG
   have HR2:=hid (HL.out.trans (HL.out.below HB.out) hR)
   clear hG hR
   go_wp2_with fail
   go_ret3
   exact⟨rfl,HG2.out,HR2.out⟩
  ·obtain⟨b,rfl⟩:∃b,n=b+1:=⟨n-1,by omega⟩
   rw[kI hs hg]
   simp only[Nat.add_eq_zero_iff,Nat.one_ne_zero,and_false,if_false] at HLf
   rw[show(((b+1:Nat):Int)-1)=(b:Int) by omega] at HLf
   show Calls _ _ _ _ (LP R w p c ⟨s.zs,s.m+d⟩ (.tuple #[.int .i64 (b:Int),.int .i64 ((1+i%(c.W-1):Nat):Int),.bool true]))
   generalize i/(c.W-1)=lf at*
   generalize 1+i%(c.W-1)=at_ at*
   clear hG hA L hp q1 q2 eq1 eq2 hown hg hpl
   go_enter Tryz.func127,Tryz.ntmps127
   go_wp2_with fail
   refine HP.out.mono ?_
   rintro e w1 ⟨rfl,hb⟩
   have HB:=hid hb
   clear hb
   go_wp2_with fail
   refine(HLf.out w1 (HG.out.later HB.out)).mono ?_
   rintro e w2 ⟨rfl,hG,hR⟩
   have HG2:=hid hG
   have HR2:=hid (HL.out.trans (HL.out.below HB.out) hR)
   clear hG hR
   go_wp2_with fail
   go_ret3
   exact⟨rfl,HG2.out,HR2.out⟩
end
theorem BV{c:Cf}{zs:List Int}{pool:List Nat}{os:List Ob}(H:ah c zs pool os)(hm:c.May){r:Int}(h:fC os r=none):¬bF (nJ c zs (r-1)):=by
 by_cases hr:0≤r-1∧r-1<(c.N:Int)
 ·obtain⟨b,hb⟩:∃b:Nat,r-1=(b:Int):=⟨(r-1).toNat,by omega⟩
  rw[hb,pY hm (by omega)]
  rcases H.all (b:=b) (by omega) with hp|⟨o,ho,hbo⟩
  ·rw[H.pl.fr b hp];unfold bF uK;decide
  ·have hne:o.h≠b:=fun e=>zf h o ho (by omega)
   have:b∈o.leaves:=by
    unfold Ob.blocks at hbo
    rcases List.mem_cons.1 hbo with e|e
    ·exact absurd e.symm hne
    ·exact e
   rw[(H.bU o ho).leaf b (Ob.bB.1 this)]
   unfold bF uK;omega
 ·rw[xq hr];unfold bF uK;decide
theorem AU{x:Int}(h: -9223372036854775808≤x∧x≤9223372036854775807):wrap64 x=x:=IntWalk.wrap64_in x h
def prev(r:Int):Int:=wrap64 (r-1)
theorem Nf{r:Int}(hr:In64 r)(h:r≠-9223372036854775808):prev r=r-1:=by
 unfold In64 at hr
 exact AU (by omega)
theorem vK{c:Cf}(hm:c.May){h:Nat}(hh:h<c.N):prev ((h:Int)+1)=(h:Int):=by
 have:=hm.n
 unfold prev
 rw[show(h:Int)+1-1=(h:Int) by omega]
 exact AU (by omega)
theorem dG{c:Cf}(hm:c.May){h:Nat}(hh:h<c.N):wrap64 (h:Int)=(h:Int):=by
 have:=hm.n
 exact AU (by omega)
theorem uM{c:Cf}{zs:List Int}{pool:List Nat}{os:List Ob}(H:ah c zs pool os)(hm:c.May){r:Int}(hr:In64 r)(h:Pk.fC os r=none):¬bF (nJ c zs (prev r)):=by
 have hN:=hm.n
 by_cases e:r= -9223372036854775808
 ·subst e
  rw[show prev (-9223372036854775808)=9223372036854775807 from by unfold prev wrap64;decide,xq (by omega)]
  unfold bF uK;decide
 ·rw[Nf hr e]
  exact BV H hm h
theorem OP(a b x:Int)(w:World)(h:wrap64 (a+b)=x):Calls Tryz.prog 126 #[.agg #[.int .i64 a,.int .i64 b]] w fun e w'=>e=.returned (.int .i64 x)∧Below w.heap.size w w':=by
 subst h
 go_enter Tryz.func126,Tryz.ntmps126
 go_wp2_with fail
 go_ret
 exact⟨rfl,ak _ _⟩
def Qb(q:Option (Nat × Nat)):Value:=match q with
 |some q=>.tuple #[.int .i64 (q.1:Int),.int .i64 (q.2:Int),.int .i64 0]
 |none=>.tuple #[.int .i64 0,.int .i64 0,.int .i64 7]
section
variable {p:Pl} {c:Cf} {s:St} {pool:List Nat} {os:List Ob} {o:Ob} {r:Int} {w:World}
theorem jd(hG:G w p c s)(H:ah c s.zs pool os)(ho:o∈os):Calls Tryz.prog 123 #[.func (.func 88) #[.pointer (some ⟨p.a,0,none⟩)] #[],.int .i64 (o.h:Int)] w (GP w p c ⟨s.zs,s.m+3⟩ (.tuple #[.agg #[.int .i64 (o.np:Int),.int .i64 (o.nd:Int)],.bool true])):=by
 have hA:=H.bU o ho
 exact xY (wX p c) s o.h o.np o.nd _ w hG rfl hA.hlt hA.head hA.w1 hA.w2
theorem rC(hG:G w p c s)(H:ah c s.zs pool os)(hr:In64 r)(ho:fC os r=none):Calls Tryz.prog 123 #[.func (.func 88) #[.pointer (some ⟨p.a,0,none⟩)] #[],.int .i64 (prev r)] w (GP w p c ⟨s.zs,s.m+fe (aF c (prev r) 0)⟩ (.tuple #[.agg #[.int .i64 0,.int .i64 0],.bool false])):=by
 have h:=zZ (wX p c) s _ _ w hG rfl (uM H hG.may hr ho)
 rw[Nat.one_mul] at h
 exact h
theorem Cs(hG:G w p c s)(H:ah c s.zs pool os)(ho:o∈os):o.np+o.nd≤100000:=by
 have hA:=H.bU o ho
 have h1:=hA.size
 have hW:=hG.may.w
 have h2:aZ c.W≤63240:=by
  unfold aZ
  have a1:(0:Int)≤(c.W:Int)-8:=by omega
  have a2:(c.W:Int)-8≤248:=by omega
  have a3:(c.W:Int)-1≤255:=by omega
  have a4:(0:Int)≤(c.W:Int)-1:=by omega
  have:=Int.mul_le_mul a2 a3 a4 (by omega:(0:Int)≤248)
  omega
 unfold Ob.f at h1
 omega
set_option maxHeartbeats 1000000 in
theorem Co(hG:G w p c s)(H:ah c s.zs pool os)(hr:In64 r)(ho:fC os r=none)(kk i:Int):
  Calls Tryz.prog 135 #[.pointer (some ⟨p.a,0,none⟩),.int .i64 r,.int .i64 kk,.int .i64 i] w (GP w p c ⟨s.zs,s.m+fe (aF c (prev r) 0)⟩ (.tuple #[.int .i64 0,.int .i64 0,.int .i64 8])):=by
 have hmf:∀(fn:Fn) (first cap:Array Value) (w:World),(Instr.makeFunc fn first cap).run Tryz.prog w=.ok (.func fn first cap) w:=fun _ _ _ _=>rfl
 have HL:=hid (rC hG H hr ho)
 have HG:=hid hG
 have e1:wrap64 (r-1)=prev r:=rfl
 clear hG H ho hr
 go_enter Tryz.func135,Tryz.ntmps135
 have HT0:Hid (Touch (inG p) w w):=hid (Touch.refl _ _)
 go_wp2_with fail
 refine(HL.out).mono ?_
 rintro e wm1 ⟨rfl,hG,hT⟩
 have HG1:=hid hG
 have HT1:Hid (Touch (inG p) _ wm1):=hid (HT0.out.trans hT)
 clear hG hT
 go_wp2_with fail
 go_ret3
 exact⟨rfl,HG1.out.alloc _,HT1.out.alloc _⟩
set_option maxHeartbeats 1000000 in
theorem zY(hG:G w p c s)(H:ah c s.zs pool os)(ho:o∈os)(i:Int)(hi:lg i o.np=false):
  Calls Tryz.prog 135 #[.pointer (some ⟨p.a,0,none⟩),.int .i64 ((o.h:Int)+1),.int .i64 0,.int .i64 i] w (GP w p c ⟨s.zs,s.m+3⟩ (.tuple #[.int .i64 0,.int .i64 0,.int .i64 7])):=by
 have hmf:∀(fn:Fn) (first cap:Array Value) (w:World),(Instr.makeFunc fn first cap).run Tryz.prog w=.ok (.func fn first cap) w:=fun _ _ _ _=>rfl
 have HL:=hid (jd hG H ho)
 have HG:=hid hG
 have e1:=dG hG.may (H.bU o ho).hlt
 have hb:=Oj hi
 clear hG H ho hi
 by_cases h0:i<0
 ·clear hb
  go_enter Tryz.func135,Tryz.ntmps135
  have HT0:Hid (Touch (inG p) w w):=hid (Touch.refl _ _)
  go_wp2_with fail
  refine(HL.out).mono ?_
  rintro e wm1 ⟨rfl,hG,hT⟩
  have HG1:=hid hG
  have HT1:Hid (Touch (inG p) _ wm1):=hid (HT0.out.trans hT)
  clear hG hT
  go_wp2_with fail
  go_ret3
  exact⟨rfl,HG1.out.alloc _,HT1.out.alloc _⟩
 ·have h1:i≥(o.np:Int):=by omega
  clear hb
  go_enter Tryz.func135,Tryz.ntmps135
  have HT0:Hid (Touch (inG p) w w):=hid (Touch.refl _ _)
  go_wp2_with fail
  refine(HL.out).mono ?_
  rintro e wm1 ⟨rfl,hG,hT⟩
  have HG1:=hid hG
  have HT1:Hid (Touch (inG p) _ wm1):=hid (HT0.out.trans hT)
  clear hG hT
  go_wp2_with fail
  go_ret3
  exact⟨rfl,HG1.out.alloc _,HT1.out.alloc _⟩
set_option maxHeartbeats 2000000 in
theorem wV(hG:G w p c s)(H:ah c s.zs pool os)(ho:o∈os)(i:Nat)(hi:i<o.np):
  Calls Tryz.prog 135 #[.pointer (some ⟨p.a,0,none⟩),.int .i64 ((o.h:Int)+1),.int .i64 0,.int .i64 (i:Int)] w (GP w p c ⟨s.zs,s.m+(3+EJ c o)⟩ (Qb (bI c o (i)))):=by
 have hmf:∀(fn:Fn) (first cap:Array Value) (w:World),(Instr.makeFunc fn first cap).run Tryz.prog w=.ok (.func fn first cap) w:=fun _ _ _ _=>rfl
 have HL:=hid (jd hG H ho)
 have HG:=hid hG
 have e1:=dG hG.may (H.bU o ho).hlt
 have hsm:=Cs hG H ho
 have e2:wrap64 ((o.np:Int)+(o.nd:Int))=(o.f:Int):=by rw[AU (by omega)];unfold Ob.f;omega
 have e4:IntKind.i64.wrap (o.h:Int)=(o.h:Int):=by rw[IntWalk.i64_left,e1]
 have hi2:(i:Int)+(o.np:Int)≤200000:=by omega
 have h0:¬(i:Int)<0:=by omega
 have h1:¬(i:Int)≥(o.np:Int):=by omega
 have hif:i<o.f:=by unfold Ob.f;omega
 have hP:=fun w' (hG':G w' p c ⟨s.zs,s.m+3⟩)=>KN (wX p c) ⟨s.zs,s.m+3⟩ o (i) w' hG' (H.bU o ho) hif
 rw[show(((i:Nat)):Int)=(i:Int) from by omega] at hP
 have hfd:=pu (c.N:Int) (c.W:Int) (c.R:Int) (c.K:Int)
 generalize bI c o (i)=q at*
 have HP:=hid hP
 clear hG H ho hi hsm hif hP
 go_enter Tryz.func135,Tryz.ntmps135
 have HT0:Hid (Touch (inG p) w w):=hid (Touch.refl _ _)
 go_wp2_with fail
 refine(HL.out).mono ?_
 rintro e wm1 ⟨rfl,hG,hT⟩
 have HG1:=hid hG
 have HT1:Hid (Touch (inG p) _ wm1):=hid (HT0.out.trans hT)
 clear hG hT
 have HG2:=hid (HG1.out.alloc (.cells #[.int .i64 (o.np:Int),.int .i64 (o.nd:Int)] 149))
 have BN2:=hid (aT.new wm1 #[.int .i64 (o.np:Int),.int .i64 (o.nd:Int)] 149)
 have HT2:Hid (Touch (inG p) w (wm1.alloc (.cells #[.int .i64 (o.np:Int),.int .i64 (o.nd:Int)] 149))):=hid (HT1.out.alloc _)
 have NG:Hid (¬inG p wm1.heap.size):=hid (vJ HG1.out)
 go_wp2_with fail
 generalize wm1.heap.size=n at*
 generalize wm1.alloc (.cells #[.int .i64 (o.np:Int),.int .i64 (o.nd:Int)] 149)=v1 at*
 have c0:v1.cell? ⟨n,0,none⟩=some (.int .i64 (o.np:Int)):=BN2.out.cell 0 rfl
 have c1:v1.cell? ⟨n,1,none⟩=some (.int .i64 (o.nd:Int)):=BN2.out.cell 1 rfl
 refine wp_loop_rounds 1 ?_
 rw[rounds_succ]
 go_wp2_with fail
 have cc0:=fun w' (hC:Below v1.heap.size v1 w')=>(show w'.cell? ⟨n,0,none⟩=some (.int .i64 (o.np:Int)) from(BN2.out.later hC).cell 0 rfl)
 have cc1:=fun w' (hC:Below v1.heap.size v1 w')=>(show w'.cell? ⟨n,1,none⟩=some (.int .i64 (o.nd:Int)) from(BN2.out.later hC).cell 1 rfl)
 refine qP [az.is (.pointer (some ⟨p.a,0,none⟩)),az.is (.func (.func 88) #[.pointer (some ⟨p.a,0,none⟩)] #[]),az.is (.pointer (some ⟨p.a,0,none⟩)),az.is (.agg #[.int .i64 (c.N:Int),.int .i64 (c.W:Int),.int .i64 (c.R:Int),.int .i64 (c.K:Int)]),az.is (.int .i64 ((c.W:Int))),az.is (.int .i64 ((o.h:Int)+1)),az.is (.int .i64 ((o.h:Int))),az.is (.agg #[.int .i64 (o.np:Int),.int .i64 (o.nd:Int)]),az.is (.int .i64 ((o.f:Int))),az.is (.int .i64 ((i:Int)))] (by kernel_rfl) (by kernel_rfl) rfl rfl (by kernel_rfl) (by kernel_rfl) (fun _ _ _ _ _ h=>h) (fun ops K2 hops hK=> ?_)
 refine aj (au rfl) (fun w' hC hd=>bJ _ (.inl rfl) rfl) (by go_frame;rfl) (by simp only[List.nil_append,List.cons_append];rfl) ?_
 refine aj (au rfl) (fun w' hC hd=>aP 48 (.pointer (some ⟨p.a,0,none⟩)) rfl (fun ρ hρ hf e0=>bD (by go_simp))) (by go_frame;rfl) (by simp only[List.nil_append,List.cons_append];rfl) ?_
 refine aj (au rfl) (fun w' hC hd=>bJ _ (.inl rfl) rfl) (by go_frame;rfl) (by simp only[List.nil_append,List.cons_append];rfl) ?_
 refine aj (au rfl) (fun w' hC hd=>aP 50 (.pointer (some ⟨p.a,0,none⟩)) rfl (fun ρ hρ hf e0=>iG (f:=25) (by go_simp) (fT p c _ w' (HG2.out.later hC)))) (by go_frame;rfl) (by simp only[List.nil_append,List.cons_append];rfl) ?_
 refine aj (au rfl) (fun w' hC hd=>aP 51 (.agg #[.int .i64 (c.N:Int),.int .i64 (c.W:Int),.int .i64 (c.R:Int),.int .i64 (c.K:Int)]) rfl (fun ρ hρ hf e0=>bD (by have hb0:=hfd;go_simp))) (by go_frame;rfl) (by simp only[List.nil_append,List.cons_append];rfl) ?_
 refine aj (au rfl) (fun w' hC hd=>bJ _ (.inl rfl) rfl) (by go_frame;rfl) (by simp only[List.nil_append,List.cons_append];rfl) ?_
 refine aj (au rfl) (fun w' hC hd=>aP 53 (.int .i64 ((o.h:Int)+1)) rfl (fun ρ hρ hf e0=>bD (by have hb0:=e4;go_simp))) (by go_frame;rfl) (by simp only[List.nil_append,List.cons_append];rfl) ?_
 refine aj (au rfl) (fun w' hC hd=>aP 11 (.pointer (some ⟨n,0,none⟩)) rfl (fun ρ hρ hf e0=>bD (by have hc0:=cc0 w' hC;have hc1:=cc1 w' hC;go_simp))) (by go_frame;rfl) (by simp only[List.nil_append,List.cons_append];rfl) ?_
 refine aj (au rfl) (fun w' hC hd=>aP 55 (.agg #[.int .i64 (o.np:Int),.int .i64 (o.nd:Int)]) rfl (fun ρ hρ hf e0=>iG (f:=126) (by go_simp) (OP _ _ _ w' e2))) (by go_frame;rfl) (by simp only[List.nil_append,List.cons_append];rfl) ?_
 refine aj (au rfl) (fun w' hC hd=>bJ _ (.inl rfl) rfl) (by go_frame;rfl) (by simp only[List.nil_append,List.cons_append];rfl) ?_
 refine mJ fun w3 hC3 _=>hK _ _ fun K3 hK3=> ?_
 have HG3:=hid (HG2.out.later hC3)
 have HT3:=hid (HT2.out.trans (Touch.of_below (X:=inG p) hC3))
 clear cc0 cc1 hC3 c0 c1 HG2 HT2 BN2
 have hq:=HP.out w3 HG3.out
 clear HP
 go_simp
 cases q with
 |none=>
  simp only[QP] at hq
  have HQ:=hid hq
  clear hq
  refine HQ.out.mono ?_
  rintro e w4 ⟨rfl,hG,hR⟩
  have HG4:=hid hG
  have HT4:=hid (HT3.out.trans hR)
  clear hG hR
  refine hK3 _ _ ?_
  clear hK3 hK
  refine eY (.tuple #[.int .i64 0,.int .i64 0,.bool false]) rfl rfl (fun w=>by go_simp) (by go_frame;rfl) ?_
  refine eY (.int .i64 0) rfl rfl (fun w=>by go_simp) (by go_frame;rfl) ?_
  refine eY (.int .i64 0) rfl rfl (fun w=>by go_simp) (by go_frame;rfl) ?_
  refine eY (.bool false) rfl rfl (fun w=>by go_simp) (by go_frame;rfl) ?_
  refine eY (.int .i64 0) rfl rfl (fun w=>by go_simp) (by go_frame;rfl) ?_
  refine eY (.int .i64 0) rfl rfl (fun w=>by go_simp) (by go_frame;rfl) ?_
  refine eY (.bool false) rfl rfl (fun w=>by go_simp) (by go_frame;rfl) ?_
  refine zx ?_
  go_wp2_with fail
  go_ret3
  exact⟨rfl,HG4.out.to rfl (by show s.m+3+1*EJ c o=s.m+(3+EJ c o);omega),HT4.out⟩
 |some q=>
  simp only[QP] at hq
  have HQ:=hid hq
  clear hq
  refine HQ.out.mono ?_
  rintro e w4 ⟨rfl,hG,hR⟩
  have HG4:=hid hG
  have HT4:=hid (HT3.out.trans hR)
  clear hG hR
  refine hK3 _ _ ?_
  clear hK3 hK
  refine eY (.tuple #[.int .i64 (q.1:Int),.int .i64 (q.2:Int),.bool true]) rfl rfl (fun w=>by go_simp) (by go_frame;rfl) ?_
  refine eY (.int .i64 (q.1:Int)) rfl rfl (fun w=>by go_simp) (by go_frame;rfl) ?_
  refine eY (.int .i64 (q.2:Int)) rfl rfl (fun w=>by go_simp) (by go_frame;rfl) ?_
  refine eY (.bool true) rfl rfl (fun w=>by go_simp) (by go_frame;rfl) ?_
  refine eY (.int .i64 (q.1:Int)) rfl rfl (fun w=>by go_simp) (by go_frame;rfl) ?_
  refine eY (.int .i64 (q.2:Int)) rfl rfl (fun w=>by go_simp) (by go_frame;rfl) ?_
  refine eY (.bool true) rfl rfl (fun w=>by go_simp) (by go_frame;rfl) ?_
  refine zx ?_
  go_wp2_with fail
  go_ret3
  exact⟨rfl,HG4.out.to rfl (by show s.m+3+1*EJ c o=s.m+(3+EJ c o);omega),HT4.out⟩
end
section
variable {p:Pl} {c:Cf} {s:St} {pool:List Nat} {os:List Ob} {o:Ob} {r:Int} {w:World}
theorem PT{c:Cf}{zs:List Int}(H:ah c zs pool os)(hm:c.May)(hr:In64 r):ql (nJ c zs (prev r))=(fC os r).isSome:=by
 cases h:fC os r with
 |none=>exact BS (uM H hm hr h)
 |some o=>
  obtain⟨ho,rfl⟩:=mi h
  have hA:=H.bU o ho
  rw[vK hm hA.hlt,pY hm hA.hlt]
  exact yS hA.head
theorem zg(hG:G w p c s)(r:Int):Calls Tryz.prog 31 #[.pointer (some ⟨p.a,0,none⟩),.int .i64 r] w (GP w p c ⟨s.zs,s.m+1*fe (aF c (prev r) 0)⟩ (.bool (ql (nJ c s.zs (prev r))))):=by
 have hmf:∀(fn:Fn) (first cap:Array Value) (w:World),(Instr.makeFunc fn first cap).run Tryz.prog w=.ok (.func fn first cap) w:=fun _ _ _ _=>rfl
 have H:=hid (tN (wX p c) s (prev r) _ w hG rfl)
 have e1:wrap64 (r-1)=prev r:=rfl
 have HG:=hid hG
 generalize ql (nJ c s.zs (prev r))=hb at*
 clear hG
 go_enter Tryz.func31,Tryz.ntmps31
 have HT0:Hid (Touch (inG p) w w):=hid (Touch.refl _ _)
 go_wp2_with fail
 refine(H.out).mono ?_
 rintro e wm1 ⟨rfl,hG,hT⟩
 have HG1:=hid hG
 have HT1:Hid (Touch (inG p) _ wm1):=hid (HT0.out.trans hT)
 clear hG hT
 go_wp2_with fail
 go_ret
 exact⟨rfl,HG1.out,HT1.out⟩
theorem uP(hG:G w p c s)(H:ah c s.zs pool os)(ho:o∈os):Calls Tryz.prog 97 #[.pointer (some ⟨p.a,0,none⟩),.int .i64 ((o.h:Int)+1)] w (GP w p c ⟨s.zs,s.m+3⟩ (.tuple #[.int .i64 (o.np:Int),.int .i64 (o.nd:Int),.int .i64 0])):=by
 have hmf:∀(fn:Fn) (first cap:Array Value) (w:World),(Instr.makeFunc fn first cap).run Tryz.prog w=.ok (.func fn first cap) w:=fun _ _ _ _=>rfl
 have HL:=hid (jd hG H ho)
 have HG:=hid hG
 have e1:=dG hG.may (H.bU o ho).hlt
 clear hG H ho
 go_enter Tryz.func97,Tryz.ntmps97
 have HT0:Hid (Touch (inG p) w w):=hid (Touch.refl _ _)
 go_wp2_with fail
 refine(HL.out).mono ?_
 rintro e wm1 ⟨rfl,hG,hT⟩
 have HG1:=hid hG
 have HT1:Hid (Touch (inG p) _ wm1):=hid (HT0.out.trans hT)
 clear hG hT
 have HG2:=hid (HG1.out.alloc (.cells #[.int .i64 (o.np:Int),.int .i64 (o.nd:Int)] 149))
 have BN2:=hid (aT.new wm1 #[.int .i64 (o.np:Int),.int .i64 (o.nd:Int)] 149)
 have HT2:Hid (Touch (inG p) w (wm1.alloc (.cells #[.int .i64 (o.np:Int),.int .i64 (o.nd:Int)] 149))):=hid (HT1.out.alloc _)
 go_wp2_with fail
 generalize wm1.heap.size=n at*
 generalize wm1.alloc (.cells #[.int .i64 (o.np:Int),.int .i64 (o.nd:Int)] 149)=v1 at*
 have c0:v1.cell? ⟨n,0,none⟩=some (.int .i64 (o.np:Int)):=BN2.out.cell 0 rfl
 have c1:v1.cell? ⟨n,1,none⟩=some (.int .i64 (o.nd:Int)):=BN2.out.cell 1 rfl
 go_quiet (fail)
 go_wp2_with fail
 go_ret3
 exact⟨rfl,HG2.out.BB ⟨_,rfl⟩,HT2.out.drewN _⟩
theorem ED(hG:G w p c s)(H:ah c s.zs pool os)(hr:In64 r)(ho:fC os r=none):Calls Tryz.prog 97 #[.pointer (some ⟨p.a,0,none⟩),.int .i64 r] w (GP w p c ⟨s.zs,s.m+fe (aF c (prev r) 0)⟩ (.tuple #[.int .i64 0,.int .i64 0,.int .i64 8])):=by
 have hmf:∀(fn:Fn) (first cap:Array Value) (w:World),(Instr.makeFunc fn first cap).run Tryz.prog w=.ok (.func fn first cap) w:=fun _ _ _ _=>rfl
 have HL:=hid (rC hG H hr ho)
 have HG:=hid hG
 have e1:wrap64 (r-1)=prev r:=rfl
 clear hG H ho hr
 go_enter Tryz.func97,Tryz.ntmps97
 have HT0:Hid (Touch (inG p) w w):=hid (Touch.refl _ _)
 go_wp2_with fail
 refine(HL.out).mono ?_
 rintro e wm1 ⟨rfl,hG,hT⟩
 have HG1:=hid hG
 have HT1:Hid (Touch (inG p) _ wm1):=hid (HT0.out.trans hT)
 clear hG hT
 go_wp2_with fail
 go_ret3
 exact⟨rfl,HG1.out.alloc _,HT1.out.alloc _⟩
theorem qC(i E:Int){s':St}(hE:E≠0)(hF:Calls Tryz.prog 135 #[.pointer (some ⟨p.a,0,none⟩),.int .i64 r,.int .i64 0,.int .i64 i] w (GP w p c s' (.tuple #[.int .i64 0,.int .i64 0,.int .i64 E]))):
  Calls Tryz.prog 76 #[.pointer (some ⟨p.a,0,none⟩),.int .i64 r,.int .i64 i] w (GP w p c s' (.tuple #[.int .i64 0,.int .i64 E])):=by
 have HF:=hid hF
 have hne:(E !=0)=true:=by simpa using hE
 clear hF hE
 go_enter Tryz.func76,Tryz.ntmps76
 go_wp2_with fail
 refine HF.out.mono ?_
 rintro e w1 ⟨rfl,hG,hT⟩
 have HG:=hid hG
 have HT:=hid hT
 clear hG hT
 go_wp2_with fail
 go_ret2
 exact⟨rfl,HG.out,HT.out⟩
theorem Iy(i:Int){s':St}(b v:Nat)(y:Int)(hb:b<c.N)(hv:v<c.W)(hy:nth s'.zs (adr c b v)=y)(h0:0≤y)(h1:y≤4294967295)(hF:Calls Tryz.prog 135 #[.pointer (some ⟨p.a,0,none⟩),.int .i64 r,.int .i64 0,.int .i64 i] w (GP w p c s' (.tuple #[.int .i64 (b:Int),.int .i64 (v:Int),.int .i64 0]))):
  Calls Tryz.prog 76 #[.pointer (some ⟨p.a,0,none⟩),.int .i64 r,.int .i64 i] w (GP w p c ⟨s'.zs,s'.m+1⟩ (.tuple #[.int .i64 y,.int .i64 0])):=by
 have HF:=hid hF
 have HY:=hid hy
 have HB:=hid hb
 have HV:=hid hv
 have hwr:IntKind.i64.wrap y=y:=IntWalk.i64_in _ (by omega)
 clear hF hy hb hv
 go_enter Tryz.func76,Tryz.ntmps76
 go_wp2_with fail
 refine HF.out.mono ?_
 rintro e w1 ⟨rfl,hG,hT⟩
 have HG:=hid hG
 have HT:=hid hT
 clear hG hT
 go_wp2_with fail
 refine(wordW p c _ b v _ _ y _ HG.out HB.out HV.out rfl rfl HY.out).mono ?_
 rintro e w2 ⟨rfl,hG,hT⟩
 have HG2:=hid hG
 have HT2:=hid (HT.out.trans hT)
 clear hG hT
 go_wp2_with fail
 go_ret2
 exact⟨rfl,HG2.out,HT2.out⟩
theorem zX(i:Int){s':St}(b v:Nat)(x:Int)(hm:c.May)(hb:b<c.N)(hv:v<c.W)(h0:0≤x)(h1:x≤(c.N:Int))(hF:Calls Tryz.prog 135 #[.pointer (some ⟨p.a,0,none⟩),.int .i64 r,.int .i64 0,.int .i64 i] w (GP w p c s' (.tuple #[.int .i64 (b:Int),.int .i64 (v:Int),.int .i64 0]))):
  Calls Tryz.prog 77 #[.pointer (some ⟨p.a,0,none⟩),.int .i64 r,.int .i64 i,.int .i64 x] w (GP w p c ⟨s'.zs.set (adr c b v) x,s'.m+1⟩ (.int .i64 0)):=by
 have hN:=hm.n
 have HF:=hid hF
 have HB:=hid hb
 have HV:=hid hv
 have h2:x≤4294967295:=by omega
 have hwr:IntKind.u32.wrap x=x:=by rw[IntKind.wrap_u32];omega
 have hfd:=gW (c.N:Int) (c.W:Int) (c.R:Int) (c.K:Int)
 have hlt:¬x<0:=by omega
 have hgt:¬(c.N:Int)<x:=by omega
 clear hF hb hv hN
 go_enter Tryz.func77,Tryz.ntmps77
 have HT0:Hid (Touch (inG p) w w):=hid (Touch.refl _ _)
 go_wp2_with fail
 refine HF.out.mono ?_
 rintro e w1 ⟨rfl,hG,hT⟩
 have HG:=hid hG
 have HT:=hid hT
 clear hG hT
 go_wp2_with fail
 refine(fT p c _ _ HG.out).mono ?_
 rintro e wm1 ⟨rfl,hb⟩
 have HG1:=hid (HG.out.later hb)
 have HT1:Hid (Touch (inG p) _ wm1):=hid (HT.out.trans (Touch.of_below hb))
 clear hb
 go_wp2_with fail
 refine(aJ p c _ b v _ _ x _ HG1.out HB.out HV.out rfl rfl h0 h2).mono ?_
 rintro e w3 ⟨rfl,hG,hT⟩
 have HG3:=hid hG
 have HT3:=hid (HT1.out.trans hT)
 clear hG hT
 go_wp2_with fail
 go_ret
 exact⟨rfl,HG3.out,HT3.out⟩
theorem GQ{c:Cf}{zs:List Int}(hA:jo c zs o)(hm:c.May):dR c.W o.np o.nd=0∧bX c.W o.np o.nd=1+(o.lv.length:Int):=by
 have hW:=hm.w
 have h1:=hA.size
 have h2:=hA.lvs
 unfold Ob.f at h1 h2
 rw[Int.natCast_add] at h1 h2
 have hs:dR c.W o.np o.nd=0:=by
  unfold dR
  rw[if_pos (vQ (by omega) (by omega)),if_neg (by omega)]
 refine⟨hs,?_⟩
 unfold bX
 rw[if_pos hs,h2]
set_option maxHeartbeats 1000000 in
theorem qp(hG:G w p c s)(H:ah c s.zs pool os)(ho:o∈os):Calls Tryz.prog 139 #[.pointer (some ⟨p.a,0,none⟩),.int .i64 ((o.h:Int)+1)] w (GP w p c ⟨s.zs,s.m+3⟩ (.int .i64 (1+(o.lv.length:Int)))):=by
 have hmf:∀(fn:Fn) (first cap:Array Value) (w:World),(Instr.makeFunc fn first cap).run Tryz.prog w=.ok (.func fn first cap) w:=fun _ _ _ _=>rfl
 have HL:=hid (jd hG H ho)
 have HG:=hid hG
 have e1:=dG hG.may (H.bU o ho).hlt
 obtain⟨b1,b2⟩:=GQ (H.bU o ho) hG.may
 have HBk:Hid (∀w',Calls Tryz.prog 125 #[.int .i64 (c.W:Int),.int .i64 (o.np:Int),.int .i64 (o.nd:Int)] w' fun e w''=>e=.returned (.tuple #[.int .i64 (1+(o.lv.length:Int)),.int .i64 0])∧Below w'.heap.size w' w''):=hid (fun w'=>by
  have h:=ko c.W o.np o.nd w'
  rw[b1,b2] at h
  exact h)
 have hfd:=pu (c.N:Int) (c.W:Int) (c.R:Int) (c.K:Int)
 generalize 1+(o.lv.length:Int)=B at*
 clear hG H ho b1 b2
 go_enter Tryz.func139,Tryz.ntmps139
 have HT0:Hid (Touch (inG p) w w):=hid (Touch.refl _ _)
 go_wp2_with fail
 refine(HL.out).mono ?_
 rintro e wm1 ⟨rfl,hG,hT⟩
 have HG1:=hid hG
 have HT1:Hid (Touch (inG p) _ wm1):=hid (HT0.out.trans hT)
 clear hG hT
 have HG2:=hid (HG1.out.alloc (.cells #[.int .i64 (o.np:Int),.int .i64 (o.nd:Int)] 149))
 have BN2:=hid (aT.new wm1 #[.int .i64 (o.np:Int),.int .i64 (o.nd:Int)] 149)
 have HT2:Hid (Touch (inG p) w (wm1.alloc (.cells #[.int .i64 (o.np:Int),.int .i64 (o.nd:Int)] 149))):=hid (HT1.out.alloc _)
 go_wp2_with fail
 generalize wm1.heap.size=n at*
 generalize wm1.alloc (.cells #[.int .i64 (o.np:Int),.int .i64 (o.nd:Int)] 149)=v1 at*
 have cc0:=fun w' (hC:Below v1.heap.size v1 w')=>(show w'.cell? ⟨n,0,none⟩=some (.int .i64 (o.np:Int)) from(BN2.out.later hC).cell 0 rfl)
 have cc1:=fun w' (hC:Below v1.heap.size v1 w')=>(show w'.cell? ⟨n,1,none⟩=some (.int .i64 (o.nd:Int)) from(BN2.out.later hC).cell 1 rfl)
 refine iQ [az.is (.pointer (some ⟨p.a,0,none⟩)),az.is (.agg #[.int .i64 (c.N:Int),.int .i64 (c.W:Int),.int .i64 (c.R:Int),.int .i64 (c.K:Int)]),az.is (.int .i64 ((c.W:Int))),az.is (.pointer (some ⟨n,0,none⟩)),az.is (.int .i64 ((o.np:Int))),az.is (.pointer (some ⟨n,1,none⟩)),az.is (.int .i64 ((o.nd:Int))),az.is (.tuple #[.int .i64 B,.int .i64 0]),az.is (.tuple #[.int .i64 B,.int .i64 0]),az.is (.int .i64 B),az.is (.int .i64 0),az.is (.int .i64 B),az.is (.int .i64 0)] (by kernel_rfl) (by kernel_rfl) rfl (by kernel_rfl) (fun ops K2 hops hK=> ?_)
 refine aj (au rfl) (fun w' hC hd=>bJ _ (.inl rfl) rfl) (by go_frame;rfl) (by simp only[List.nil_append,List.cons_append];rfl) ?_
 refine aj (au rfl) (fun w' hC hd=>aP 20 (.pointer (some ⟨p.a,0,none⟩)) rfl (fun ρ hρ hf e0=>iG (f:=25) (by go_simp) (fT p c _ w' (HG2.out.later hC)))) (by go_frame;rfl) (by simp only[List.nil_append,List.cons_append];rfl) ?_
 refine aj (au rfl) (fun w' hC hd=>aP 21 (.agg #[.int .i64 (c.N:Int),.int .i64 (c.W:Int),.int .i64 (c.R:Int),.int .i64 (c.K:Int)]) rfl (fun ρ hρ hf e0=>bD (by have hb0:=hfd;go_simp))) (by go_frame;rfl) (by simp only[List.nil_append,List.cons_append];rfl) ?_
 refine aj (au rfl) (fun w' hC hd=>aP 5 (.pointer (some ⟨n,0,none⟩)) rfl (fun ρ hρ hf e0=>bD (by go_simp))) (by go_frame;rfl) (by simp only[List.nil_append,List.cons_append];rfl) ?_
 refine aj (au rfl) (fun w' hC hd=>aP 23 (.pointer (some ⟨n,0,none⟩)) rfl (fun ρ hρ hf e0=>bD (by have hc0:=cc0 w' hC;go_simp))) (by go_frame;rfl) (by simp only[List.nil_append,List.cons_append];rfl) ?_
 refine aj (au rfl) (fun w' hC hd=>aP 5 (.pointer (some ⟨n,0,none⟩)) rfl (fun ρ hρ hf e0=>bD (by go_simp))) (by go_frame;rfl) (by simp only[List.nil_append,List.cons_append];rfl) ?_
 refine aj (au rfl) (fun w' hC hd=>aP 25 (.pointer (some ⟨n,1,none⟩)) rfl (fun ρ hρ hf e0=>bD (by have hc0:=cc1 w' hC;go_simp))) (by go_frame;rfl) (by simp only[List.nil_append,List.cons_append];rfl) ?_
 refine aj (au rfl) (fun w' hC hd=>Lm 22 (.int .i64 ((c.W:Int))) 24 (.int .i64 ((o.np:Int))) 26 (.int .i64 ((o.nd:Int))) rfl rfl rfl (fun ρ hρ hf e0 e1 e2=>iG (f:=125) (by go_simp) (HBk.out w'))) (by go_frame;rfl) (by simp only[List.nil_append,List.cons_append];rfl) ?_
 refine aj (au rfl) (fun w' hC hd=>bJ _ (.inl rfl) rfl) (by go_frame;rfl) (by simp only[List.nil_append,List.cons_append];rfl) ?_
 refine aj (au rfl) (fun w' hC hd=>aP 19 (.tuple #[.int .i64 B,.int .i64 0]) rfl (fun ρ hρ hf e0=>bD (by go_simp))) (by go_frame;rfl) (by simp only[List.nil_append,List.cons_append];rfl) ?_
 refine aj (au rfl) (fun w' hC hd=>aP 19 (.tuple #[.int .i64 B,.int .i64 0]) rfl (fun ρ hρ hf e0=>bD (by go_simp))) (by go_frame;rfl) (by simp only[List.nil_append,List.cons_append];rfl) ?_
 refine aj (au rfl) (fun w' hC hd=>bJ _ (.inr rfl) rfl) (by go_frame;rfl) (by simp only[List.nil_append,List.cons_append];rfl) ?_
 refine aj (au rfl) (fun w' hC hd=>bJ _ (.inr rfl) rfl) (by go_frame;rfl) (by simp only[List.nil_append,List.cons_append];rfl) ?_
 refine mJ fun w3 hC3 _=>hK _ _ ?_
 have HG3:=hid (HG2.out.later hC3)
 have HT3:=hid (HT2.out.trans (Touch.of_below (X:=inG p) hC3))
 clear cc0 cc1 hC3 HG2 HT2 BN2 hK
 go_wp2_with fail
 go_ret
 exact⟨rfl,HG3.out,HT3.out⟩
theorem KD(hA:jo c s.zs o)(hm:c.May):o.lv.length≤256:=by have:=hA.Im hm;have:=hm.w;omega
set_option maxHeartbeats 1000000 in
theorem Cr(j b:Nat)(hG:G w p c s)(H:ah c s.zs pool os)(ho:o∈os)(hj:o.lv[j]? =some (b+1)):
  Calls Tryz.prog 170 #[.pointer (some ⟨p.a,0,none⟩),.int .i64 ((o.h:Int)+1),.int .i64 (j:Int)] w (GP w p c ⟨(bf c b s.zs).set (adr c o.h (8+j)) 0,s.m+(7+kU pool)⟩ (.bool true)):=by
 have hmf:∀(fn:Fn) (first cap:Array Value) (w:World),(Instr.makeFunc fn first cap).run Tryz.prog w=.ok (.func fn first cap) w:=fun _ _ _ _=>rfl
 have hA:=H.bU o ho
 have hm:=hG.may
 have HF:=hid (qp hG H ho)
 have hjl:j<o.lv.length:=(List.getElem?_eq_some_iff.1 hj).1
 have hlW:=hA.Im hm
 have hW:=hm.w
 have hsm:=KD hA hm
 have hge:¬(j:Int)≥(o.lv.length:Int):=by omega
 have hwr:IntKind.i64.wrap (1+(o.lv.length:Int)-1)=(o.lv.length:Int):=by rw[IntWalk.i64_in _ (by omega)];omega
 have hown:=hA.own j hjl
 have hz:o.lv[j]=b+1:=by have:=List.getElem?_eq_getElem hjl;rw[this] at hj;simpa using hj
 rw[hz] at hown
 have e1:=dG hm hA.hlt
 have hbl:b∈o.blocks:=by unfold Ob.blocks;exact List.mem_cons_of_mem _ (Ob.bB.2 (List.mem_of_getElem? hj))
 have hbN:=H.lt ho hbl
 have hbp:=H.jG ho hbl
 have HL:=hid (fun w' hG'=>zi (wX p c) ⟨s.zs,s.m+3⟩ o.h j (b+1) (o.h:Int) (j:Int) w' hG' rfl rfl hA.hlt (by omega) hown)
 simp only[Nat.add_eq_zero_iff,Nat.one_ne_zero,and_false,if_false] at HL
 rw[show(((b+1:Nat):Int)-1)=(b:Int) by omega] at HL
 have hk:uK (nth s.zs (adr c b 0))≠0:=by
  rw[hA.leaf b (List.mem_of_getElem? hj)]
  unfold uK;omega
 have HP:=hid (fun w' hG'=>uQ p c ⟨s.zs,s.m+3+1⟩ b pool w' hG' H.pl.ch hbN hbp hk)
 have W8:Hid (8+j<c.W):=hid (by omega)
 have HH:=hid hA.hlt
 clear hz hjl
 generalize o.lv.length=B at*
 clear hG H ho hj hA hlW hW hown hm hbl hbN hbp hk
 go_enter Tryz.func170,Tryz.ntmps170
 go_wp2_with fail
 refine HF.out.mono ?_
 rintro e w1 ⟨rfl,hG,hT⟩
 have HG1:=hid hG
 have HT1:=hid hT
 clear hG hT
 go_wp2_with fail
 refine(HL.out _ HG1.out).mono ?_
 rintro e w2 ⟨rfl,hG,hT⟩
 have HG2:=hid hG
 have HT2:=hid (HT1.out.trans hT)
 clear hG hT
 go_wp2_with fail
 refine(HP.out _ (HG2.out.to rfl (by show s.m+3+1*1=s.m+3+1;omega))).mono ?_
 rintro e w3 ⟨rfl,hG,hT⟩
 have HG3:=hid hG
 have HT3:=hid (HT2.out.trans hT)
 clear hG hT
 go_wp2_with fail
 refine(aJ p c _ o.h (8+j) _ _ 0 _ HG3.out HH.out W8.out rfl (by omega) (by omega) (by omega)).mono ?_
 rintro e w4 ⟨rfl,hG,hT⟩
 have HG4:=hid hG
 have HT4:=hid (HT3.out.trans hT)
 clear hG hT
 go_wp2_with fail
 go_ret
 exact⟨rfl,HG4.out.to rfl (by show s.m+3+1+(2+kU pool)+1=s.m+(7+kU pool);omega),HT4.out⟩
theorem EC(hG:G w p c s)(H:ah c s.zs pool os)(ho:o∈os):Calls Tryz.prog 172 #[.pointer (some ⟨p.a,0,none⟩),.int .i64 ((o.h:Int)+1)] w (GP w p c ⟨bf c o.h s.zs,s.m+(3+kU pool)⟩ (.bool true)):=by
 have hA:=H.bU o ho
 have hm:=hG.may
 have hW:=hm.w
 have h:=zg hG ((o.h:Int)+1)
 rw[PT H hm (H.vw hm ho),H.fC ho,vK hm hA.hlt,show aF c (o.h:Int) 0=some (adr c o.h 0) from iq hA.hlt (v:=0) (by omega)] at h
 have HI:Hid (Calls Tryz.prog 31 #[.pointer (some ⟨p.a,0,none⟩),.int .i64 ((o.h:Int)+1)] w (GP w p c ⟨s.zs,s.m+1⟩ (.bool true))):=hid h
 have e1:=dG hm hA.hlt
 have hhb:o.h∈o.blocks:=by unfold Ob.blocks;simp
 have hk:uK (nth s.zs (adr c o.h 0))≠0:=by have:=hA.head;unfold bF at this;omega
 have HP:=hid (fun w' hG'=>uQ p c ⟨s.zs,s.m+1⟩ o.h pool w' hG' H.pl.ch hA.hlt (H.jG ho hhb) hk)
 clear hG H ho h hA hm hW hhb hk
 go_enter Tryz.func172,Tryz.ntmps172
 go_wp2_with fail
 refine HI.out.mono ?_
 rintro e w1 ⟨rfl,hG,hT⟩
 have HG1:=hid hG
 have HT1:=hid hT
 clear hG hT
 go_wp2_with fail
 refine(HP.out _ HG1.out).mono ?_
 rintro e w2 ⟨rfl,hG,hT⟩
 have HG2:=hid hG
 have HT2:=hid (HT1.out.trans hT)
 clear hG hT
 go_wp2_with fail
 go_ret
 exact⟨rfl,HG2.out.to rfl (by show s.m+1+(2+kU pool)=_;omega),HT2.out⟩
end
section
variable {p:Pl} {c:Cf} {s:St} {w:World}
theorem zk(b:Nat)(k o x:Int)(hG:G w p c s)(hb:b<c.N)(hr:dP k 0 0 0 0 0 o=true)(hx:packI k 0 0 0 0 0 o=x)(h0:0≤x)(h1:x≤4294967295):
  Calls Tryz.prog 132 #[.pointer (some ⟨p.a,0,none⟩),.int .i64 (b:Int),.agg #[.int .i64 k,.int .i64 0,.int .i64 0,.int .i64 0,.int .i64 0,.int .i64 0,.int .i64 o]] w (GP w p c ⟨s.zs.set (adr c b 0) x,s.m+1⟩ (.tuple #[])):=by
 have hW:=hG.may.w
 have W0:Hid (0<c.W):=hid (by omega)
 have HP:Hid (∀w',Calls Tryz.prog 159 #[.agg #[.int .i64 k,.int .i64 0,.int .i64 0,.int .i64 0,.int .i64 0,.int .i64 0,.int .i64 o]] w' fun e w''=>e=.returned (.tuple #[.int .u32 x,.int .i64 0])∧Below w'.heap.size w' w''):=hid (fun w'=>by
  have h:=tpack_yes k 0 0 0 0 0 o w' hr
  rw[hx] at h
  exact h)
 have HG0:=hid (hG.alloc (.cells #[.int .i64 k,.int .i64 0,.int .i64 0,.int .i64 0,.int .i64 0,.int .i64 0,.int .i64 o] 111))
 have HT0:Hid (Touch (inG p) w (w.alloc (.cells #[.int .i64 k,.int .i64 0,.int .i64 0,.int .i64 0,.int .i64 0,.int .i64 0,.int .i64 o] 111))):=hid ((Touch.refl _ _).alloc _)
 have HB:=hid hb
 clear hG hr hx hb hW
 go_enter Tryz.func132,Tryz.ntmps132
 go_wp2_with fail
 refine(HP.out _).mono ?_
 rintro e w1 ⟨rfl,hb⟩
 have HG1:=hid (HG0.out.later hb)
 have HT1:=hid (HT0.out.trans (Touch.of_below (X:=inG p) hb))
 clear hb
 go_wp2_with fail
 refine(aJ p c _ b 0 _ _ x _ HG1.out HB.out W0.out rfl rfl h0 h1).mono ?_
 rintro e w2 ⟨rfl,hG,hT⟩
 have HG2:=hid hG
 have HT2:=hid (HT1.out.trans hT)
 clear hG hT
 go_wp2_with fail
 go_end0
 exact⟨rfl,HG2.out,HT2.out⟩
def lU(c:Cf)(l pool:List Nat):Nat→Nat
 |0=>0
 |k+1=>lU c l pool k+(takeD (l.drop (k+1)++pool)+c.W)
theorem EH{w w':World}{base:Nat}{e:TypeId}{size:Nat}{v:Value}{n:Nat}{xs:List Value}{X:Nat→Prop}(h:w.ownsRow base e size v n xs)(t:Touch X w w')(hX:∀k,X k→k<base):w'.ownsRow base e size v n xs:=by
 refine⟨h.1,?_⟩
 rcases h.2 with hn|⟨g,cap,cur,rfl,hbg,hgg,rest⟩
 ·exact .inl hn
 ·exact .inr ⟨g,cap,cur,rfl,hbg,(t.block g (lt_of_block hgg) (fun hx=>by have:=hX g hx;omega)).trans hgg,rest⟩
theorem uB{w w':World}{base:Nat}{row:Option Nat}{o:Obj}(h:(w.alloc o).grownBy w' row)(hr:∀k,row=some k→base≤k)(hb:base≤w.heap.size):Touch (fun i=>base≤i) w w':=
 ⟨h.os,h.tape,h.output,by have:=h.size;simp at this;omega,fun k hk hx=>(h.block k (by simp;omega) (fun e=>hx (hr k e.symm))).trans (Below.heap_alloc _ _ _ hk)⟩
theorem Touch.PH{X:Nat→Prop}{a b c:World}(h:Touch X a b)(k:Touch (fun i=>a.heap.size≤i) b c):Touch X a c:=
 ⟨k.os.trans h.os,k.tape.trans h.tape,k.output.trans h.output,Nat.le_trans h.size k.size,fun i hi hx=>(k.block i (Nat.lt_of_lt_of_le hi h.size) (fun e=>by have e2:a.heap.size≤i:=e;omega)).trans (h.block i hi hx)⟩
theorem IA{w:World}{base:Nat}{e:TypeId}{size:Nat}{v:Value}{n:Nat}{xs:List Value}(h:w.ownsRow base e size v n xs):∃a cap,v=.slice a n cap:=by
 rcases h.2 with⟨rfl,rfl⟩|⟨g,cap,cur,rfl,_⟩
 ·exact⟨none,0,rfl⟩
 ·exact⟨_,cap,rfl⟩
theorem KR{w:World}{base:Nat}{e:TypeId}{v:Value}{zs:List Int}(h:w.ownsRow base e 1 v zs.length (zs.map (Value.int .i64)))(hl:0<zs.length):
  ∃g cap,v=.slice (some ⟨g,0,none⟩) zs.length cap∧zs.length≤cap∧cap≤maxLen∧base≤g∧Row w .i64 (some ⟨g,0,none⟩) zs:=by
 obtain⟨a,cap,hv,hr⟩:=Row.pQ h
 rcases h.2 with⟨h1,h2⟩|⟨g,cap',cur,h1,hb,hg,h3,h4,_⟩
 ·omega
 ·subst h1
  cases hv
  exact⟨g,_,rfl,h3,h4,hb,hr⟩
theorem Ig{l:List Nat}{k:Nat}(hk:k<l.length):(ints l).take (k+1)=(ints l).take k++[(l[k]:Int)]:=by
 unfold ints
 rw[List.take_succ_eq_append_getElem (by simpa using hk),List.getElem_map]
def Taken(w:World)(p:Pl)(c:Cf)(s:St)(l:List Nat)(D:Nat)(e:Ending)(w':World):Prop:=
 ∃g cap,e=.returned (.tuple #[.slice (some ⟨g,0,none⟩) l.length cap,.bool true])∧l.length≤cap∧cap≤maxLen∧w.heap.size≤g∧Row w' .i64 (some ⟨g,0,none⟩) (ints l)∧G w' p c ⟨dX c l s.zs,s.m+D⟩∧Touch (inG p) w w'
theorem Lj{c:Cf}{zs:List Int}{l pool:List Nat}(hP:cz c zs (l++pool))(hm:c.May)(hz:zs.length=c.size)(hn:l.Nodup)(k:Nat):cz c (dX c (l.take k) zs) (l.drop k++pool):=by
 have e:l++pool=l.take k++(l.drop k++pool):=by rw[←List.append_assoc,List.take_append_drop]
 rw[e] at hP
 exact(cz.taken (l.take k) hP hm hz (List.Sublist.nodup (List.take_sublist k l) hn)).1
set_option maxHeartbeats 4000000 in
theorem MW(l pool:List Nat)(n:Int)(hn:n=(l.length:Int))(hG:G w p c s)(hP:cz c s.zs (l++pool))(hnd:l.Nodup)(h0:0<l.length):
  Calls Tryz.prog 130 #[.pointer (some ⟨p.a,0,none⟩),.int .i64 n] w (Taken w p c s l (lU c l pool l.length)):=by
 subst hn
 obtain⟨i0,hi,hz0,hz1,hz2⟩:=info_parts (show(Tryz.prog.info? 3).map (fun i=>(i.zero,i.size,i.bytes))=some (some (.int .i64 0),1,8) by kernel_rfl)
 have hm:=hG.may
 have hN:=hm.n
 have hlk:l.length≤c.N:=dD hnd (fun b hb=>hP.ch.lt b (List.mem_append_left _ hb))
 have HP:=hid (Lj hP hm hG.len hnd)
 have HG:=hid hG
 have HIN:Hid (∀k,lV p k→k<w.heap.size):=hid (fun k hk=>hG.eG hk)
 clear hP hnd hm
 go_enter Tryz.func130,Tryz.ntmps130
 go_wp2_with fail
 go_loopw [6,10] (fun v i wr=>∃k:Nat,k≤l.length∧i=.int .i64 (k:Int)∧G wr p c ⟨dX c (l.take k) s.zs,s.m+lU c l pool k⟩∧wr.ownsRow w.heap.size 3 1 v k (((ints l).take k).map (Value.int .i64))∧Touch (inG p) w wr) (fun _ i _=>l.length-(intOf i).toNat)
 case atStart=>
  refine⟨0,Nat.zero_le _,rfl,HG.out,?_,Touch.refl _ _⟩
  exact World.ownsRow_nil _ _ _ _
 case round=>
  obtain⟨k,hk,rfl,hG,hown,hT⟩:=hrel
  obtain⟨a,cap,rfl⟩:=IA hown
  have HG1:=hid hG
  have HO1:=hid hown
  have HT1:=hid hT
  clear hG hown hT HG
  by_cases hlt:k<l.length
  ·have hC:aM c (dX c (l.take k) s.zs) 0 (l[k]::(l.drop (k+1)++pool)):=by
    have:=(HP.out k).ch
    rw[List.drop_eq_getElem_cons hlt] at this
    exact this
   have HTk:=hid (Ig hlt)
   have HTz:Hid (dX c (l.take (k+1)) s.zs=di c l[k] (dX c (l.take k) s.zs)):=hid (by
    rw[List.take_succ_eq_append_getElem hlt,De])
   have HC:=hid hC
   clear hC
   generalize l[k]=b at*
   go_wp2_with fail
   refine(Cw p c _ b _ _ HG1.out HC.out).mono ?_
   rintro e w2 ⟨rfl,hG,hT⟩
   have hown:=EH HO1.out hT (fun k hk=>HIN.out k (Or.inr hk))
   have hsz:w.heap.size≤w2.heap.size:=Nat.le_trans HT1.out.size hT.size
   have HT2:=hid (HT1.out.trans hT)
   have HG2:Hid (G w2 p c ⟨dX c (l.take (k+1)) s.zs,s.m+lU c l pool (k+1)⟩):=hid (hG.to HTz.out.symm (by show s.m+lU c l pool k+(takeD (l.drop (k+1)++pool)+c.W)=s.m+(lU c l pool k+(takeD (l.drop (k+1)++pool)+c.W));omega))
   clear hG hT HG1
   go_wp2_with (at_builtin;refine wpList_append_own _ rfl _ _ 42 rfl w.heap.size 3 i0 (.int .i64 0) 1 8 Tryz.underlying42 hi hz0 hz1 hz2 rfl (by decide) _ _ _ rfl (hown.alloc _) ⟨w2.heap.size,0,none⟩ 1 1 [.int .i64 (b:Int)] rfl rfl ?c1 ?c2 ?c3 ?c4 ?c5 ?c6)
   case c1=>exact cell_one_new w2 _ _
   case c2=>intro u hu;simp at hu;subst hu;rfl
   case c3=>unfold maxLen;omega
   case c4=>omega
   case c5=>simp;omega
   case c6=>
    intro v' w4 hown' hgrow _
    have HX:Hid (Touch (fun i=>w.heap.size≤i) w2 w4):=hid (uB hgrow (bi hown) hsz)
    have HO4:Hid (w4.ownsRow w.heap.size 3 1 v' (k+1) (((ints l).take (k+1)).map (Value.int .i64))):=hid (by
     rw[HTk.out]
     simpa using hown')
    have HG4:Hid (G w4 p c ⟨dX c (l.take (k+1)) s.zs,s.m+lU c l pool (k+1)⟩):=hid (HG2.out.touch HX.out (fun i hi hx=>by have h1:w.heap.size≤i:=hx;have:=HIN.out i hi;omega))
    have HT4:Hid (Touch (inG p) w w4):=hid (HT2.out.PH HX.out)
    clear hown' hgrow hown hsz
    go_wp2_with fail
    go_roundw
    case rel=>exact⟨k+1,by omega,rfl,HG4.out,HO4.out,HT4.out⟩
    case measure=>simp[intOf];omega
  ·have he:k=l.length:=by omega
   subst he
   have h1:=HO1.out
   rw[←aV l,List.take_length] at h1
   obtain⟨g,cap',hv,q1,q2,q3,q4⟩:=KR h1 (by rw[aV];exact h0)
   rw[aV] at hv q1 h1
   cases hv
   have HG2:Hid (G wr p c ⟨dX c l s.zs,s.m+lU c l pool l.length⟩):=hid (by have:=HG1.out;rw[List.take_length] at this;exact this)
   have Q4:=hid q4
   clear h1 q4 HG1 HO1
   go_wp2_with fail
   go_ret2
   exact⟨g,_,rfl,q1,q2,q3,Q4.out,HG2.out,HT1.out⟩
theorem Kz(a b:Value)(w:World):(Instr.index 149 (.agg #[a,b]) (.int .i64 0)).run Tryz.prog w=.ok a w:=by kernel_rfl
theorem KA(a b:Value)(w:World):(Instr.index 149 (.agg #[a,b]) (.int .i64 1)).run Tryz.prog w=.ok b w:=by kernel_rfl
def wK(ls:List Nat):Int:=if ls.length=0 then 1 else 2
theorem BZ(ls:List Nat):dP (wK ls) 0 0 0 0 0 0=true∧packI (wK ls) 0 0 0 0 0 0=kindOf ls∧0≤kindOf ls∧kindOf ls≤4294967295:=by
 unfold wK kindOf
 by_cases h:ls.length=0
 ·simp only[if_pos h];decide
 ·simp only[if_neg h];decide
set_option maxHeartbeats 4000000 in
theorem EE(h:Nat)(np nd:Nat)(ls:List Nat)(g off cap:Nat)(hG:G w p c s)(hh:h<c.N)(h1:np≤1000000)(h2:nd≤1000000)(hr:Row w .i64 (some ⟨g,off,none⟩) (ints ls))(hg:¬inG p g)(hl:8+ls.length≤c.W)(hb:∀b,b∈ls→b<c.N):
  Calls Tryz.prog 131 #[.pointer (some ⟨p.a,0,none⟩),.int .i64 (h:Int),.agg #[.int .i64 (np:Int),.int .i64 (nd:Int)],.slice (some ⟨g,off,none⟩) ls.length cap] w
   (GP w p c ⟨ig c h ls ls.length (ic c h (kindOf ls) np nd s.zs),s.m+(3+ls.length)⟩ (.tuple #[])):=by
 have hW:=hG.may.w
 have hN:=hG.may.n
 obtain⟨k1,k2,k3,k4⟩:=BZ ls
 have W1:Hid (1<c.W):=hid (by omega)
 have W2:Hid (2<c.W):=hid (by omega)
 have HTg:Hid (∀w' s',G w' p c s'→Calls Tryz.prog 132 #[.pointer (some ⟨p.a,0,none⟩),.int .i64 (h:Int),.agg #[.int .i64 (wK ls),.int .i64 0,.int .i64 0,.int .i64 0,.int .i64 0,.int .i64 0,.int .i64 0]] w' (GP w' p c ⟨s'.zs.set (adr c h 0) (kindOf ls),s'.m+1⟩ (.tuple #[]))):=hid (fun w' s' hG'=>zk h _ _ _ hG' hh k1 k2 k3 k4)
 have u1:IntKind.u32.wrap (np:Int)=(np:Int):=IntWalk.u32_in _ (by omega)
 have u2:IntKind.u32.wrap (nd:Int)=(nd:Int):=IntWalk.u32_in _ (by omega)
 have HG0:=hid (hG.alloc (.cells #[.int .i64 (np:Int),.int .i64 (nd:Int)] 149))
 have BB0:=hid (aT.new w #[.int .i64 (np:Int),.int .i64 (nd:Int)] 149)
 have HT0:Hid (Touch (inG p) w (w.alloc (.cells #[.int .i64 (np:Int),.int .i64 (nd:Int)] 149))):=hid ((Touch.refl _ _).alloc _)
 have NB:Hid (¬inG p w.heap.size):=hid (vJ hG)
 have HR0:=hid (hr.alloc (.cells #[.int .i64 (np:Int),.int .i64 (nd:Int)] 149))
 have HO:Hid (kF (inG p) (some ⟨g,off,none⟩) (ints ls)):=hid (fun _ b off' e hx=>by cases e;exact hg hx)
 have HH:=hid hh
 have HBd:=hid hb
 have HL8:=hid hl
 have hkd:ls.length=0∧wK ls=1∨0<ls.length∧wK ls=2:=by unfold wK;by_cases e:ls.length=0<;>simp[e];omega
 have HKd:=hid hkd
 have hlb:ls.length≤256:=by omega
 have hgl:Hid (0<ls.length→g<w.heap.size):=hid (fun h0=>by obtain⟨b,o,e,hlt,_⟩:=hr 0 (by rw[aV];exact h0);cases e;exact hlt)
 have hx0:=fun w':World=>Kz (.int .i64 (np:Int)) (.int .i64 (nd:Int)) w'
 have hx1:=fun w':World=>KA (.int .i64 (np:Int)) (.int .i64 (nd:Int)) w'
 clear hG hr k1 k2 k3 k4 hh hb hl hkd hg
 go_enter Tryz.func131,Tryz.ntmps131
 rcases HKd.out with⟨hl0,hkv⟩|⟨hl0,hkv⟩
 all_goals
  rw[hkv] at HTg
  clear hkv HKd
  generalize hls:kindOf ls=kd at*
  go_wp2_with fail
  refine(HTg.out _ _ HG0.out).mono ?_
  rintro e w1 ⟨rfl,hG,hT⟩
  have HG1:=hid hG
  have HT1:=hid (HT0.out.trans hT)
  have BB1:=hid (BB0.out.touch hT NB.out)
  have HR1:=hid (HR0.out.touch hT HO.out)
  clear hG hT HG0 HT0 BB0 HR0
  have c0:=BB1.out.cell 0 rfl
  have c1:=BB1.out.cell 1 rfl
  go_wp2_with fail
  refine wp_loop_rounds 3 ?_
  rw[rounds_succ]
  go_wp2_with fail
  refine(aJ p c _ h 1 _ _ (np:Int) _ HG1.out HH.out W1.out rfl rfl (by omega) (by omega)).mono ?_
  rintro e w2 ⟨rfl,hG,hT⟩
  have HG2:=hid hG
  have HT2:=hid (HT1.out.trans hT)
  have HR2:=hid (HR1.out.touch hT HO.out)
  clear hG hT HG1 HT1 BB1 HR1 c0 c1
  go_wp2_with fail
  rw[rounds_succ]
  go_wp2_with fail
  refine(aJ p c _ h 2 _ _ (nd:Int) _ HG2.out HH.out W2.out rfl rfl (by omega) (by omega)).mono ?_
  rintro e w3 ⟨rfl,hG,hT⟩
  have HG3:Hid (G w3 p c ⟨ig c h ls 0 (ic c h kd np nd s.zs),s.m+(3+0)⟩):=hid (hG.to rfl rfl)
  have HT3:=hid (HT2.out.trans hT)
  have HR3:=hid (HR2.out.touch hT HO.out)
  clear hG hT HG2 HT2 HR2
  go_wp2_with fail
  rw[rounds_succ]
  go_wp2_with fail
 ·have HE:Hid (G w3 p c ⟨ig c h ls ls.length (ic c h kd np nd s.zs),s.m+(3+ls.length)⟩):=hid (by rw[hl0];exact HG3.out)
  refine wp_loop_rounds 1 ?_
  rw[rounds_succ]
  go_wp2_with fail
  go_end0
  exact⟨rfl,HE.out,HT3.out⟩
 ·go_loopw [36] (fun i wr=>∃k:Nat,k≤ls.length∧i=.int .i64 (k:Int)∧G wr p c ⟨ig c h ls k (ic c h kd np nd s.zs),s.m+(3+k)⟩∧Row wr .i64 (some ⟨g,off,none⟩) (ints ls)∧Touch (inG p) w wr) (fun i _=>ls.length-(intOf i).toNat)
  case atStart=>exact⟨0,Nat.zero_le _,rfl,HG3.out,HR3.out,HT3.out⟩
  case round=>
   obtain⟨k,hk,rfl,hG,hR,hT⟩:=hrel
   have HG4:=hid hG
   have HR4:=hid hR
   have HT4:=hid hT
   clear hG hR hT HG3 HR3 HT3
   by_cases hlt:k<ls.length
   ·obtain⟨b0,o0,e0,hlt0,hc0⟩:=HR4.out k (by rw[aV];exact hlt)
    cases e0
    rw[oG hlt] at hc0
    have HLb:Hid (ls[k]<c.N):=hid (HBd.out _ (List.getElem_mem hlt))
    have HNx:Hid (ig c h ls (k+1) (ic c h kd np nd s.zs)=(ig c h ls k (ic c h kd np nd s.zs)).set (adr c h (8+k)) ((ls[k]:Int)+1)):=hid (by
     show(ig c h ls k (ic c h kd np nd s.zs)).set (adr c h (8+k)) (((ls.getD k 0:Nat):Int)+1)=_
     simp[List.getD,hlt])
    generalize ls[k]=b at*
    have hbN:=HLb.out
    have hkW:Hid (8+k<c.W):=hid (by have:=HL8.out;omega)
    have v1:IntKind.i64.wrap ((b:Int)+1)=(b:Int)+1:=IntWalk.i64_in _ (by omega)
    have v2:IntKind.u32.wrap ((b:Int)+1)=(b:Int)+1:=IntWalk.u32_in _ (by omega)
    have v3:IntKind.i64.wrap (8+(k:Int))=8+(k:Int):=IntWalk.i64_in _ (by omega)
    go_wp2_with fail
    refine(aJ p c _ h (8+k) _ (8+(k:Int)) ((b:Int)+1) _ HG4.out HH.out hkW.out rfl (by omega) (by omega) (by omega)).mono ?_
    rintro e w5 ⟨rfl,hG,hT⟩
    have HG5:Hid (G w5 p c ⟨ig c h ls (k+1) (ic c h kd np nd s.zs),s.m+(3+(k+1))⟩):=hid (by
     rw[HNx.out];exact hG.to rfl rfl)
    have HT5:=hid (HT4.out.trans hT)
    have HR5:=hid (HR4.out.touch hT HO.out)
    clear hG hT
    go_wp2_with fail
    go_roundw
    case rel=>exact⟨k+1,by omega,rfl,HG5.out,HR5.out,HT5.out⟩
    case measure=>simp[intOf];omega
   ·have he:k=ls.length:=by omega
    subst he
    go_wp2_with fail
    go_end0
    exact⟨rfl,HG4.out,HT4.out⟩
def Ch(c:Cf)(ls pool:List Nat)(h:Nat):Nat:=1+lU c (h::ls) pool (h::ls).length+(3+ls.length)+ls.length
theorem Es{c:Cf}(hm:c.May){h:Nat}(hh:h<c.N):dP 3 0 0 0 0 0 (h:Int)=true∧packI 3 0 0 0 0 0 (h:Int)=3+256*(h:Int)∧0≤3+256*(h:Int)∧3+256*(h:Int)≤4294967295:=by
 have:=hm.n
 refine⟨?_,?_,by omega,by omega⟩
 ·rw[jC];unfold bN;omega
 ·unfold packI;omega
set_option maxHeartbeats 1500000 in
theorem Cq(u:Nat)(np nd:Nat)(ls pool:List Nat)(os:List Ob)(hG:G w p c s)(H:ah c s.zs (u::ls++pool) os)(he:dR c.W np nd=0)(hbl:(1+ls.length:Int)=bX c.W np nd):
  Calls Tryz.prog 74 #[.pointer (some ⟨p.a,0,none⟩),.int .i64 (np:Int),.int .i64 (nd:Int)] w (GP w p c ⟨wP c u ls np nd s.zs,s.m+Ch c ls pool u⟩ (.tuple #[.int .i64 ((u:Int)+1),.int .i64 0])):=by
 have hm:=hG.may
 have hN:=hm.n
 have hW:=hm.w
 obtain⟨q0,q1,q2,q3,q4⟩:=sj he
 have hlv:(ls.length:Int)=dJ c.W (np+nd):=by unfold bX at hbl;rw[if_pos he] at hbl;omega
 have hL:=mg q0 q1 q4
 have hfi:aZ c.W≤63240:=by
  unfold aZ
  have a1:(0:Int)≤(c.W:Int)-8:=by omega
  have a2:(c.W:Int)-8≤248:=by omega
  have a3:(c.W:Int)-1≤255:=by omega
  have a4:(0:Int)≤(c.W:Int)-1:=by omega
  have:=Int.mul_le_mul a2 a3 a4 (by omega:(0:Int)≤248)
  omega
 have hnd:(u::ls).Nodup:=by
  have:=H.nodup
  rw[List.nodup_append] at this
  exact(List.nodup_append.1 this.1).1
 have hlt:∀b,b∈u::ls→b<c.N:=fun b hb=>H.pl.ch.lt b (List.mem_append_left _ hb)
 have hhN:=hlt u (by simp)
 have hbN:∀b,b∈ls→b<c.N:=fun b hb=>hlt b (by simp[hb])
 obtain⟨B,hB⟩:∃B:Int,B=1+(ls.length:Int):=⟨_,rfl⟩
 obtain⟨T,hT⟩:∃T:Int,T=((u::ls++pool).length:Int):=⟨_,rfl⟩
 have hSB:=ko c.W np nd
 rw[←hbl,he,←hB] at hSB
 have HSB:=hid hSB
 have HLen:=hid (fun w' (hG':G w' p c s)=>KT p c s _ w' hG' H.pl.ch)
 rw[←hT] at HLen
 obtain⟨D,hD⟩:∃D,D=lU c (u::ls) pool (u::ls).length:=⟨_,rfl⟩
 obtain⟨Z,hZ⟩:∃Z,Z=dX c (u::ls) s.zs:=⟨_,rfl⟩
 have hTk:=fun w' (hG':G w' p c ⟨s.zs,s.m+1⟩)=>MW (s:=⟨s.zs,s.m+1⟩) (u::ls) pool B (by rw[hB];simp;omega) hG' H.pl hnd (by simp)
 unfold Taken at hTk
 simp only[←hD,←hZ] at hTk
 have HTk:=hid hTk
 have HE:Hid (kR c u ls ls.length (ig c u ls ls.length (ic c u (kindOf ls) np nd Z))=wP c u ls np nd s.zs):=hid (by rw[hZ];rfl)
 have HM:Hid (1+D+(3+ls.length)+ls.length=Ch c ls pool u):=hid (by rw[hD];rfl)
 clear hTk hD hZ
 obtain⟨r1,r2,r3,r4⟩:=Es hm hhN
 have HHd:Hid (∀(w':World) (s':St) (g off cap n:Nat),n=ls.length→G w' p c s'→Row w' .i64 (some ⟨g,off,none⟩) (ints ls)→¬inG p g→Calls Tryz.prog 131 #[.pointer (some ⟨p.a,0,none⟩),.int .i64 (u:Int),.agg #[.int .i64 (np:Int),.int .i64 (nd:Int)],.slice (some ⟨g,off,none⟩) n cap] w'
   (GP w' p c ⟨ig c u ls ls.length (ic c u (kindOf ls) np nd s'.zs),s'.m+(3+ls.length)⟩ (.tuple #[]))):=hid (fun w' s' g off cap n hn hG' hr hg=>by
  subst hn
  exact EE (s:=s') u np nd ls g off cap hG' hhN (by omega) (by omega) hr hg (by omega) hbN)
 have HTg:=hid (fun w' s' (b:Nat) (hG':G w' p c s') (hb:b<c.N)=>zk (s:=s') b 3 (u:Int) _ hG' hb r1 r2 r3 r4)
 have HG:=hid hG
 have HIN:Hid (∀k,inG p k→k<w.heap.size):=hid (fun k hk=>hG.eG (Or.inr hk))
 have HBN:=hid hbN
 have hlt2:¬T<B:=by rw[hT,hB];simp;omega
 have hfd:=pu (c.N:Int) (c.W:Int) (c.R:Int) (c.K:Int)
 have HL2:Hid (ls.length≤256):=hid (by omega)
 have hw1:IntKind.i64.wrap ((u:Int)+1)=(u:Int)+1:=IntWalk.i64_in _ (by omega)
 clear hG H he hbl hm q0 q1 q2 q3 q4 hlv hL hfi hnd hlt hhN hbN hSB r1 r2 r3 r4 hW hN hB hT
 go_enter Tryz.func74,Tryz.ntmps74
 have HT0:Hid (Touch (inG p) w w):=hid (Touch.refl _ _)
 go_wp2_with fail
 refine(fT p c s _ HG.out).mono ?_
 rintro e wm1 ⟨rfl,hb⟩
 have HG1:=hid (HG.out.later hb)
 have HT1:Hid (Touch (inG p) _ wm1):=hid (HT0.out.trans (Touch.of_below hb))
 clear hb
 go_wp2_with fail
 refine(HSB.out _).mono ?_
 rintro e wm2 ⟨rfl,hb⟩
 have HG2:=hid (HG1.out.later hb)
 have HT2:Hid (Touch (inG p) _ wm2):=hid (HT1.out.trans (Touch.of_below hb))
 clear hb
 go_wp2_with fail
 refine(HLen.out _ HG2.out).mono ?_
 rintro e wm3 ⟨rfl,hG,hT⟩
 have HG3:=hid hG
 have HT3:Hid (Touch (inG p) _ wm3):=hid (HT2.out.trans hT)
 clear hG hT
 clear hfd
 go_wp2_with fail
 refine(HTk.out _ HG3.out).mono ?_
 rintro e w4 ⟨g,cap,rfl,q1,q2,q3,q4,hG,hT⟩
 have HG4:=hid hG
 have HT4:=hid (HT3.out.trans hT)
 have hgG:¬inG p g:=fun hx=>by have h1:=HIN.out g hx;have h2:=HT3.out.size;omega
 have HR4:Hid (Row w4 .i64 (some ⟨g,1,none⟩) (ints ls)):=hid (fun i hi=>by
  rw[aV] at hi
  obtain⟨b,off,e,hlt,hc⟩:=q4 (i+1) (by rw[aV];simp;omega)
  cases e
  refine⟨g,1,rfl,hlt,?_⟩
  rw[show 0+(i+1)=1+i by omega] at hc
  rw[hc,oG (by simp;omega),oG hi]
  simp)
 have hc0:w4.cell? ⟨g,0,none⟩=some (.int .i64 (u:Int)):=by
  obtain⟨b,off,e,hlt,hc⟩:=q4 0 (by rw[aV];simp)
  cases e
  rw[show 0+0=0 from rfl] at hc
  rw[hc,oG (by simp)];rfl
 have HO:Hid (kF (inG p) (some ⟨g,1,none⟩) (ints ls)):=hid (fun _ b off' e hx=>by cases e;exact hgG hx)
 have HgG:=hid hgG
 have q5:ls.length+1≤cap:=by simpa using q1
 rw[show(u::ls).length=ls.length+1 from rfl]
 have HGq:=hid (fun n:Nat=>HG4.out.BB ⟨n,rfl⟩)
 have HRq:=hid (fun n:Nat=>HR4.out.drewN n)
 have HTq:=hid (fun n:Nat=>HT4.out.drewN n)
 clear hG hT q4 hgG q1
 by_cases hcap:cap=1
 ·have hl0:ls.length=0:=by omega
  subst hcap
  have HR0:=hid (fun n:Nat=>(show Row (w4.drewN n) .i64 (some ⟨g,0,none⟩) (ints ls) from fun i hi=>absurd hi (by rw[aV];omega)))
  go_wp2_with fail
  go_quiet (fail)
  go_wp2_with fail
  refine(HHd.out _ _ g 0 _ _ hl0.symm (HGq.out _) (HR0.out _) HgG.out).mono ?_
  rintro e w5 ⟨rfl,hG,hT⟩
  have HG5:Hid (G w5 p c ⟨wP c u ls np nd s.zs,s.m+Ch c ls pool u⟩):=hid (by
   rw[←HE.out,←HM.out]
   rw[hl0] at hG ⊢
   exact hG.to rfl (by show s.m+1+D+(3+0)=_;omega))
  have HT5:=hid ((HTq.out _).trans hT)
  clear hG hT HGq HR0 HTq HG4 HT4 HR4 hc0 hlt2 HLen HTk HSB HHd HE HM
  go_wp2_with fail
  refine wp_loop_rounds 1 ?_
  rw[rounds_succ]
  go_wp2_with fail
  go_ret2
  exact⟨rfl,HG5.out,HT5.out⟩
 have hc1:¬cap-1=0:=by omega
 clear hcap
 go_wp2_with fail
 go_quiet (fail)
 go_wp2_with fail
 refine(HHd.out _ _ g 1 _ _ rfl (HGq.out _) (HRq.out _) HgG.out).mono ?_
 rintro e w5 ⟨rfl,hG,hT⟩
 have HG5:Hid (G w5 p c ⟨kR c u ls 0 (ig c u ls ls.length (ic c u (kindOf ls) np nd Z)),s.m+(1+D+(3+ls.length)+0)⟩):=hid (hG.to rfl (by show s.m+1+D+(3+ls.length)=_;omega))
 have HT5:=hid ((HTq.out _).trans hT)
 have HR5:=hid ((HRq.out _).touch hT HO.out)
 clear hG hT HGq HRq HTq HG4 HT4 HR4 hc0 hlt2 HLen HTk HSB HHd
 generalize ig c u ls ls.length (ic c u (kindOf ls) np nd Z)=Y at*
 go_wp2_with fail
 go_loopw [54] (fun i wr=>∃k:Nat,k≤ls.length∧i=.int .i64 (k:Int)∧G wr p c ⟨kR c u ls k Y,s.m+(1+D+(3+ls.length)+k)⟩∧Row wr .i64 (some ⟨g,1,none⟩) (ints ls)∧Touch (inG p) w wr) (fun i _=>ls.length-(intOf i).toNat)
 case atStart=>exact⟨0,Nat.zero_le _,rfl,HG5.out,HR5.out,HT5.out⟩
 case round=>
  obtain⟨k,hk,rfl,hG,hR,hT⟩:=hrel
  have HG6:=hid hG
  have HR6:=hid hR
  have HT6:=hid hT
  clear hG hR hT HG5 HR5 HT5
  by_cases hlt:k<ls.length
  ·obtain⟨b0,o0,e0,hlt0,hc0⟩:=HR6.out k (by rw[aV];exact hlt)
   cases e0
   rw[oG hlt] at hc0
   have HLb:Hid (ls[k]<c.N):=hid (HBN.out _ (List.getElem_mem hlt))
   have HNx:Hid (kR c u ls (k+1) Y=(kR c u ls k Y).set (adr c ls[k] 0) (3+256*(u:Int))):=hid (by
    show(kR c u ls k Y).set (adr c (ls.getD k 0) 0) (3+256*(u:Int))=_
    simp[List.getD,hlt])
   generalize ls[k]=b at*
   have HWk:Hid (wrap64 ((k:Int)+1)=((k+1:Nat):Int)):=hid (by have:=HL2.out;exact IntWalk.wrap64_in _ (by omega))
   go_wp2_with fail
   refine(HTg.out _ _ b HG6.out HLb.out).mono ?_
   rintro e w7 ⟨rfl,hG,hT⟩
   have HG7:Hid (G w7 p c ⟨kR c u ls (k+1) Y,s.m+(1+D+(3+ls.length)+(k+1))⟩):=hid (by
    rw[HNx.out];exact hG.to rfl rfl)
   have HT7:=hid (HT6.out.trans hT)
   have HR7:=hid (HR6.out.touch hT HO.out)
   clear hG hT
   go_wp2_with fail
   go_roundw
   case rel=>exact⟨k+1,by omega,by rw[HWk.out],HG7.out,HR7.out,HT7.out⟩
   case measure=>rw[HWk.out];simp[intOf];omega
  ·have he:k=ls.length:=by omega
   subst he
   go_wp2_with fail
   go_ret2
   exact⟨rfl,by rw[←HE.out,←HM.out];exact HG6.out,HT6.out⟩
end
section
variable {p:Pl} {c:Cf} {s:St} {w:World}
theorem Ab(np nd:Int)(hG:G w p c s)(he:dR c.W np nd≠0):
  Calls Tryz.prog 74 #[.pointer (some ⟨p.a,0,none⟩),.int .i64 np,.int .i64 nd] w (GP w p c s (.tuple #[.int .i64 0,.int .i64 (dR c.W np nd)])):=by
 have HSB:=hid (ko c.W np nd)
 generalize dR c.W np nd=E at*
 have hne:(E !=0)=true:=by simpa using he
 have HG:=hid hG
 have hfd:=pu (c.N:Int) (c.W:Int) (c.R:Int) (c.K:Int)
 clear hG he
 go_enter Tryz.func74,Tryz.ntmps74
 have HT0:Hid (Touch (inG p) w w):=hid (Touch.refl _ _)
 go_wp2_with fail
 refine(fT p c s _ HG.out).mono ?_
 rintro e wm1 ⟨rfl,hb⟩
 have HG1:=hid (HG.out.later hb)
 have HT1:Hid (Touch (inG p) _ wm1):=hid (HT0.out.trans (Touch.of_below hb))
 clear hb
 go_wp2_with fail
 refine(HSB.out _).mono ?_
 rintro e wm2 ⟨rfl,hb⟩
 have HG2:=hid (HG1.out.later hb)
 have HT2:Hid (Touch (inG p) _ wm2):=hid (HT1.out.trans (Touch.of_below hb))
 clear hb
 go_wp2_with fail
 go_ret2
 exact⟨rfl,HG2.out,HT2.out⟩
theorem Aa(np nd:Int)(pool:List Nat)(hG:G w p c s)(hC:aM c s.zs 0 pool)(he:dR c.W np nd=0)(hl:(pool.length:Int)<bX c.W np nd):
  Calls Tryz.prog 74 #[.pointer (some ⟨p.a,0,none⟩),.int .i64 np,.int .i64 nd] w (GP w p c ⟨s.zs,s.m+1⟩ (.tuple #[.int .i64 0,.int .i64 4])):=by
 have hSB:=ko c.W np nd
 rw[he] at hSB
 have HSB:=hid hSB
 have HLen:=hid (fun w' (hG':G w' p c s)=>KT p c s _ w' hG' hC)
 obtain⟨B,hB⟩:∃B:Int,B=bX c.W np nd:=⟨_,rfl⟩
 obtain⟨T,hT⟩:∃T:Int,T=(pool.length:Int):=⟨_,rfl⟩
 rw[←hB] at HSB
 rw[←hT] at HLen
 have hlt:T<B:=by rw[hT,hB];exact hl
 have HG:=hid hG
 have hfd:=pu (c.N:Int) (c.W:Int) (c.R:Int) (c.K:Int)
 clear hG he hl hC hSB hB hT
 go_enter Tryz.func74,Tryz.ntmps74
 have HT0:Hid (Touch (inG p) w w):=hid (Touch.refl _ _)
 go_wp2_with fail
 refine(fT p c s _ HG.out).mono ?_
 rintro e wm1 ⟨rfl,hb⟩
 have HG1:=hid (HG.out.later hb)
 have HT1:Hid (Touch (inG p) _ wm1):=hid (HT0.out.trans (Touch.of_below hb))
 clear hb
 go_wp2_with fail
 refine(HSB.out _).mono ?_
 rintro e wm2 ⟨rfl,hb⟩
 have HG2:=hid (HG1.out.later hb)
 have HT2:Hid (Touch (inG p) _ wm2):=hid (HT1.out.trans (Touch.of_below hb))
 clear hb
 go_wp2_with fail
 refine(HLen.out _ HG2.out).mono ?_
 rintro e wm3 ⟨rfl,hG,hT⟩
 have HG3:=hid hG
 have HT3:Hid (Touch (inG p) _ wm3):=hid (HT2.out.trans hT)
 clear hG hT
 go_wp2_with fail
 go_ret2
 exact⟨rfl,HG3.out,HT3.out⟩
def Oh(w:World)(base:Nat)(e:TypeId)(k:IntKind)(v:Value)(l:List Int):Prop:=w.ownsRow base e 1 v l.length (l.map (Value.int k))
theorem kS{w:World}{base:Nat}{e t:TypeId}{v:Value}{n:Nat}{xs:List Value}{b:Nat}{cs:Array Value}(h:w.ownsRow base e 1 v n xs)(hb:aT w b cs t)(ht:t≠e):some b≠v.ownBlock:=by
 rcases h.2 with⟨rfl,_⟩|⟨g,cap,cur,rfl,_,hg,_⟩
 ·intro e;cases e
 ·intro e2
  have:b=g:=by simpa[Value.ownBlock] using e2
  subst this
  unfold aT at hb
  rw[hb] at hg
  cases hg
  exact ht rfl
theorem EG{w:World}{base:Nat}{e t:TypeId}{v u:Value}{n m:Nat}{xs ys:List Value}(h:w.ownsRow base e 1 v n xs)(k:w.ownsRow base t 1 u m ys)(ht:t≠e):u.ownBlock=none∨u.ownBlock≠v.ownBlock:=by
 rcases k.2 with⟨rfl,_⟩|⟨g,cap,cur,rfl,_,hg,_⟩
 ·exact .inl rfl
 ·exact .inr (kS h (b:=g) (cs:=cur) hg ht)
theorem aT.grown{w w':World}{row:Option Nat}{b:Nat}{cs:Array Value}{t:TypeId}(h:aT w b cs t)(hg:w.grownBy w' row)(hne:some b≠row):aT w' b cs t:=(hg.block b h.lt hne).trans h
theorem rT{w:World}{base:Nat}{e t:TypeId}{v:Value}{n:Nat}{xs:List Value}{q i:Nat}{cs:Array Value}(h:w.ownsRow base e 1 v n xs)(hb:aT w q cs t)(ht:t≠e)(u:Value):(w.setCell ⟨q,i,none⟩ u).ownsRow base e 1 v n xs:=by
 refine⟨h.1,?_⟩
 have hne:=kS h hb ht
 rcases h.2 with hn|⟨g,cap,cur,rfl,hbg,hgg,rest⟩
 ·exact .inl hn
 ·exact .inr ⟨g,cap,cur,rfl,hbg,(Below.heap_setCell _ _ _ _ (fun e=>hne (congrArg some e.symm))).trans hgg,rest⟩
theorem nA{w w':World}{base:Nat}{e:TypeId}{v:Value}{n:Nat}{xs:List Value}(h:w.ownsRow base e 1 v n xs)(hb:Below w.heap.size w w'):w'.ownsRow base e 1 v n xs:=by
 refine⟨h.1,?_⟩
 rcases h.2 with hn|⟨g,cap,cur,rfl,hbg,hgg,rest⟩
 ·exact .inl hn
 ·exact .inr ⟨g,cap,cur,rfl,hbg,(hb.block g (lt_of_block hgg)).trans hgg,rest⟩
structure yG (w:World) (p:Pl) (c:Cf) (s:St) (np nd:Nat) (P D:List Int) (nl q rb:Nat) (wr:World) (v1 v2:Value):Prop where
 g:G wr p c s
 b:Below w.heap.size w wr
 ln:aT wr nl #[.int .i64 (np:Int),.int .i64 (nd:Int)] 149
 ob:aT wr q #[v1,v2] 99
 rs:aT wr rb #[.slice none 0 0,.slice none 0 0] 99
 o1:Oh wr w.heap.size 3 .i64 v1 P
 o2:Oh wr w.heap.size 154 .u32 v2 D
theorem yG.later{w wr w':World}{np nd:Nat}{P D:List Int}{nl q rb:Nat}{v1 v2:Value}(h:yG w p c s np nd P D nl q rb wr v1 v2)(hb:Below wr.heap.size wr w'):yG w p c s np nd P D nl q rb w' v1 v2:=
 ⟨h.g.later hb,below_step h.b hb,h.ln.later hb,h.ob.later hb,h.rs.later hb,nA h.o1 hb,nA h.o2 hb⟩
theorem yG.ptr{w wr w4:World}{np nd:Nat}{P D:List Int}{nl q rb:Nat}{v1 v2 v':Value}{y:Int}{ob:Obj}(h:yG w p c s np nd P D nl q rb wr v1 v2)(hw:w.heap.size≤q)(hqr:q≠rb)(hG:∀i,lV p i→i<w.heap.size)
  (ho:w4.ownsRow w.heap.size 3 1 v' (P.length+1) (P.map (Value.int .i64)++[.int .i64 y])) (hg:(wr.alloc ob).grownBy w4 v1.ownBlock):
  aT w4 q #[v1,v2] 99∧aT w4 nl #[.int .i64 (np:Int),.int .i64 (nd:Int)] 149∧yG w p c s np nd (P++[y]) D nl q rb (w4.setCell ⟨q,0,none⟩ v') v' v2:=by
 have hsz:=h.b.size
 have o1a:(wr.alloc ob).ownsRow w.heap.size 3 1 v1 P.length (P.map (Value.int .i64)):=nA h.o1 (ak _ _)
 have o2a:(wr.alloc ob).ownsRow w.heap.size 154 1 v2 D.length (D.map (Value.int .u32)):=nA h.o2 (ak _ _)
 have q4:=(h.ob.alloc ob).grown hg (kS o1a (h.ob.alloc ob) (by decide))
 have l4:=(h.ln.alloc ob).grown hg (kS o1a (h.ln.alloc ob) (by decide))
 have r4:=(h.rs.alloc ob).grown hg (kS o1a (h.rs.alloc ob) (by decide))
 have o24:=o2a.kept hg (EG o1a o2a (by decide))
 have b4:Below w.heap.size w w4:=(h.b.alloc hsz ob).grown hg (by simp;omega) (bi o1a)
 have t4:=uB hg (bi o1a) hsz
 have hq:=hw
 refine⟨q4,l4,?_,b4.setCell (p:=⟨q,0,none⟩) hq _,?_,q4.put 0 v' rfl,?_,?_,rT o24 q4 (by decide) _⟩
 ·have g4:G w4 p c s:=h.g.touch t4 (fun i hi hx=>by have h1:w.heap.size≤i:=hx;have:=hG i hi;omega)
  exact g4.touch ((Touch.refl (fun i=>i=q) w4).setCell (p:=⟨q,0,none⟩) (fun _=>rfl) v') (fun i hi e=>by have e2:i=q:=e;have:=hG i hi;omega)
 ·exact l4.other (p:=⟨q,0,none⟩) (fun e=>by have e2:q=nl:=e;subst e2;unfold aT at q4 l4;rw[q4] at l4;cases l4) _
 ·exact r4.other (p:=⟨q,0,none⟩) hqr _
 ·have:=rT (i:=0) ho q4 (by decide) v'
  unfold Oh
  rw[List.map_append,List.length_append]
  exact this
theorem Hr{c:Cf}{zs:List Int}{o:Ob}{k:Nat}{q:Nat × Nat}(h:bI c o k=some q):iM c zs o k=nth zs (adr c q.1 q.2):=by unfold iM aU;rw[h];rfl
theorem Ho{c:Cf}{zs:List Int}{o:Ob}{k:Nat}(h:bI c o k=none):iM c zs o k=0:=by unfold iM aU;rw[h];rfl
end
theorem BF{c:Cf}{o:Ob}{i a:Nat}(h:aU c o i=some a):∃q,bI c o i=some q∧a=adr c q.1 q.2:=by
 unfold aU at h
 cases hp:bI c o i with
 |none=>rw[hp] at h;cases h
 |some q=>rw[hp] at h;simp at h;exact⟨q,rfl,h.symm⟩
theorem qj{c:Cf}{o:Ob}{i:Nat}:(aU c o i).isSome=(bI c o i).isSome:=by unfold aU;rw[Option.isSome_map]
theorem Jv{c:Cf}{zs:List Int}{pool:List Nat}{os:List Ob}{r:Int}(i:Int)(hz:Wz c zs)(H:ah c zs pool os)(hr:In64 r):
  iH c 76 [.int .i64 r,.int .i64 i] zs 12 zs (.tuple #[.int .i64 (rW c zs os r i),.int .i64 (rV c os r i)]):=by
 cases h:fC os r with
 |none=>
  rw[show rW c zs os r i=0 by unfold rW;rw[h],show rV c os r i=8 by unfold rV;rw[h]]
  exact⟨fe (aF c (prev r) 0),by have:=vH (aF c (prev r) 0);omega,fun p m w hG=>qC i 8 (by decide) (Co hG H hr h 0 i)⟩
 |some o=>
  obtain⟨ho,rfl⟩:=mi h
  cases hb:lg i o.np with
  |false=>
   rw[show rW c zs os ((o.h:Int)+1) i=0 by unfold rW;rw[h];simp[hb],show rV c os ((o.h:Int)+1) i=7 by unfold rV;rw[h];simp[hb]]
   exact⟨3,by omega,fun p m w hG=>qC i 7 (by decide) (zY hG H ho i hb)⟩
  |true=>
   obtain⟨k,rfl,hk⟩:=lD hb
   have hv:rW c zs os ((o.h:Int)+1) (k:Int)=iM c zs o k:=by unfold rW;rw[h];simp[hb]
   have hif:k<o.f:=by unfold Ob.f;omega
   cases hq:bI c o k with
   |none=>
    rw[hv,Ho hq,show rV c os ((o.h:Int)+1) (k:Int)=7 by unfold rV;rw[h];simp[hb,qj,hq]]
    exact⟨3+EJ c o,by have:=EK c o;omega,fun p m w hG=>qC (k:Int) 7 (by decide) (by have h2:=wV hG H ho k hk;rw[hq] at h2;exact h2)⟩
   |some q=>
    rw[hv,Hr hq,show rV c os ((o.h:Int)+1) (k:Int)=0 by unfold rV;rw[h];simp[hb,qj,hq]]
    have hwf:=hz.wf (adr c q.1 q.2)
    exact⟨3+EJ c o+1,by have:=EK c o;omega,fun p m w hG=>Iy (k:Int) q.1 q.2 _ (H.lt ho (gI hq)) (gJ hz.may hif hq).2.1 rfl hwf.1 hwf.2 (by have h2:=wV hG H ho k hk;rw[hq] at h2;exact h2)⟩
theorem kQ:Jo where
 make_size:=fun c zs a b hz he=>⟨0,0,Nat.le_refl _,fun p m w hG=>Ab a b hG he⟩
 make_full:=fun c zs pool os a b hz H he hl=>⟨1,1,Nat.le_refl _,fun p m w hG=>Aa a b pool hG H.pl.ch he hl⟩
 make_yes:=fun c zs h ls pool os a b hz H he hb=>⟨Ch c ls pool h,wP c h ls a b zs,⟨Ch c ls pool h,Nat.le_refl _,fun p m w hG=>by have e:=Cq (s:=⟨zs,m⟩) h a b ls pool os hG H he hb;exact e⟩,MP hz.may hz.len H he hb⟩
 is_:=fun c zs pool os r hz H hr=>by
  rw[←PT H hz.may hr]
  exact⟨1*fe (aF c (prev r) 0),by have:=vH (aF c (prev r) 0);omega,fun p m w hG=>zg hG r⟩
 jd:=fun c zs pool os r o hz H h=>by
  obtain⟨ho,rfl⟩:=mi h
  exact⟨3,by omega,fun p m w hG=>uP hG H ho⟩
 rC:=fun c zs pool os r hz H hr h=>⟨fe (aF c (prev r) 0),by have:=vH (aF c (prev r) 0);omega,fun p m w hG=>ED hG H hr h⟩
 ptr:=fun c zs pool os r i hz H hr=>Jv i hz H hr
 setptr_yes:=fun c zs pool os o i a x hz H ho hi ha h0 h1=>by
  obtain⟨q,hq,rfl⟩:=BF ha
  have hif:i<o.f:=by unfold Ob.f;omega
  exact⟨3+EJ c o+1,by have:=EK c o;omega,fun p m w hG=>zX (i:Int) q.1 q.2 x hz.may (H.lt ho (gI hq)) (gJ hz.may hif hq).2.1 h0 h1 (by have h2:=wV hG H ho i hi;rw[hq] at h2;exact h2)⟩
end Go.Proofs.YtbfdimibehkbjaaGreat.Pk
