/-
  Texts laid together: ObjRd, ObjFn, ObjFn2, ObjFn3.
-/
import Derived.Test.YtjmifnljckmimaaGreatChainsEtc
import Derived.Test.YtjmifnljckmimaaGreatTagIEtc
import Derived.Test.YtjmifnljckmimaaGreatTagFnEtc
import Derived.Test.YtjmifnljckmimaaGreatShape2Etc
import Derived.Test.YtjmifnljckmimaaGreatPoolFnEtc
import Derived.Test.YtjmifnljckmimaaGreatTameEtc
import Derived.OwnWalk
import Derived.Laws.OwnMore
namespace Go.Proofs.YtjmifnljckmimaaGreat.Pk
open Lib (hid)
open Go.RowKit
set_option linter.unusedVariables false
set_option linter.unusedSimpArgs false
set_option maxRecDepth 100000
def LP(R:World→World→Prop)(w:World)(p:Pl)(c:Cf)(s:St)(v:Value)(e:Ending)(w':World):Prop:=e=.returned v∧G w' p c s∧R w w'
structure MB (p:Pl) (c:Cf) (k:FuncId) (d:Nat) (R:World→World→Prop):Prop where
 refl:∀w,R w w
 trans:∀{a b e:World},R a b→R b e→R a e
 below:∀{w w':World},Below w.heap.size w w'→R w w'
 touch:∀{w w':World},R w w'→Touch (inG p) w w'
 set:∀{w w':World} {q:Addr},R w w'→w.heap.size≤q.block→∀v,R w (w'.setCell q v)
 ent:∀(args:Array Value) (w:World),(callFunc k args).run Tryz.prog w=.ok (.enter k args) w
 rd:∀(s:St) (b v y:Int) (w:World),G w p c s→(⟨s.zs,0⟩:St).at? (aB c b v)=y→Calls Tryz.prog k #[.pointer (some ⟨p.a,0,none⟩),.int .i64 b,.int .i64 v] w (LP R w p c ⟨s.zs,s.m+d*dF (aB c b v)⟩ (.int .u32 y))
theorem wh(p:Pl)(c:Cf):MB p c 85 1 (Touch (inG p)) where
 refl:=fun w=>Touch.refl _ w
 trans:=fun h k=>h.trans k
 below:=fun h=>Touch.of_below h
 touch:=fun h=>h
 set:=fun h hq v=>h.setCell (fun hlt=>absurd hlt (Nat.not_lt.2 hq)) v
 ent:=fun args w=>rfl
 rd:=fun s b v y w hG hy=>by
  subst hy
  have h:=xc p c s b v w hG
  rw[s.JZ,←Nat.one_mul (dF _)] at h
  exact h
theorem LA(p:Pl)(c:Cf):MB p c 81 0 (fun w w'=>Below w.heap.size w w') where
 refl:=fun w=>Below.refl _ w
 trans:=fun h k=>below_step h k
 below:=fun h=>h
 touch:=fun h=>Touch.of_below h
 set:=fun h hq v=>h.setCell hq v
 ent:=fun args w=>rfl
 rd:=fun s b v y w hG hy=>by
  subst hy
  refine(tY p c s b v w hG).mono ?_
  rintro e w' ⟨rfl,hd⟩
  exact⟨rfl,(hG.later hd.new).to rfl (by simp),hd.new⟩
section
variable {p:Pl} {c:Cf} {k:FuncId} {d:Nat} {R:World→World→Prop}
theorem MB.RX(L:MB p c k d R)(s:St)(b v:Nat)(x z y:Int)(w:World)(hG:G w p c s)(hb:b<c.N)(hv:v<c.W)(hx:x=(b:Int))(hz:z=(v:Int))(hy:nth s.zs (adr c b v)=y):
  Calls Tryz.prog k #[.pointer (some ⟨p.a,0,none⟩),.int .i64 x,.int .i64 z] w (LP R w p c ⟨s.zs,s.m+d⟩ (.int .u32 y)):=by
 subst hx hz hy
 have h:=L.rd s (b:Int) (v:Int) _ w hG rfl
 rw[fQ hb hv] at h
 rw[show s.m+d*dF (some (adr c b v))=s.m+d by simp[dF]] at h
 exact h
def pG(t:Int):Bool:=uK t==1||uK t==2
theorem yK{t:Int}(h:bF t):pG t=true:=by unfold pG;rcases h with h|h<;>simp[h]
theorem Co{t:Int}(h:¬bF t):pG t=false:=by
 unfold pG bF at*
 have h1:¬uK t=1:=fun e=>h (.inl e)
 have h2:¬uK t=2:=fun e=>h (.inr e)
 simp[h1,h2]
theorem su(L:MB p c k d R)(s:St)(b t:Int)(w:World)(hG:G w p c s)(ht:mH c s.zs b=t):
  Calls Tryz.prog 108 #[.func (.func k) #[.pointer (some ⟨p.a,0,none⟩)] #[],.int .i64 b] w (LP R w p c ⟨s.zs,s.m+d*dF (aB c b 0)⟩ (.bool (pG t))):=by
 have H:=hid (L.rd s b 0 t w hG ht)
 have hbd:=AU hG b
 rw[ht] at hbd
 have hfd:=yZ
 have HL:=hid L
 have hent:=L.ent
 obtain⟨k1,e1⟩:∃x,(uK t==1)=x:=⟨_,rfl⟩
 obtain⟨k2,e2⟩:∃x,(uK t==2)=x:=⟨_,rfl⟩
 have E:Hid (pG t=(k1||k2)):=hid (by unfold pG;rw[e1,e2])
 clear hG ht L
 cases k1<;>cases k2
 all_goals
  go_enter Tryz.func108,Tryz.ntmps108
  go_wp2_with fail
  refine H.out.mono ?_
  rintro e w1 ⟨rfl,hG,hR⟩
  have HG:=hid hG
  have HR:=hid hR
  clear hG hR
  go_wp2_with fail
  refine(dh t _ hbd.1 hbd.2).mono ?_
  rintro e w2 ⟨rfl,hb⟩
  have HB:=hid hb
  clear hb
  go_wp2_with fail
  go_ret
  exact⟨by rw[E.out];rfl,HG.out.later HB.out,HL.out.trans HR.out (HL.out.below HB.out)⟩
theorem pK(L:MB p c k d R)(s:St)(b np nd:Nat)(x:Int)(w:World)(hG:G w p c s)(hx:x=(b:Int))(hb:b<c.N)(hk:bF (nth s.zs (adr c b 0)))(h1:nth s.zs (adr c b 1)=(np:Int))(h2:nth s.zs (adr c b 2)=(nd:Int)):
  Calls Tryz.prog 80 #[.func (.func k) #[.pointer (some ⟨p.a,0,none⟩)] #[],.int .i64 x] w (LP R w p c ⟨s.zs,s.m+d*3⟩ (.tuple #[.agg #[.int .i64 (np:Int),.int .i64 (nd:Int)],.bool true])):=by
 subst hx
 have hW:=hG.may.w
 have W1:Hid (1<c.W):=hid (by omega)
 have W2:Hid (2<c.W):=hid (by omega)
 have b1:=hG.wf (adr c b 1)
 have b2:=hG.wf (adr c b 2)
 rw[h1] at b1
 rw[h2] at b2
 have H1:=hid h1
 have H2:=hid h2
 have HL:=hid L
 have hent:=L.ent
 have HI:Hid (∀w',G w' p c s→Calls Tryz.prog 108 #[.func (.func k) #[.pointer (some ⟨p.a,0,none⟩)] #[],.int .i64 (b:Int)] w' (LP R w' p c ⟨s.zs,s.m+d⟩ (.bool true))):=hid (fun w' hG'=>by
  have h:=su L s (b:Int) (nth s.zs (adr c b 0)) w' hG' (oQ hG.may hb)
  rw[yK hk,show aB c (b:Int) 0=some (adr c b 0) from fQ hb (v:=0) (by omega)] at h
  rw[show s.m+d*dF (some (adr c b 0))=s.m+d by simp[dF]] at h
  exact h)
 have HG0:=hid (hG.alloc (.cells #[.int .i64 0,.int .i64 0] 113))
 have BR:=hid (Blk.new w #[.int .i64 0,.int .i64 0] 113)
 have HR0:Hid (R w (w.alloc (.cells #[.int .i64 0,.int .i64 0] 113))):=hid (L.below (below_new w _))
 have NO:Hid (∀i,w.heap.size≤i→¬jf p i):=hid (fun i hi hx=>by have:=hG.dW hx;omega)
 have NG:Hid (∀i,w.heap.size≤i→¬inG p i):=hid (fun i hi hx=>NO.out i hi (Or.inr hx))
 have HS0:Hid (w.heap.size<(w.alloc (.cells #[.int .i64 0,.int .i64 0] 113)).heap.size):=hid (by simp)
 clear hG h1 h2 hk L
 go_enter Tryz.func80,Tryz.ntmps80
 go_wp2_with fail
 generalize w.alloc (.cells #[.int .i64 0,.int .i64 0] 113)=w0 at*
 refine(HI.out _ HG0.out).mono ?_
 rintro e w1 ⟨rfl,hG,hR⟩
 have HG1:=hid (hG.alloc (.cells #[.int .i64 0,.int .i64 0] 113))
 have BR1:=hid ((BR.out.touch (HL.out.touch hR) (NG.out _ (Nat.le_refl _))).alloc (.cells #[.int .i64 0,.int .i64 0] 113))
 have BN1:=hid (Blk.new w1 #[.int .i64 0,.int .i64 0] 113)
 have hs1:w.heap.size<w1.heap.size:=Nat.lt_of_lt_of_le HS0.out (HL.out.touch hR).size
 have HR1:Hid (R w (w1.alloc (.cells #[.int .i64 0,.int .i64 0] 113))):=hid (HL.out.trans HR0.out (HL.out.trans hR (HL.out.below (below_new w1 _))))
 clear hG hR HG0 BR HR0
 go_wp2_with fail
 generalize hn:w1.heap.size=n at*
 generalize w1.alloc (.cells #[.int .i64 0,.int .i64 0] 113)=v1 at*
 refine wp_loop_rounds 3 ?_
 rw[rounds_succ]
 go_wp2_with fail
 refine(HL.out.RX _ b 1 _ _ _ _ HG1.out hb W1.out rfl rfl H1.out).mono ?_
 rintro e w2 ⟨rfl,hG,hR⟩
 have HG2:=hid hG
 have BR2:=hid (BR1.out.touch (HL.out.touch hR) (NG.out _ (Nat.le_refl _)))
 have BN2:=hid (BN1.out.touch (HL.out.touch hR) (NG.out _ (Nat.le_of_lt hs1)))
 have HR2:=hid (HL.out.trans HR1.out hR)
 clear hG hR HG1 BR1 BN1 HR1
 have cn:=BN2.out.cell 0 rfl
 have fn:=BN2.out.free 0
 go_wp2_with fail
 have TQ:Hid (Touch (fun i=>i=n) w2 (w2.setCell ⟨n,0,none⟩ (.int .i64 (np:Int)))):=hid ((Touch.refl (fun i=>i=n) w2).setCell (p:=⟨n,0,none⟩) (fun _=>rfl) _)
 have HG3:=hid (HG2.out.touch TQ.out (fun i hi e=>NO.out i (by omega) hi))
 have BR3:=hid (BR2.out.other (p:=⟨n,0,none⟩) (by show n≠w.heap.size;omega) (.int .i64 (np:Int)))
 have BN3:=hid (BN2.out.put (cs':= #[.int .i64 (np:Int),.int .i64 0]) 0 (.int .i64 (np:Int)) rfl)
 have HR3:=hid (HL.out.set HR2.out (q:=⟨n,0,none⟩) (Nat.le_of_lt hs1) (.int .i64 (np:Int)))
 clear HG2 BR2 BN2 HR2 TQ cn fn
 generalize w2.setCell ⟨n,0,none⟩ (.int .i64 (np:Int))=v2 at*
 rw[rounds_succ]
 go_wp2_with fail
 refine(HL.out.RX _ b 2 _ _ _ _ HG3.out hb W2.out rfl rfl H2.out).mono ?_
 rintro e w4 ⟨rfl,hG,hR⟩
 have HG4:=hid hG
 have BR4:=hid (BR3.out.touch (HL.out.touch hR) (NG.out _ (Nat.le_refl _)))
 have BN4:=hid (BN3.out.touch (HL.out.touch hR) (NG.out _ (Nat.le_of_lt hs1)))
 have HR4:=hid (HL.out.trans HR3.out hR)
 clear hG hR HG3 BR3 BN3 HR3
 have cn:=BN4.out.cell 1 rfl
 have fn:=BN4.out.free 1
 go_wp2_with fail
 have TQ:Hid (Touch (fun i=>i=n) w4 (w4.setCell ⟨n,1,none⟩ (.int .i64 (nd:Int)))):=hid ((Touch.refl (fun i=>i=n) w4).setCell (p:=⟨n,1,none⟩) (fun _=>rfl) _)
 have HG5:=hid (HG4.out.touch TQ.out (fun i hi e=>NO.out i (by omega) hi))
 have BR5:=hid (BR4.out.other (p:=⟨n,1,none⟩) (by show n≠w.heap.size;omega) (.int .i64 (nd:Int)))
 have BN5:=hid (BN4.out.put (cs':= #[.int .i64 (np:Int),.int .i64 (nd:Int)]) 1 (.int .i64 (nd:Int)) rfl)
 have HR5:=hid (HL.out.set HR4.out (q:=⟨n,1,none⟩) (Nat.le_of_lt hs1) (.int .i64 (nd:Int)))
 clear HG4 BR4 BN4 HR4 TQ cn fn
 generalize w4.setCell ⟨n,1,none⟩ (.int .i64 (nd:Int))=v4 at*
 rw[rounds_succ]
 have c0:=BN5.out.cell 0 rfl
 have c1:=BN5.out.cell 1 rfl
 have r0:=BR5.out.cell 0 rfl
 have r1:=BR5.out.cell 1 rfl
 have f0:=BR5.out.free 0
 have f1:=BR5.out.free 1
 go_wp2_with fail
 exact bodyPost_ret (v:=.tuple #[.agg #[.int .i64 (np:Int),.int .i64 (nd:Int)],.bool true]) (by simp[results,Tryz.results80,go_sem,r0,r1]) rfl ⟨rfl,by
  have T2:Touch (fun i=>w.heap.size≤i) v4 ((v4.setCell ⟨w.heap.size,0,none⟩ (.int .i64 (np:Int))).setCell ⟨w.heap.size,1,none⟩ (.int .i64 (nd:Int))):=((Touch.refl _ v4).setCell (p:=⟨w.heap.size,0,none⟩) (fun _=>Nat.le_refl _) _).setCell (p:=⟨w.heap.size,1,none⟩) (fun _=>Nat.le_refl _) _
  exact(HG5.out.touch T2 (fun i hi e=>NO.out i e hi)).to rfl (by show s.m+d+d+d=s.m+d*3;omega),HL.out.set (HL.out.set HR5.out (q:=⟨w.heap.size,0,none⟩) (Nat.le_refl _) _) (q:=⟨w.heap.size,1,none⟩) (Nat.le_refl _) _⟩
theorem qM(L:MB p c k d R)(s:St)(x t:Int)(w:World)(hG:G w p c s)(ht:mH c s.zs x=t)(hk:¬bF t):
  Calls Tryz.prog 80 #[.func (.func k) #[.pointer (some ⟨p.a,0,none⟩)] #[],.int .i64 x] w (LP R w p c ⟨s.zs,s.m+d*dF (aB c x 0)⟩ (.tuple #[.agg #[.int .i64 0,.int .i64 0],.bool false])):=by
 have HL:=hid L
 have hent:=L.ent
 have HI:Hid (∀w',G w' p c s→Calls Tryz.prog 108 #[.func (.func k) #[.pointer (some ⟨p.a,0,none⟩)] #[],.int .i64 x] w' (LP R w' p c ⟨s.zs,s.m+d*dF (aB c x 0)⟩ (.bool false))):=hid (fun w' hG'=>by
  have h:=su L s x t w' hG' ht
  rw[Co hk] at h
  exact h)
 have HG0:=hid (hG.alloc (.cells #[.int .i64 0,.int .i64 0] 113))
 have BR:=hid (Blk.new w #[.int .i64 0,.int .i64 0] 113)
 have HR0:Hid (R w (w.alloc (.cells #[.int .i64 0,.int .i64 0] 113))):=hid (L.below (below_new w _))
 have NO:Hid (∀i,w.heap.size≤i→¬jf p i):=hid (fun i hi hx=>by have:=hG.dW hx;omega)
 clear hG ht hk L
 go_enter Tryz.func80,Tryz.ntmps80
 go_wp2_with fail
 generalize w.alloc (.cells #[.int .i64 0,.int .i64 0] 113)=w0 at*
 refine(HI.out _ HG0.out).mono ?_
 rintro e w1 ⟨rfl,hG,hR⟩
 have HG1:=hid hG
 have BR1:=hid (BR.out.touch (HL.out.touch hR) (fun hx=>NO.out _ (Nat.le_refl _) (Or.inr hx)))
 have HR1:=hid (HL.out.trans HR0.out hR)
 clear hG hR HG0 BR HR0
 have f0:=BR1.out.free 0
 have f1:=BR1.out.free 1
 have r0:=BR1.out.cell 0 rfl
 have r1:=BR1.out.cell 1 rfl
 go_wp2_with fail
 exact bodyPost_ret (v:=.tuple #[.agg #[.int .i64 0,.int .i64 0],.bool false]) (by simp[results,Tryz.results80,go_sem,r0,r1]) rfl ⟨rfl,by
  have T2:Touch (fun i=>w.heap.size≤i) w1 ((w1.setCell ⟨w.heap.size,0,none⟩ (.int .i64 0)).setCell ⟨w.heap.size,1,none⟩ (.int .i64 0)):=((Touch.refl _ w1).setCell (p:=⟨w.heap.size,0,none⟩) (fun _=>Nat.le_refl _) _).setCell (p:=⟨w.heap.size,1,none⟩) (fun _=>Nat.le_refl _) _
  exact HG1.out.touch T2 (fun i hi e=>NO.out i e hi),HL.out.set (HL.out.set HR1.out (q:=⟨w.heap.size,0,none⟩) (Nat.le_refl _) _) (q:=⟨w.heap.size,1,none⟩) (Nat.le_refl _) _⟩
theorem yT(L:MB p c k d R)(s:St)(h j n:Nat)(x z:Int)(w:World)(hG:G w p c s)(hx:x=(h:Int))(hz:z=(j:Int))(hh:h<c.N)(hj:8+j<c.W)(hn:nth s.zs (adr c h (8+j))=(n:Int)):
  Calls Tryz.prog 154 #[.func (.func k) #[.pointer (some ⟨p.a,0,none⟩)] #[],.int .i64 x,.int .i64 z] w (LP R w p c ⟨s.zs,s.m+d⟩ (if n=0 then .tuple #[.int .i64 0,.bool false] else .tuple #[.int .i64 ((n:Int)-1),.bool true])):=by
 subst hx hz
 have hW:=hG.may.w
 have H:=hid (L.RX s h (8+j) (h:Int) (8+(j:Int)) (n:Int) w hG hh hj rfl (by omega) hn)
 have hbd:=hG.wf (adr c h (8+j))
 rw[hn] at hbd
 have hent:=L.ent
 clear hG hn L
 by_cases h0:n=0
 ·subst h0
  rw[if_pos rfl]
  go_enter Tryz.func154,Tryz.ntmps154
  go_wp2_with fail
  refine H.out.mono ?_
  rintro e w1 ⟨rfl,hG,hR⟩
  have HG:=hid hG
  have HR:=hid hR
  clear hG hR
  go_wp2_with fail
  go_ret2
  exact⟨rfl,HG.out,HR.out⟩
 ·rw[if_neg h0]
  have hne:((n:Int)==0)=false:=uW (by omega)
  go_enter Tryz.func154,Tryz.ntmps154
  go_wp2_with fail
  refine H.out.mono ?_
  rintro e w1 ⟨rfl,hG,hR⟩
  have HG:=hid hG
  have HR:=hid hR
  clear hG hR
  go_wp2_with fail
  go_ret2
  exact⟨rfl,HG.out,HR.out⟩
def Fv(c:Cf)(o:Ob):Nat:=if o.f≤c.W-8 then 0 else 1
theorem Fw(c:Cf)(o:Ob):Fv c o≤1:=by unfold Fv;split<;>omega
def Rz(q:Option (Nat × Nat)):Value:=match q with
 |some q=>.tuple #[.int .i64 (q.1:Int),.int .i64 (q.2:Int),.bool true]
 |none=>.tuple #[.int .i64 0,.int .i64 0,.bool false]
theorem CV(L:MB p c k d R)(s:St)(o:Ob)(i:Nat)(w:World)(hG:G w p c s)(hA:iU c s.zs o)(hi:i<o.f):
  Calls Tryz.prog 84 #[.func (.func k) #[.pointer (some ⟨p.a,0,none⟩)] #[],.int .i64 (c.W:Int),.int .i64 (o.h:Int),.int .i64 (o.f:Int),.int .i64 (i:Int)] w (LP R w p c ⟨s.zs,s.m+d*Fv c o⟩ (Rz (bi c o i))):=by
 have hW:=hG.may.w
 have hf:=hA.size
 have hp:eF c.W o.f i=0:=za (JA (by omega) (by omega) (by omega) hf) (by omega) (by omega)
 have HP:=hid (DD c.W o.f i w)
 unfold jF at HP
 have HL:=hid L
 have HG:=hid hG
 by_cases hs:o.f≤c.W-8
 ·obtain⟨q1,q2⟩:=tQ hp (by omega)
  rw[q1,q2,hp] at HP
  rw[iE hs,show Fv c o=0 by unfold Fv;rw[if_pos hs]]
  show Calls _ _ _ _ (LP R w p c ⟨s.zs,s.m⟩ (.tuple #[.int .i64 (o.h:Int),.int .i64 ((8+i:Nat):Int),.bool true]))
  have e8:((8+i:Nat):Int)=8+(i:Int):=by omega
  rw[e8]
  clear hG hA L hp q1 q2
  go_enter Tryz.func84,Tryz.ntmps84
  go_wp2_with fail
  refine HP.out.mono ?_
  rintro e w1 ⟨rfl,hb⟩
  have HB:=hid hb
  clear hb
  go_wp2_with fail
  go_ret3
  exact⟨rfl,HG.out.later HB.out,HL.out.below HB.out⟩
 ·obtain⟨q1,q2⟩:=ze hp (by omega)
  rw[q1,q2,hp] at HP
  have hpl:=hA.place hG.may hs hi
  have hlW:=hA.KW hG.may
  have hown:=hA.own _ hpl
  have eq1:(i:Int)/((c.W:Int)-1)=((i/(c.W-1):Nat):Int):=by rw[show((c.W:Int)-1)=((c.W-1:Nat):Int) by omega];exact(Int.natCast_ediv _ _).symm
  have eq2:1+(i:Int)%((c.W:Int)-1)=((1+i%(c.W-1):Nat):Int):=by
   have e:(i:Int)%((c.W:Int)-1)=((i%(c.W-1):Nat):Int):=by rw[show((c.W:Int)-1)=((c.W-1:Nat):Int) by omega];exact(Int.natCast_emod _ _).symm
   omega
  rw[eq1,eq2] at HP
  rw[show Fv c o=1 by unfold Fv;rw[if_neg hs],Nat.mul_one]
  have hg:o.lv[i/(c.W-1)]? =some o.lv[i/(c.W-1)]:=List.getElem?_eq_getElem hpl
  generalize o.lv[i/(c.W-1)]=n at*
  have HLf:=hid (fun w' hG'=>yT L s o.h (i/(c.W-1)) n (o.h:Int) _ w' hG' rfl rfl hA.hlt (by omega) hown)
  have hsm:¬(((i/(c.W-1):Nat):Int)= -1):=fun e=>by have h0:=Int.natCast_nonneg (i/(c.W-1));rw[e] at h0;exact absurd h0 (by decide)
  have hne:=uW hsm
  by_cases h0:n=0
  ·subst h0
   rw[Cb hs hg]
   simp only[if_true] at HLf
   show Calls _ _ _ _ (LP R w p c ⟨s.zs,s.m+d⟩ (.tuple #[.int .i64 0,.int .i64 0,.bool false]))
   generalize i/(c.W-1)=lf at*
   generalize 1+i%(c.W-1)=at_ at*
   clear hG hA L hp q1 q2 eq1 eq2 hown hg hpl
   go_enter Tryz.func84,Tryz.ntmps84
   go_wp2_with fail
   refine HP.out.mono ?_
   rintro e w1 ⟨rfl,hb⟩
   have HB:=hid hb
   clear hb
   go_wp2_with fail
   refine(HLf.out w1 (HG.out.later HB.out)).mono ?_
   rintro e w2 ⟨rfl,hG,hR⟩
   have HG2:=hid hG
   have HR2:=hid (HL.out.trans (HL.out.below HB.out) hR)
   clear hG hR
   go_wp2_with fail
   go_ret3
   exact⟨rfl,HG2.out,HR2.out⟩
  ·obtain⟨b,rfl⟩:∃b,n=b+1:=⟨n-1,by omega⟩
   rw[iY hs hg]
   simp only[Nat.add_eq_zero_iff,Nat.one_ne_zero,and_false,if_false] at HLf
   rw[show(((b+1:Nat):Int)-1)=(b:Int) by omega] at HLf
   show Calls _ _ _ _ (LP R w p c ⟨s.zs,s.m+d⟩ (.tuple #[.int .i64 (b:Int),.int .i64 ((1+i%(c.W-1):Nat):Int),.bool true]))
   generalize i/(c.W-1)=lf at*
   generalize 1+i%(c.W-1)=at_ at*
   clear hG hA L hp q1 q2 eq1 eq2 hown hg hpl
   go_enter Tryz.func84,Tryz.ntmps84
   go_wp2_with fail
   refine HP.out.mono ?_
   rintro e w1 ⟨rfl,hb⟩
   have HB:=hid hb
   clear hb
   go_wp2_with fail
   refine(HLf.out w1 (HG.out.later HB.out)).mono ?_
   rintro e w2 ⟨rfl,hG,hR⟩
   have HG2:=hid hG
   have HR2:=hid (HL.out.trans (HL.out.below HB.out) hR)
   clear hG hR
   go_wp2_with fail
   go_ret3
   exact⟨rfl,HG2.out,HR2.out⟩
end
theorem Cr{c:Cf}{zs:List Int}{pool:List Nat}{os:List Ob}(H:ah c zs pool os)(hm:c.May){r:Int}(h:dJ os r=none):¬bF (mH c zs (r-1)):=by
 by_cases hr:0≤r-1∧r-1<(c.N:Int)
 ·obtain⟨b,hb⟩:∃b:Nat,r-1=(b:Int):=⟨(r-1).toNat,by omega⟩
  rw[hb,oQ hm (by omega)]
  rcases H.all (b:=b) (by omega) with hp|⟨o,ho,hbo⟩
  ·rw[H.pl.fr b hp];unfold bF uK;decide
  ·have hne:o.h≠b:=fun e=>yS h o ho (by omega)
   have:b∈o.leaves:=by
    unfold Ob.blocks at hbo
    rcases List.mem_cons.1 hbo with e|e
    ·exact absurd e.symm hne
    ·exact e
   rw[(H.obs o ho).leaf b (Ob.bA.1 this)]
   unfold bF uK;omega
 ·rw[wI hr];unfold bF uK;decide
theorem wX{x:Int}(h: -9223372036854775808≤x∧x≤9223372036854775807):wrap64 x=x:=IntWalk.wrap64_in x h
def prev(r:Int):Int:=wrap64 (r-1)
theorem NK{r:Int}(hr:In64 r)(h:r≠-9223372036854775808):prev r=r-1:=by
 unfold In64 at hr
 exact wX (by omega)
theorem uI{c:Cf}(hm:c.May){h:Nat}(hh:h<c.N):prev ((h:Int)+1)=(h:Int):=by
 have:=hm.n
 unfold prev
 rw[show(h:Int)+1-1=(h:Int) by omega]
 exact wX (by omega)
theorem bR{c:Cf}(hm:c.May){h:Nat}(hh:h<c.N):wrap64 (h:Int)=(h:Int):=by
 have:=hm.n
 exact wX (by omega)
theorem nQ{c:Cf}{zs:List Int}{pool:List Nat}{os:List Ob}(H:ah c zs pool os)(hm:c.May){r:Int}(hr:In64 r)(h:Pk.dJ os r=none):¬bF (mH c zs (prev r)):=by
 have hN:=hm.n
 by_cases e:r= -9223372036854775808
 ·subst e
  rw[show prev (-9223372036854775808)=9223372036854775807 from by unfold prev wrap64;decide,wI (by omega)]
  unfold bF uK;decide
 ·rw[NK hr e]
  exact Cr H hm h
theorem sj(a b x:Int)(w:World)(h:wrap64 (a+b)=x):Calls Tryz.prog 83 #[.agg #[.int .i64 a,.int .i64 b]] w fun e w'=>e=.returned (.int .i64 x)∧Below w.heap.size w w':=by
 subst h
 go_enter Tryz.func83,Tryz.ntmps83
 go_wp2_with fail
 go_ret
 exact⟨rfl,below_new _ _⟩
def QO(q:Option (Nat × Nat)):Value:=match q with
 |some q=>.tuple #[.int .i64 (q.1:Int),.int .i64 (q.2:Int),.int .i64 0]
 |none=>.tuple #[.int .i64 0,.int .i64 0,.int .i64 7]
section
variable {p:Pl} {c:Cf} {s:St} {pool:List Nat} {os:List Ob} {o:Ob} {r:Int} {w:World}
theorem iJ(hG:G w p c s)(H:ah c s.zs pool os)(ho:o∈os):Calls Tryz.prog 80 #[.func (.func 85) #[.pointer (some ⟨p.a,0,none⟩)] #[],.int .i64 (o.h:Int)] w (GP w p c ⟨s.zs,s.m+3⟩ (.tuple #[.agg #[.int .i64 (o.np:Int),.int .i64 (o.nd:Int)],.bool true])):=by
 have hA:=H.obs o ho
 exact pK (wh p c) s o.h o.np o.nd _ w hG rfl hA.hlt hA.head hA.w1 hA.w2
theorem oM(hG:G w p c s)(H:ah c s.zs pool os)(hr:In64 r)(ho:dJ os r=none):Calls Tryz.prog 80 #[.func (.func 85) #[.pointer (some ⟨p.a,0,none⟩)] #[],.int .i64 (prev r)] w (GP w p c ⟨s.zs,s.m+dF (aB c (prev r) 0)⟩ (.tuple #[.agg #[.int .i64 0,.int .i64 0],.bool false])):=by
 have h:=qM (wh p c) s _ _ w hG rfl (nQ H hG.may hr ho)
 rw[Nat.one_mul] at h
 exact h
theorem vW(hG:G w p c s)(H:ah c s.zs pool os)(ho:o∈os):o.np+o.nd≤100000:=by
 have hA:=H.obs o ho
 have h1:=hA.size
 have hW:=hG.may.w
 have h2:fieldsI c.W≤63240:=by
  unfold fieldsI
  have a1:(0:Int)≤(c.W:Int)-8:=by omega
  have a2:(c.W:Int)-8≤248:=by omega
  have a3:(c.W:Int)-1≤255:=by omega
  have a4:(0:Int)≤(c.W:Int)-1:=by omega
  have:=Int.mul_le_mul a2 a3 a4 (by omega:(0:Int)≤248)
  omega
 unfold Ob.f at h1
 omega
set_option maxHeartbeats 1000000 in
theorem CR(hG:G w p c s)(H:ah c s.zs pool os)(hr:In64 r)(ho:dJ os r=none)(kk i:Int):
  Calls Tryz.prog 132 #[.pointer (some ⟨p.a,0,none⟩),.int .i64 r,.int .i64 kk,.int .i64 i] w (GP w p c ⟨s.zs,s.m+dF (aB c (prev r) 0)⟩ (.tuple #[.int .i64 0,.int .i64 0,.int .i64 8])):=by
 have hmf:∀(fn:Fn) (first cap:Array Value) (w:World),(Instr.makeFunc fn first cap).run Tryz.prog w=.ok (.func fn first cap) w:=fun _ _ _ _=>rfl
 have HL:=hid (oM hG H hr ho)
 have HG:=hid hG
 have e1:wrap64 (r-1)=prev r:=rfl
 clear hG H ho hr
 go_enter Tryz.func132,Tryz.ntmps132
 have HT0:Hid (Touch (inG p) w w):=hid (Touch.refl _ _)
 go_wp2_with fail
 refine(HL.out).mono ?_
 rintro e wm1 ⟨rfl,hG,hT⟩
 have HG1:=hid hG
 have HT1:Hid (Touch (inG p) _ wm1):=hid (HT0.out.trans hT)
 clear hG hT
 go_wp2_with fail
 go_ret3
 exact⟨rfl,HG1.out.alloc _,HT1.out.alloc _⟩
set_option maxHeartbeats 1000000 in
theorem Aj(hG:G w p c s)(H:ah c s.zs pool os)(ho:o∈os)(i:Int)(hi:jG i o.np=false):
  Calls Tryz.prog 132 #[.pointer (some ⟨p.a,0,none⟩),.int .i64 ((o.h:Int)+1),.int .i64 0,.int .i64 i] w (GP w p c ⟨s.zs,s.m+3⟩ (.tuple #[.int .i64 0,.int .i64 0,.int .i64 7])):=by
 have hmf:∀(fn:Fn) (first cap:Array Value) (w:World),(Instr.makeFunc fn first cap).run Tryz.prog w=.ok (.func fn first cap) w:=fun _ _ _ _=>rfl
 have HL:=hid (iJ hG H ho)
 have HG:=hid hG
 have e1:=bR hG.may (H.obs o ho).hlt
 have hb:=OX hi
 clear hG H ho hi
 by_cases h0:i<0
 ·clear hb
  go_enter Tryz.func132,Tryz.ntmps132
  have HT0:Hid (Touch (inG p) w w):=hid (Touch.refl _ _)
  go_wp2_with fail
  refine(HL.out).mono ?_
  rintro e wm1 ⟨rfl,hG,hT⟩
  have HG1:=hid hG
  have HT1:Hid (Touch (inG p) _ wm1):=hid (HT0.out.trans hT)
  clear hG hT
  go_wp2_with fail
  go_ret3
  exact⟨rfl,HG1.out.alloc _,HT1.out.alloc _⟩
 ·have h1:i≥(o.np:Int):=by omega
  clear hb
  go_enter Tryz.func132,Tryz.ntmps132
  have HT0:Hid (Touch (inG p) w w):=hid (Touch.refl _ _)
  go_wp2_with fail
  refine(HL.out).mono ?_
  rintro e wm1 ⟨rfl,hG,hT⟩
  have HG1:=hid hG
  have HT1:Hid (Touch (inG p) _ wm1):=hid (HT0.out.trans hT)
  clear hG hT
  go_wp2_with fail
  go_ret3
  exact⟨rfl,HG1.out.alloc _,HT1.out.alloc _⟩
set_option maxHeartbeats 2000000 in
theorem vT(hG:G w p c s)(H:ah c s.zs pool os)(ho:o∈os)(i:Nat)(hi:i<o.np):
  Calls Tryz.prog 132 #[.pointer (some ⟨p.a,0,none⟩),.int .i64 ((o.h:Int)+1),.int .i64 0,.int .i64 (i:Int)] w (GP w p c ⟨s.zs,s.m+(3+Fv c o)⟩ (QO (bi c o (i)))):=by
 have hmf:∀(fn:Fn) (first cap:Array Value) (w:World),(Instr.makeFunc fn first cap).run Tryz.prog w=.ok (.func fn first cap) w:=fun _ _ _ _=>rfl
 have HL:=hid (iJ hG H ho)
 have HG:=hid hG
 have e1:=bR hG.may (H.obs o ho).hlt
 have hsm:=vW hG H ho
 have e2:wrap64 ((o.np:Int)+(o.nd:Int))=(o.f:Int):=by rw[wX (by omega)];unfold Ob.f;omega
 have e4:IntKind.i64.wrap (o.h:Int)=(o.h:Int):=by rw[IntWalk.i64_left,e1]
 have hi2:(i:Int)+(o.np:Int)≤200000:=by omega
 have h0:¬(i:Int)<0:=by omega
 have h1:¬(i:Int)≥(o.np:Int):=by omega
 have hif:i<o.f:=by unfold Ob.f;omega
 have hP:=fun w' (hG':G w' p c ⟨s.zs,s.m+3⟩)=>CV (wh p c) ⟨s.zs,s.m+3⟩ o (i) w' hG' (H.obs o ho) hif
 rw[show(((i:Nat)):Int)=(i:Int) from by omega] at hP
 have hfd:=jw (c.N:Int) (c.W:Int) (c.R:Int) (c.K:Int)
 generalize bi c o (i)=q at*
 have HP:=hid hP
 clear hG H ho hi hsm hif hP
 go_enter Tryz.func132,Tryz.ntmps132
 have HT0:Hid (Touch (inG p) w w):=hid (Touch.refl _ _)
 go_wp2_with fail
 refine(HL.out).mono ?_
 rintro e wm1 ⟨rfl,hG,hT⟩
 have HG1:=hid hG
 have HT1:Hid (Touch (inG p) _ wm1):=hid (HT0.out.trans hT)
 clear hG hT
 have HG2:=hid (HG1.out.alloc (.cells #[.int .i64 (o.np:Int),.int .i64 (o.nd:Int)] 113))
 have BN2:=hid (Blk.new wm1 #[.int .i64 (o.np:Int),.int .i64 (o.nd:Int)] 113)
 have HT2:Hid (Touch (inG p) w (wm1.alloc (.cells #[.int .i64 (o.np:Int),.int .i64 (o.nd:Int)] 113))):=hid (HT1.out.alloc _)
 have NG:Hid (¬inG p wm1.heap.size):=hid (uH HG1.out)
 go_wp2_with fail
 generalize wm1.heap.size=n at*
 generalize wm1.alloc (.cells #[.int .i64 (o.np:Int),.int .i64 (o.nd:Int)] 113)=v1 at*
 have c0:v1.cell? ⟨n,0,none⟩=some (.int .i64 (o.np:Int)):=BN2.out.cell 0 rfl
 have c1:v1.cell? ⟨n,1,none⟩=some (.int .i64 (o.nd:Int)):=BN2.out.cell 1 rfl
 refine wp_loop_rounds 1 ?_
 rw[rounds_succ]
 go_wp2_with fail
 have cc0:=fun w' (hC:Below v1.heap.size v1 w')=>(show w'.cell? ⟨n,0,none⟩=some (.int .i64 (o.np:Int)) from(BN2.out.later hC).cell 0 rfl)
 have cc1:=fun w' (hC:Below v1.heap.size v1 w')=>(show w'.cell? ⟨n,1,none⟩=some (.int .i64 (o.nd:Int)) from(BN2.out.later hC).cell 1 rfl)
 refine qh [af.is (.pointer (some ⟨p.a,0,none⟩)),af.is (.func (.func 85) #[.pointer (some ⟨p.a,0,none⟩)] #[]),af.is (.pointer (some ⟨p.a,0,none⟩)),af.is (.agg #[.int .i64 (c.N:Int),.int .i64 (c.W:Int),.int .i64 (c.R:Int),.int .i64 (c.K:Int)]),af.is (.int .i64 ((c.W:Int))),af.is (.int .i64 ((o.h:Int)+1)),af.is (.int .i64 ((o.h:Int))),af.is (.agg #[.int .i64 (o.np:Int),.int .i64 (o.nd:Int)]),af.is (.int .i64 ((o.f:Int))),af.is (.int .i64 ((i:Int)))] (by kernel_rfl) (by kernel_rfl) rfl rfl (by kernel_rfl) (by kernel_rfl) (fun _ _ _ _ _ h=>h) (fun ops K2 hops hK=> ?_)
 refine aa (ae rfl) (fun w' hC hd=>aj _ (.inl rfl) rfl) (by go_frame;rfl) (by simp only[List.nil_append,List.cons_append];rfl) ?_
 refine aa (ae rfl) (fun w' hC hd=>aD 48 (.pointer (some ⟨p.a,0,none⟩)) rfl (fun ρ hρ hf e0=>ay (by go_simp))) (by go_frame;rfl) (by simp only[List.nil_append,List.cons_append];rfl) ?_
 refine aa (ae rfl) (fun w' hC hd=>aj _ (.inl rfl) rfl) (by go_frame;rfl) (by simp only[List.nil_append,List.cons_append];rfl) ?_
 refine aa (ae rfl) (fun w' hC hd=>aD 50 (.pointer (some ⟨p.a,0,none⟩)) rfl (fun ρ hρ hf e0=>gX (f:=27) (by go_simp) (cZ p c _ w' (HG2.out.later hC)))) (by go_frame;rfl) (by simp only[List.nil_append,List.cons_append];rfl) ?_
 refine aa (ae rfl) (fun w' hC hd=>aD 51 (.agg #[.int .i64 (c.N:Int),.int .i64 (c.W:Int),.int .i64 (c.R:Int),.int .i64 (c.K:Int)]) rfl (fun ρ hρ hf e0=>ay (by have hb0:=hfd;go_simp))) (by go_frame;rfl) (by simp only[List.nil_append,List.cons_append];rfl) ?_
 refine aa (ae rfl) (fun w' hC hd=>aj _ (.inl rfl) rfl) (by go_frame;rfl) (by simp only[List.nil_append,List.cons_append];rfl) ?_
 refine aa (ae rfl) (fun w' hC hd=>aD 53 (.int .i64 ((o.h:Int)+1)) rfl (fun ρ hρ hf e0=>ay (by have hb0:=e4;go_simp))) (by go_frame;rfl) (by simp only[List.nil_append,List.cons_append];rfl) ?_
 refine aa (ae rfl) (fun w' hC hd=>aD 11 (.pointer (some ⟨n,0,none⟩)) rfl (fun ρ hρ hf e0=>ay (by have hc0:=cc0 w' hC;have hc1:=cc1 w' hC;go_simp))) (by go_frame;rfl) (by simp only[List.nil_append,List.cons_append];rfl) ?_
 refine aa (ae rfl) (fun w' hC hd=>aD 55 (.agg #[.int .i64 (o.np:Int),.int .i64 (o.nd:Int)]) rfl (fun ρ hρ hf e0=>gX (f:=83) (by go_simp) (sj _ _ _ w' e2))) (by go_frame;rfl) (by simp only[List.nil_append,List.cons_append];rfl) ?_
 refine aa (ae rfl) (fun w' hC hd=>aj _ (.inl rfl) rfl) (by go_frame;rfl) (by simp only[List.nil_append,List.cons_append];rfl) ?_
 refine fJ fun w3 hC3 _=>hK _ _ fun K3 hK3=> ?_
 have HG3:=hid (HG2.out.later hC3)
 have HT3:=hid (HT2.out.trans (Touch.of_below (X:=inG p) hC3))
 clear cc0 cc1 hC3 c0 c1 HG2 HT2 BN2
 have hq:=HP.out w3 HG3.out
 clear HP
 go_simp
 cases q with
 |none=>
  simp only[Rz] at hq
  have HQ:=hid hq
  clear hq
  refine HQ.out.mono ?_
  rintro e w4 ⟨rfl,hG,hR⟩
  have HG4:=hid hG
  have HT4:=hid (HT3.out.trans hR)
  clear hG hR
  refine hK3 _ _ ?_
  clear hK3 hK
  refine eB (.tuple #[.int .i64 0,.int .i64 0,.bool false]) rfl rfl (fun w=>by go_simp) (by go_frame;rfl) ?_
  refine eB (.int .i64 0) rfl rfl (fun w=>by go_simp) (by go_frame;rfl) ?_
  refine eB (.int .i64 0) rfl rfl (fun w=>by go_simp) (by go_frame;rfl) ?_
  refine eB (.bool false) rfl rfl (fun w=>by go_simp) (by go_frame;rfl) ?_
  refine eB (.int .i64 0) rfl rfl (fun w=>by go_simp) (by go_frame;rfl) ?_
  refine eB (.int .i64 0) rfl rfl (fun w=>by go_simp) (by go_frame;rfl) ?_
  refine eB (.bool false) rfl rfl (fun w=>by go_simp) (by go_frame;rfl) ?_
  refine zu ?_
  go_wp2_with fail
  go_ret3
  exact⟨rfl,HG4.out.to rfl (by show s.m+3+1*Fv c o=s.m+(3+Fv c o);omega),HT4.out⟩
 |some q=>
  simp only[Rz] at hq
  have HQ:=hid hq
  clear hq
  refine HQ.out.mono ?_
  rintro e w4 ⟨rfl,hG,hR⟩
  have HG4:=hid hG
  have HT4:=hid (HT3.out.trans hR)
  clear hG hR
  refine hK3 _ _ ?_
  clear hK3 hK
  refine eB (.tuple #[.int .i64 (q.1:Int),.int .i64 (q.2:Int),.bool true]) rfl rfl (fun w=>by go_simp) (by go_frame;rfl) ?_
  refine eB (.int .i64 (q.1:Int)) rfl rfl (fun w=>by go_simp) (by go_frame;rfl) ?_
  refine eB (.int .i64 (q.2:Int)) rfl rfl (fun w=>by go_simp) (by go_frame;rfl) ?_
  refine eB (.bool true) rfl rfl (fun w=>by go_simp) (by go_frame;rfl) ?_
  refine eB (.int .i64 (q.1:Int)) rfl rfl (fun w=>by go_simp) (by go_frame;rfl) ?_
  refine eB (.int .i64 (q.2:Int)) rfl rfl (fun w=>by go_simp) (by go_frame;rfl) ?_
  refine eB (.bool true) rfl rfl (fun w=>by go_simp) (by go_frame;rfl) ?_
  refine zu ?_
  go_wp2_with fail
  go_ret3
  exact⟨rfl,HG4.out.to rfl (by show s.m+3+1*Fv c o=s.m+(3+Fv c o);omega),HT4.out⟩
end
section
variable {p:Pl} {c:Cf} {s:St} {pool:List Nat} {os:List Ob} {o:Ob} {r:Int} {w:World}
theorem Pv{c:Cf}{zs:List Int}(H:ah c zs pool os)(hm:c.May)(hr:In64 r):pG (mH c zs (prev r))=(dJ os r).isSome:=by
 cases h:dJ os r with
 |none=>exact Co (nQ H hm hr h)
 |some o=>
  obtain⟨ho,rfl⟩:=jK h
  have hA:=H.obs o ho
  rw[uI hm hA.hlt,oQ hm hA.hlt]
  exact yK hA.head
theorem vU(hG:G w p c s)(r:Int):Calls Tryz.prog 49 #[.pointer (some ⟨p.a,0,none⟩),.int .i64 r] w (GP w p c ⟨s.zs,s.m+1*dF (aB c (prev r) 0)⟩ (.bool (pG (mH c s.zs (prev r))))):=by
 have hmf:∀(fn:Fn) (first cap:Array Value) (w:World),(Instr.makeFunc fn first cap).run Tryz.prog w=.ok (.func fn first cap) w:=fun _ _ _ _=>rfl
 have H:=hid (su (wh p c) s (prev r) _ w hG rfl)
 have e1:wrap64 (r-1)=prev r:=rfl
 have HG:=hid hG
 generalize pG (mH c s.zs (prev r))=hb at*
 clear hG
 go_enter Tryz.func49,Tryz.ntmps49
 have HT0:Hid (Touch (inG p) w w):=hid (Touch.refl _ _)
 go_wp2_with fail
 refine(H.out).mono ?_
 rintro e wm1 ⟨rfl,hG,hT⟩
 have HG1:=hid hG
 have HT1:Hid (Touch (inG p) _ wm1):=hid (HT0.out.trans hT)
 clear hG hT
 go_wp2_with fail
 go_ret
 exact⟨rfl,HG1.out,HT1.out⟩
theorem nR(hG:G w p c s)(H:ah c s.zs pool os)(ho:o∈os):Calls Tryz.prog 110 #[.pointer (some ⟨p.a,0,none⟩),.int .i64 ((o.h:Int)+1)] w (GP w p c ⟨s.zs,s.m+3⟩ (.tuple #[.int .i64 (o.np:Int),.int .i64 (o.nd:Int),.int .i64 0])):=by
 have hmf:∀(fn:Fn) (first cap:Array Value) (w:World),(Instr.makeFunc fn first cap).run Tryz.prog w=.ok (.func fn first cap) w:=fun _ _ _ _=>rfl
 have HL:=hid (iJ hG H ho)
 have HG:=hid hG
 have e1:=bR hG.may (H.obs o ho).hlt
 clear hG H ho
 go_enter Tryz.func110,Tryz.ntmps110
 have HT0:Hid (Touch (inG p) w w):=hid (Touch.refl _ _)
 go_wp2_with fail
 refine(HL.out).mono ?_
 rintro e wm1 ⟨rfl,hG,hT⟩
 have HG1:=hid hG
 have HT1:Hid (Touch (inG p) _ wm1):=hid (HT0.out.trans hT)
 clear hG hT
 have HG2:=hid (HG1.out.alloc (.cells #[.int .i64 (o.np:Int),.int .i64 (o.nd:Int)] 113))
 have BN2:=hid (Blk.new wm1 #[.int .i64 (o.np:Int),.int .i64 (o.nd:Int)] 113)
 have HT2:Hid (Touch (inG p) w (wm1.alloc (.cells #[.int .i64 (o.np:Int),.int .i64 (o.nd:Int)] 113))):=hid (HT1.out.alloc _)
 go_wp2_with fail
 generalize wm1.heap.size=n at*
 generalize wm1.alloc (.cells #[.int .i64 (o.np:Int),.int .i64 (o.nd:Int)] 113)=v1 at*
 have c0:v1.cell? ⟨n,0,none⟩=some (.int .i64 (o.np:Int)):=BN2.out.cell 0 rfl
 have c1:v1.cell? ⟨n,1,none⟩=some (.int .i64 (o.nd:Int)):=BN2.out.cell 1 rfl
 go_quiet (fail)
 go_wp2_with fail
 go_ret3
 exact⟨rfl,HG2.out.drw ⟨_,rfl⟩,HT2.out.drewN _⟩
theorem Fj(hG:G w p c s)(H:ah c s.zs pool os)(hr:In64 r)(ho:dJ os r=none):Calls Tryz.prog 110 #[.pointer (some ⟨p.a,0,none⟩),.int .i64 r] w (GP w p c ⟨s.zs,s.m+dF (aB c (prev r) 0)⟩ (.tuple #[.int .i64 0,.int .i64 0,.int .i64 8])):=by
 have hmf:∀(fn:Fn) (first cap:Array Value) (w:World),(Instr.makeFunc fn first cap).run Tryz.prog w=.ok (.func fn first cap) w:=fun _ _ _ _=>rfl
 have HL:=hid (oM hG H hr ho)
 have HG:=hid hG
 have e1:wrap64 (r-1)=prev r:=rfl
 clear hG H ho hr
 go_enter Tryz.func110,Tryz.ntmps110
 have HT0:Hid (Touch (inG p) w w):=hid (Touch.refl _ _)
 go_wp2_with fail
 refine(HL.out).mono ?_
 rintro e wm1 ⟨rfl,hG,hT⟩
 have HG1:=hid hG
 have HT1:Hid (Touch (inG p) _ wm1):=hid (HT0.out.trans hT)
 clear hG hT
 go_wp2_with fail
 go_ret3
 exact⟨rfl,HG1.out.alloc _,HT1.out.alloc _⟩
theorem qa(i E:Int){s':St}(hE:E≠0)(hF:Calls Tryz.prog 132 #[.pointer (some ⟨p.a,0,none⟩),.int .i64 r,.int .i64 0,.int .i64 i] w (GP w p c s' (.tuple #[.int .i64 0,.int .i64 0,.int .i64 E]))):
  Calls Tryz.prog 70 #[.pointer (some ⟨p.a,0,none⟩),.int .i64 r,.int .i64 i] w (GP w p c s' (.tuple #[.int .i64 0,.int .i64 E])):=by
 have HF:=hid hF
 have hne:(E !=0)=true:=by simpa using hE
 clear hF hE
 go_enter Tryz.func70,Tryz.ntmps70
 go_wp2_with fail
 refine HF.out.mono ?_
 rintro e w1 ⟨rfl,hG,hT⟩
 have HG:=hid hG
 have HT:=hid hT
 clear hG hT
 go_wp2_with fail
 go_ret2
 exact⟨rfl,HG.out,HT.out⟩
theorem IW(i:Int){s':St}(b v:Nat)(y:Int)(hb:b<c.N)(hv:v<c.W)(hy:nth s'.zs (adr c b v)=y)(h0:0≤y)(h1:y≤4294967295)(hF:Calls Tryz.prog 132 #[.pointer (some ⟨p.a,0,none⟩),.int .i64 r,.int .i64 0,.int .i64 i] w (GP w p c s' (.tuple #[.int .i64 (b:Int),.int .i64 (v:Int),.int .i64 0]))):
  Calls Tryz.prog 70 #[.pointer (some ⟨p.a,0,none⟩),.int .i64 r,.int .i64 i] w (GP w p c ⟨s'.zs,s'.m+1⟩ (.tuple #[.int .i64 y,.int .i64 0])):=by
 have HF:=hid hF
 have HY:=hid hy
 have HB:=hid hb
 have HV:=hid hv
 have hwr:IntKind.i64.wrap y=y:=IntWalk.i64_in _ (by omega)
 clear hF hy hb hv
 go_enter Tryz.func70,Tryz.ntmps70
 go_wp2_with fail
 refine HF.out.mono ?_
 rintro e w1 ⟨rfl,hG,hT⟩
 have HG:=hid hG
 have HT:=hid hT
 clear hG hT
 go_wp2_with fail
 refine(fq p c _ b v _ _ y _ HG.out HB.out HV.out rfl rfl HY.out).mono ?_
 rintro e w2 ⟨rfl,hG,hT⟩
 have HG2:=hid hG
 have HT2:=hid (HT.out.trans hT)
 clear hG hT
 go_wp2_with fail
 go_ret2
 exact⟨rfl,HG2.out,HT2.out⟩
theorem Ah(i:Int){s':St}(b v:Nat)(x:Int)(hm:c.May)(hb:b<c.N)(hv:v<c.W)(h0:0≤x)(h1:x≤(c.N:Int))(hF:Calls Tryz.prog 132 #[.pointer (some ⟨p.a,0,none⟩),.int .i64 r,.int .i64 0,.int .i64 i] w (GP w p c s' (.tuple #[.int .i64 (b:Int),.int .i64 (v:Int),.int .i64 0]))):
  Calls Tryz.prog 71 #[.pointer (some ⟨p.a,0,none⟩),.int .i64 r,.int .i64 i,.int .i64 x] w (GP w p c ⟨s'.zs.set (adr c b v) x,s'.m+1⟩ (.int .i64 0)):=by
 have hN:=hm.n
 have HF:=hid hF
 have HB:=hid hb
 have HV:=hid hv
 have h2:x≤4294967295:=by omega
 have hwr:IntKind.u32.wrap x=x:=by rw[IntKind.wrap_u32];omega
 have hfd:=bW (c.N:Int) (c.W:Int) (c.R:Int) (c.K:Int)
 have hlt:¬x<0:=by omega
 have hgt:¬(c.N:Int)<x:=by omega
 clear hF hb hv hN
 go_enter Tryz.func71,Tryz.ntmps71
 have HT0:Hid (Touch (inG p) w w):=hid (Touch.refl _ _)
 go_wp2_with fail
 refine HF.out.mono ?_
 rintro e w1 ⟨rfl,hG,hT⟩
 have HG:=hid hG
 have HT:=hid hT
 clear hG hT
 go_wp2_with fail
 refine(cZ p c _ _ HG.out).mono ?_
 rintro e wm1 ⟨rfl,hb⟩
 have HG1:=hid (HG.out.later hb)
 have HT1:Hid (Touch (inG p) _ wm1):=hid (HT.out.trans (Touch.of_below hb))
 clear hb
 go_wp2_with fail
 refine(aK p c _ b v _ _ x _ HG1.out HB.out HV.out rfl rfl h0 h2).mono ?_
 rintro e w3 ⟨rfl,hG,hT⟩
 have HG3:=hid hG
 have HT3:=hid (HT1.out.trans hT)
 clear hG hT
 go_wp2_with fail
 go_ret
 exact⟨rfl,HG3.out,HT3.out⟩
theorem yz{c:Cf}{zs:List Int}(hA:iU c zs o)(hm:c.May):dM c.W o.np o.nd=0∧bL c.W o.np o.nd=1+(o.lv.length:Int):=by
 have hW:=hm.w
 have h1:=hA.size
 have h2:=hA.lvs
 unfold Ob.f at h1 h2
 rw[Int.natCast_add] at h1 h2
 have hs:dM c.W o.np o.nd=0:=by
  unfold dM
  rw[if_pos (uQ (by omega) (by omega)),if_neg (by omega)]
 refine⟨hs,?_⟩
 unfold bL
 rw[if_pos hs,h2]
set_option maxHeartbeats 1000000 in
theorem kN(hG:G w p c s)(H:ah c s.zs pool os)(ho:o∈os):Calls Tryz.prog 26 #[.pointer (some ⟨p.a,0,none⟩),.int .i64 ((o.h:Int)+1)] w (GP w p c ⟨s.zs,s.m+3⟩ (.int .i64 (1+(o.lv.length:Int)))):=by
 have hmf:∀(fn:Fn) (first cap:Array Value) (w:World),(Instr.makeFunc fn first cap).run Tryz.prog w=.ok (.func fn first cap) w:=fun _ _ _ _=>rfl
 have HL:=hid (iJ hG H ho)
 have HG:=hid hG
 have e1:=bR hG.may (H.obs o ho).hlt
 obtain⟨b1,b2⟩:=yz (H.obs o ho) hG.may
 have HBk:Hid (∀w',Calls Tryz.prog 82 #[.int .i64 (c.W:Int),.int .i64 (o.np:Int),.int .i64 (o.nd:Int)] w' fun e w''=>e=.returned (.tuple #[.int .i64 (1+(o.lv.length:Int)),.int .i64 0])∧Below w'.heap.size w' w''):=hid (fun w'=>by
  have h:=iM c.W o.np o.nd w'
  rw[b1,b2] at h
  exact h)
 have hfd:=jw (c.N:Int) (c.W:Int) (c.R:Int) (c.K:Int)
 generalize 1+(o.lv.length:Int)=B at*
 clear hG H ho b1 b2
 go_enter Tryz.func26,Tryz.ntmps26
 have HT0:Hid (Touch (inG p) w w):=hid (Touch.refl _ _)
 go_wp2_with fail
 refine(HL.out).mono ?_
 rintro e wm1 ⟨rfl,hG,hT⟩
 have HG1:=hid hG
 have HT1:Hid (Touch (inG p) _ wm1):=hid (HT0.out.trans hT)
 clear hG hT
 have HG2:=hid (HG1.out.alloc (.cells #[.int .i64 (o.np:Int),.int .i64 (o.nd:Int)] 113))
 have BN2:=hid (Blk.new wm1 #[.int .i64 (o.np:Int),.int .i64 (o.nd:Int)] 113)
 have HT2:Hid (Touch (inG p) w (wm1.alloc (.cells #[.int .i64 (o.np:Int),.int .i64 (o.nd:Int)] 113))):=hid (HT1.out.alloc _)
 go_wp2_with fail
 generalize wm1.heap.size=n at*
 generalize wm1.alloc (.cells #[.int .i64 (o.np:Int),.int .i64 (o.nd:Int)] 113)=v1 at*
 have cc0:=fun w' (hC:Below v1.heap.size v1 w')=>(show w'.cell? ⟨n,0,none⟩=some (.int .i64 (o.np:Int)) from(BN2.out.later hC).cell 0 rfl)
 have cc1:=fun w' (hC:Below v1.heap.size v1 w')=>(show w'.cell? ⟨n,1,none⟩=some (.int .i64 (o.nd:Int)) from(BN2.out.later hC).cell 1 rfl)
 refine bB [af.is (.pointer (some ⟨p.a,0,none⟩)),af.is (.agg #[.int .i64 (c.N:Int),.int .i64 (c.W:Int),.int .i64 (c.R:Int),.int .i64 (c.K:Int)]),af.is (.int .i64 ((c.W:Int))),af.is (.pointer (some ⟨n,0,none⟩)),af.is (.int .i64 ((o.np:Int))),af.is (.pointer (some ⟨n,1,none⟩)),af.is (.int .i64 ((o.nd:Int))),af.is (.tuple #[.int .i64 B,.int .i64 0]),af.is (.tuple #[.int .i64 B,.int .i64 0]),af.is (.int .i64 B),af.is (.int .i64 0),af.is (.int .i64 B),af.is (.int .i64 0)] (by kernel_rfl) (by kernel_rfl) rfl (by kernel_rfl) (fun ops K2 hops hK=> ?_)
 refine aa (ae rfl) (fun w' hC hd=>aj _ (.inl rfl) rfl) (by go_frame;rfl) (by simp only[List.nil_append,List.cons_append];rfl) ?_
 refine aa (ae rfl) (fun w' hC hd=>aD 20 (.pointer (some ⟨p.a,0,none⟩)) rfl (fun ρ hρ hf e0=>gX (f:=27) (by go_simp) (cZ p c _ w' (HG2.out.later hC)))) (by go_frame;rfl) (by simp only[List.nil_append,List.cons_append];rfl) ?_
 refine aa (ae rfl) (fun w' hC hd=>aD 21 (.agg #[.int .i64 (c.N:Int),.int .i64 (c.W:Int),.int .i64 (c.R:Int),.int .i64 (c.K:Int)]) rfl (fun ρ hρ hf e0=>ay (by have hb0:=hfd;go_simp))) (by go_frame;rfl) (by simp only[List.nil_append,List.cons_append];rfl) ?_
 refine aa (ae rfl) (fun w' hC hd=>aD 5 (.pointer (some ⟨n,0,none⟩)) rfl (fun ρ hρ hf e0=>ay (by go_simp))) (by go_frame;rfl) (by simp only[List.nil_append,List.cons_append];rfl) ?_
 refine aa (ae rfl) (fun w' hC hd=>aD 23 (.pointer (some ⟨n,0,none⟩)) rfl (fun ρ hρ hf e0=>ay (by have hc0:=cc0 w' hC;go_simp))) (by go_frame;rfl) (by simp only[List.nil_append,List.cons_append];rfl) ?_
 refine aa (ae rfl) (fun w' hC hd=>aD 5 (.pointer (some ⟨n,0,none⟩)) rfl (fun ρ hρ hf e0=>ay (by go_simp))) (by go_frame;rfl) (by simp only[List.nil_append,List.cons_append];rfl) ?_
 refine aa (ae rfl) (fun w' hC hd=>aD 25 (.pointer (some ⟨n,1,none⟩)) rfl (fun ρ hρ hf e0=>ay (by have hc0:=cc1 w' hC;go_simp))) (by go_frame;rfl) (by simp only[List.nil_append,List.cons_append];rfl) ?_
 refine aa (ae rfl) (fun w' hC hd=>Ql 22 (.int .i64 ((c.W:Int))) 24 (.int .i64 ((o.np:Int))) 26 (.int .i64 ((o.nd:Int))) rfl rfl rfl (fun ρ hρ hf e0 e1 e2=>gX (f:=82) (by go_simp) (HBk.out w'))) (by go_frame;rfl) (by simp only[List.nil_append,List.cons_append];rfl) ?_
 refine aa (ae rfl) (fun w' hC hd=>aj _ (.inl rfl) rfl) (by go_frame;rfl) (by simp only[List.nil_append,List.cons_append];rfl) ?_
 refine aa (ae rfl) (fun w' hC hd=>aD 19 (.tuple #[.int .i64 B,.int .i64 0]) rfl (fun ρ hρ hf e0=>ay (by go_simp))) (by go_frame;rfl) (by simp only[List.nil_append,List.cons_append];rfl) ?_
 refine aa (ae rfl) (fun w' hC hd=>aD 19 (.tuple #[.int .i64 B,.int .i64 0]) rfl (fun ρ hρ hf e0=>ay (by go_simp))) (by go_frame;rfl) (by simp only[List.nil_append,List.cons_append];rfl) ?_
 refine aa (ae rfl) (fun w' hC hd=>aj _ (.inr rfl) rfl) (by go_frame;rfl) (by simp only[List.nil_append,List.cons_append];rfl) ?_
 refine aa (ae rfl) (fun w' hC hd=>aj _ (.inr rfl) rfl) (by go_frame;rfl) (by simp only[List.nil_append,List.cons_append];rfl) ?_
 refine fJ fun w3 hC3 _=>hK _ _ ?_
 have HG3:=hid (HG2.out.later hC3)
 have HT3:=hid (HT2.out.trans (Touch.of_below (X:=inG p) hC3))
 clear cc0 cc1 hC3 HG2 HT2 BN2 hK
 go_wp2_with fail
 go_ret
 exact⟨rfl,HG3.out,HT3.out⟩
theorem Ai(hG:G w p c s)(H:ah c s.zs pool os)(hr:In64 r)(ho:dJ os r=none):Calls Tryz.prog 26 #[.pointer (some ⟨p.a,0,none⟩),.int .i64 r] w (GP w p c ⟨s.zs,s.m+dF (aB c (prev r) 0)⟩ (.int .i64 0)):=by
 have hmf:∀(fn:Fn) (first cap:Array Value) (w:World),(Instr.makeFunc fn first cap).run Tryz.prog w=.ok (.func fn first cap) w:=fun _ _ _ _=>rfl
 have HL:=hid (oM hG H hr ho)
 have HG:=hid hG
 have e1:wrap64 (r-1)=prev r:=rfl
 clear hG H ho hr
 go_enter Tryz.func26,Tryz.ntmps26
 have HT0:Hid (Touch (inG p) w w):=hid (Touch.refl _ _)
 go_wp2_with fail
 refine(HL.out).mono ?_
 rintro e wm1 ⟨rfl,hG,hT⟩
 have HG1:=hid hG
 have HT1:Hid (Touch (inG p) _ wm1):=hid (HT0.out.trans hT)
 clear hG hT
 go_wp2_with fail
 go_ret
 exact⟨rfl,HG1.out.alloc _,HT1.out.alloc _⟩
theorem KX(hA:iU c s.zs o)(hm:c.May):o.lv.length≤256:=by have:=hA.KW hm;have:=hm.w;omega
set_option maxHeartbeats 1000000 in
theorem CW(j b:Nat)(hG:G w p c s)(H:ah c s.zs pool os)(ho:o∈os)(hj:o.lv[j]? =some (b+1)):
  Calls Tryz.prog 146 #[.pointer (some ⟨p.a,0,none⟩),.int .i64 ((o.h:Int)+1),.int .i64 (j:Int)] w (GP w p c ⟨(aU c b s.zs).set (adr c o.h (8+j)) 0,s.m+(7+ko pool)⟩ (.bool true)):=by
 have hmf:∀(fn:Fn) (first cap:Array Value) (w:World),(Instr.makeFunc fn first cap).run Tryz.prog w=.ok (.func fn first cap) w:=fun _ _ _ _=>rfl
 have hA:=H.obs o ho
 have hm:=hG.may
 have HF:=hid (kN hG H ho)
 have hjl:j<o.lv.length:=(List.getElem?_eq_some_iff.1 hj).1
 have hlW:=hA.KW hm
 have hW:=hm.w
 have hsm:=KX hA hm
 have hge:¬(j:Int)≥(o.lv.length:Int):=by omega
 have hwr:IntKind.i64.wrap (1+(o.lv.length:Int)-1)=(o.lv.length:Int):=by rw[IntWalk.i64_in _ (by omega)];omega
 have hown:=hA.own j hjl
 have hz:o.lv[j]=b+1:=by have:=List.getElem?_eq_getElem hjl;rw[this] at hj;simpa using hj
 rw[hz] at hown
 have e1:=bR hm hA.hlt
 have hbl:b∈o.blocks:=by unfold Ob.blocks;exact List.mem_cons_of_mem _ (Ob.bA.2 (List.mem_of_getElem? hj))
 have hbN:=H.lt ho hbl
 have hbp:=H.kH ho hbl
 have HL:=hid (fun w' hG'=>yT (wh p c) ⟨s.zs,s.m+3⟩ o.h j (b+1) (o.h:Int) (j:Int) w' hG' rfl rfl hA.hlt (by omega) hown)
 simp only[Nat.add_eq_zero_iff,Nat.one_ne_zero,and_false,if_false] at HL
 rw[show(((b+1:Nat):Int)-1)=(b:Int) by omega] at HL
 have hk:uK (nth s.zs (adr c b 0))≠0:=by
  rw[hA.leaf b (List.mem_of_getElem? hj)]
  unfold uK;omega
 have HP:=hid (fun w' hG'=>tO p c ⟨s.zs,s.m+3+1⟩ b pool w' hG' H.pl.ch hbN hbp hk)
 have W8:Hid (8+j<c.W):=hid (by omega)
 have HH:=hid hA.hlt
 clear hz hjl
 generalize o.lv.length=B at*
 clear hG H ho hj hA hlW hW hown hm hbl hbN hbp hk
 go_enter Tryz.func146,Tryz.ntmps146
 go_wp2_with fail
 refine HF.out.mono ?_
 rintro e w1 ⟨rfl,hG,hT⟩
 have HG1:=hid hG
 have HT1:=hid hT
 clear hG hT
 go_wp2_with fail
 refine(HL.out _ HG1.out).mono ?_
 rintro e w2 ⟨rfl,hG,hT⟩
 have HG2:=hid hG
 have HT2:=hid (HT1.out.trans hT)
 clear hG hT
 go_wp2_with fail
 refine(HP.out _ (HG2.out.to rfl (by show s.m+3+1*1=s.m+3+1;omega))).mono ?_
 rintro e w3 ⟨rfl,hG,hT⟩
 have HG3:=hid hG
 have HT3:=hid (HT2.out.trans hT)
 clear hG hT
 go_wp2_with fail
 refine(aK p c _ o.h (8+j) _ _ 0 _ HG3.out HH.out W8.out rfl (by omega) (by omega) (by omega)).mono ?_
 rintro e w4 ⟨rfl,hG,hT⟩
 have HG4:=hid hG
 have HT4:=hid (HT3.out.trans hT)
 clear hG hT
 go_wp2_with fail
 go_ret
 exact⟨rfl,HG4.out.to rfl (by show s.m+3+1+(2+ko pool)+1=s.m+(7+ko pool);omega),HT4.out⟩
theorem Fh(hG:G w p c s)(H:ah c s.zs pool os)(ho:o∈os):Calls Tryz.prog 148 #[.pointer (some ⟨p.a,0,none⟩),.int .i64 ((o.h:Int)+1)] w (GP w p c ⟨aU c o.h s.zs,s.m+(3+ko pool)⟩ (.bool true)):=by
 have hA:=H.obs o ho
 have hm:=hG.may
 have hW:=hm.w
 have h:=vU hG ((o.h:Int)+1)
 rw[Pv H hm (H.vH hm ho),H.dJ ho,uI hm hA.hlt,show aB c (o.h:Int) 0=some (adr c o.h 0) from fQ hA.hlt (v:=0) (by omega)] at h
 have HI:Hid (Calls Tryz.prog 49 #[.pointer (some ⟨p.a,0,none⟩),.int .i64 ((o.h:Int)+1)] w (GP w p c ⟨s.zs,s.m+1⟩ (.bool true))):=hid h
 have e1:=bR hm hA.hlt
 have hhb:o.h∈o.blocks:=by unfold Ob.blocks;simp
 have hk:uK (nth s.zs (adr c o.h 0))≠0:=by have:=hA.head;unfold bF at this;omega
 have HP:=hid (fun w' hG'=>tO p c ⟨s.zs,s.m+1⟩ o.h pool w' hG' H.pl.ch hA.hlt (H.kH ho hhb) hk)
 clear hG H ho h hA hm hW hhb hk
 go_enter Tryz.func148,Tryz.ntmps148
 go_wp2_with fail
 refine HI.out.mono ?_
 rintro e w1 ⟨rfl,hG,hT⟩
 have HG1:=hid hG
 have HT1:=hid hT
 clear hG hT
 go_wp2_with fail
 refine(HP.out _ HG1.out).mono ?_
 rintro e w2 ⟨rfl,hG,hT⟩
 have HG2:=hid hG
 have HT2:=hid (HT1.out.trans hT)
 clear hG hT
 go_wp2_with fail
 go_ret
 exact⟨rfl,HG2.out.to rfl (by show s.m+1+(2+ko pool)=_;omega),HT2.out⟩
end
section
variable {p:Pl} {c:Cf} {s:St} {w:World}
theorem yU(b:Nat)(k o x:Int)(hG:G w p c s)(hb:b<c.N)(hr:dz k 0 0 0 0 0 o=true)(hx:bZ k 0 0 0 0 0 o=x)(h0:0≤x)(h1:x≤4294967295):
  Calls Tryz.prog 129 #[.pointer (some ⟨p.a,0,none⟩),.int .i64 (b:Int),.agg #[.int .i64 k,.int .i64 0,.int .i64 0,.int .i64 0,.int .i64 0,.int .i64 0,.int .i64 o]] w (GP w p c ⟨s.zs.set (adr c b 0) x,s.m+1⟩ (.tuple #[])):=by
 have hW:=hG.may.w
 have W0:Hid (0<c.W):=hid (by omega)
 have HP:Hid (∀w',Calls Tryz.prog 173 #[.agg #[.int .i64 k,.int .i64 0,.int .i64 0,.int .i64 0,.int .i64 0,.int .i64 0,.int .i64 o]] w' fun e w''=>e=.returned (.tuple #[.int .u32 x,.int .i64 0])∧Below w'.heap.size w' w''):=hid (fun w'=>by
  have h:=eY k 0 0 0 0 0 o w' hr
  rw[hx] at h
  exact h)
 have HG0:=hid (hG.alloc (.cells #[.int .i64 k,.int .i64 0,.int .i64 0,.int .i64 0,.int .i64 0,.int .i64 0,.int .i64 o] 144))
 have HT0:Hid (Touch (inG p) w (w.alloc (.cells #[.int .i64 k,.int .i64 0,.int .i64 0,.int .i64 0,.int .i64 0,.int .i64 0,.int .i64 o] 144))):=hid ((Touch.refl _ _).alloc _)
 have HB:=hid hb
 clear hG hr hx hb hW
 go_enter Tryz.func129,Tryz.ntmps129
 go_wp2_with fail
 refine(HP.out _).mono ?_
 rintro e w1 ⟨rfl,hb⟩
 have HG1:=hid (HG0.out.later hb)
 have HT1:=hid (HT0.out.trans (Touch.of_below (X:=inG p) hb))
 clear hb
 go_wp2_with fail
 refine(aK p c _ b 0 _ _ x _ HG1.out HB.out W0.out rfl rfl h0 h1).mono ?_
 rintro e w2 ⟨rfl,hG,hT⟩
 have HG2:=hid hG
 have HT2:=hid (HT1.out.trans hT)
 clear hG hT
 go_wp2_with fail
 go_end0
 exact⟨rfl,HG2.out,HT2.out⟩
def kS(c:Cf)(l pool:List Nat):Nat→Nat
 |0=>0
 |k+1=>kS c l pool k+(takeD (l.drop (k+1)++pool)+c.W)
theorem Fs{w w':World}{base:Nat}{e:TypeId}{size:Nat}{v:Value}{n:Nat}{xs:List Value}{X:Nat→Prop}(h:w.ownsRow base e size v n xs)(t:Touch X w w')(hX:∀k,X k→k<base):w'.ownsRow base e size v n xs:=by
 refine⟨h.1,?_⟩
 rcases h.2 with hn|⟨g,cap,cur,rfl,hbg,hgg,rest⟩
 ·exact .inl hn
 ·exact .inr ⟨g,cap,cur,rfl,hbg,(t.block g (lt_of_block hgg) (fun hx=>by have:=hX g hx;omega)).trans hgg,rest⟩
theorem nJ{w w':World}{base:Nat}{row:Option Nat}{o:Obj}(h:(w.alloc o).grownBy w' row)(hr:∀k,row=some k→base≤k)(hb:base≤w.heap.size):Touch (fun i=>base≤i) w w':=
 ⟨h.os,h.tape,h.output,by have:=h.size;simp at this;omega,fun k hk hx=>(h.block k (by simp;omega) (fun e=>hx (hr k e.symm))).trans (Below.heap_alloc _ _ _ hk)⟩
theorem Touch.Qq{X:Nat→Prop}{a b c:World}(h:Touch X a b)(k:Touch (fun i=>a.heap.size≤i) b c):Touch X a c:=
 ⟨k.os.trans h.os,k.tape.trans h.tape,k.output.trans h.output,Nat.le_trans h.size k.size,fun i hi hx=>(k.block i (Nat.lt_of_lt_of_le hi h.size) (fun e=>by have e2:a.heap.size≤i:=e;omega)).trans (h.block i hi hx)⟩
theorem lu{w:World}{base:Nat}{e:TypeId}{size:Nat}{v:Value}{n:Nat}{xs:List Value}(h:w.ownsRow base e size v n xs):∃a cap,v=.slice a n cap:=by
 rcases h.2 with⟨rfl,rfl⟩|⟨g,cap,cur,rfl,_⟩
 ·exact⟨none,0,rfl⟩
 ·exact⟨_,cap,rfl⟩
theorem Lj{w:World}{base:Nat}{e:TypeId}{v:Value}{zs:List Int}(h:w.ownsRow base e 1 v zs.length (zs.map (Value.int .i64)))(hl:0<zs.length):
  ∃g cap,v=.slice (some ⟨g,0,none⟩) zs.length cap∧zs.length≤cap∧cap≤maxLen∧base≤g∧Row w .i64 (some ⟨g,0,none⟩) zs:=by
 obtain⟨a,cap,hv,hr⟩:=Row.kI h
 rcases h.2 with⟨h1,h2⟩|⟨g,cap',cur,h1,hb,hg,h3,h4,_⟩
 ·omega
 ·subst h1
  cases hv
  exact⟨g,_,rfl,h3,h4,hb,hr⟩
theorem IE{l:List Nat}{k:Nat}(hk:k<l.length):(ints l).take (k+1)=(ints l).take k++[(l[k]:Int)]:=by
 unfold ints
 rw[List.take_succ_eq_append_getElem (by simpa using hk),List.getElem_map]
def Taken(w:World)(p:Pl)(c:Cf)(s:St)(l:List Nat)(D:Nat)(e:Ending)(w':World):Prop:=
 ∃g cap,e=.returned (.tuple #[.slice (some ⟨g,0,none⟩) l.length cap,.bool true])∧l.length≤cap∧cap≤maxLen∧w.heap.size≤g∧Row w' .i64 (some ⟨g,0,none⟩) (ints l)∧G w' p c ⟨dL c l s.zs,s.m+D⟩∧Touch (inG p) w w'
theorem Md{c:Cf}{zs:List Int}{l pool:List Nat}(hP:bK c zs (l++pool))(hm:c.May)(hz:zs.length=c.size)(hn:l.Nodup)(k:Nat):bK c (dL c (l.take k) zs) (l.drop k++pool):=by
 have e:l++pool=l.take k++(l.drop k++pool):=by rw[←List.append_assoc,List.take_append_drop]
 rw[e] at hP
 exact(bK.taken (l.take k) hP hm hz (List.Sublist.nodup (List.take_sublist k l) hn)).1
set_option maxHeartbeats 4000000 in
theorem NA(l pool:List Nat)(n:Int)(hn:n=(l.length:Int))(hG:G w p c s)(hP:bK c s.zs (l++pool))(hnd:l.Nodup)(h0:0<l.length):
  Calls Tryz.prog 127 #[.pointer (some ⟨p.a,0,none⟩),.int .i64 n] w (Taken w p c s l (kS c l pool l.length)):=by
 subst hn
 obtain⟨i0,hi,hz0,hz1,hz2⟩:=info_parts (show(Tryz.prog.info? 3).map (fun i=>(i.zero,i.size,i.bytes))=some (some (.int .i64 0),1,8) by kernel_rfl)
 have hm:=hG.may
 have hN:=hm.n
 have hlk:l.length≤c.N:=dX hnd (fun b hb=>hP.ch.lt b (List.mem_append_left _ hb))
 have HP:=hid (Md hP hm hG.len hnd)
 have HG:=hid hG
 have HIN:Hid (∀k,jf p k→k<w.heap.size):=hid (fun k hk=>hG.dW hk)
 clear hP hnd hm
 go_enter Tryz.func127,Tryz.ntmps127
 go_wp2_with fail
 go_loopw [6,10] (fun v i wr=>∃k:Nat,k≤l.length∧i=.int .i64 (k:Int)∧G wr p c ⟨dL c (l.take k) s.zs,s.m+kS c l pool k⟩∧wr.ownsRow w.heap.size 3 1 v k (((ints l).take k).map (Value.int .i64))∧Touch (inG p) w wr) (fun _ i _=>l.length-(intOf i).toNat)
 case atStart=>
  refine⟨0,Nat.zero_le _,rfl,HG.out,?_,Touch.refl _ _⟩
  exact World.ownsRow_nil _ _ _ _
 case round=>
  obtain⟨k,hk,rfl,hG,hown,hT⟩:=hrel
  obtain⟨a,cap,rfl⟩:=lu hown
  have HG1:=hid hG
  have HO1:=hid hown
  have HT1:=hid hT
  clear hG hown hT HG
  by_cases hlt:k<l.length
  ·have hC:aR c (dL c (l.take k) s.zs) 0 (l[k]::(l.drop (k+1)++pool)):=by
    have:=(HP.out k).ch
    rw[List.drop_eq_getElem_cons hlt] at this
    exact this
   have HTk:=hid (IE hlt)
   have HTz:Hid (dL c (l.take (k+1)) s.zs=bS c l[k] (dL c (l.take k) s.zs)):=hid (by
    rw[List.take_succ_eq_append_getElem hlt,DV])
   have HC:=hid hC
   clear hC
   generalize l[k]=b at*
   go_wp2_with fail
   refine(Da p c _ b _ _ HG1.out HC.out).mono ?_
   rintro e w2 ⟨rfl,hG,hT⟩
   have hown:=Fs HO1.out hT (fun k hk=>HIN.out k (Or.inr hk))
   have hsz:w.heap.size≤w2.heap.size:=Nat.le_trans HT1.out.size hT.size
   have HT2:=hid (HT1.out.trans hT)
   have HG2:Hid (G w2 p c ⟨dL c (l.take (k+1)) s.zs,s.m+kS c l pool (k+1)⟩):=hid (hG.to HTz.out.symm (by show s.m+kS c l pool k+(takeD (l.drop (k+1)++pool)+c.W)=s.m+(kS c l pool k+(takeD (l.drop (k+1)++pool)+c.W));omega))
   clear hG hT HG1
   go_wp2_with (at_builtin;refine wpList_append_own _ rfl _ _ 45 rfl w.heap.size 3 i0 (.int .i64 0) 1 8 Tryz.underlying45 hi hz0 hz1 hz2 rfl (by decide) _ _ _ rfl (hown.alloc _) ⟨w2.heap.size,0,none⟩ 1 1 [.int .i64 (b:Int)] rfl rfl ?c1 ?c2 ?c3 ?c4 ?c5 ?c6)
   case c1=>exact cell_one_new w2 _ _
   case c2=>intro u hu;simp at hu;subst hu;rfl
   case c3=>unfold maxLen;omega
   case c4=>omega
   case c5=>simp;omega
   case c6=>
    intro v' w4 hown' hgrow _
    have HX:Hid (Touch (fun i=>w.heap.size≤i) w2 w4):=hid (nJ hgrow (bf hown) hsz)
    have HO4:Hid (w4.ownsRow w.heap.size 3 1 v' (k+1) (((ints l).take (k+1)).map (Value.int .i64))):=hid (by
     rw[HTk.out]
     simpa using hown')
    have HG4:Hid (G w4 p c ⟨dL c (l.take (k+1)) s.zs,s.m+kS c l pool (k+1)⟩):=hid (HG2.out.touch HX.out (fun i hi hx=>by have h1:w.heap.size≤i:=hx;have:=HIN.out i hi;omega))
    have HT4:Hid (Touch (inG p) w w4):=hid (HT2.out.Qq HX.out)
    clear hown' hgrow hown hsz
    go_wp2_with fail
    go_roundw
    case rel=>exact⟨k+1,by omega,rfl,HG4.out,HO4.out,HT4.out⟩
    case measure=>simp[intOf];omega
  ·have he:k=l.length:=by omega
   subst he
   have h1:=HO1.out
   rw[←ints_length l,List.take_length] at h1
   obtain⟨g,cap',hv,q1,q2,q3,q4⟩:=Lj h1 (by rw[ints_length];exact h0)
   rw[ints_length] at hv q1 h1
   cases hv
   have HG2:Hid (G wr p c ⟨dL c l s.zs,s.m+kS c l pool l.length⟩):=hid (by have:=HG1.out;rw[List.take_length] at this;exact this)
   have Q4:=hid q4
   clear h1 q4 HG1 HO1
   go_wp2_with fail
   go_ret2
   exact⟨g,_,rfl,q1,q2,q3,Q4.out,HG2.out,HT1.out⟩
theorem KU(a b:Value)(w:World):(Instr.index 113 (.agg #[a,b]) (.int .i64 0)).run Tryz.prog w=.ok a w:=by kernel_rfl
theorem KV(a b:Value)(w:World):(Instr.index 113 (.agg #[a,b]) (.int .i64 1)).run Tryz.prog w=.ok b w:=by kernel_rfl
def vM(ls:List Nat):Int:=if ls.length=0 then 1 else 2
theorem Cu(ls:List Nat):dz (vM ls) 0 0 0 0 0 0=true∧bZ (vM ls) 0 0 0 0 0 0=kindOf ls∧0≤kindOf ls∧kindOf ls≤4294967295:=by
 unfold vM kindOf
 by_cases h:ls.length=0
 ·simp only[if_pos h];decide
 ·simp only[if_neg h];decide
set_option maxHeartbeats 4000000 in
theorem Fq(h:Nat)(np nd:Nat)(ls:List Nat)(g off cap:Nat)(hG:G w p c s)(hh:h<c.N)(h1:np≤1000000)(h2:nd≤1000000)(hr:Row w .i64 (some ⟨g,off,none⟩) (ints ls))(hg:¬inG p g)(hl:8+ls.length≤c.W)(hb:∀b,b∈ls→b<c.N):
  Calls Tryz.prog 128 #[.pointer (some ⟨p.a,0,none⟩),.int .i64 (h:Int),.agg #[.int .i64 (np:Int),.int .i64 (nd:Int)],.slice (some ⟨g,off,none⟩) ls.length cap] w
   (GP w p c ⟨gH c h ls ls.length (gG c h (kindOf ls) np nd s.zs),s.m+(3+ls.length)⟩ (.tuple #[])):=by
 have hW:=hG.may.w
 have hN:=hG.may.n
 obtain⟨k1,k2,k3,k4⟩:=Cu ls
 have W1:Hid (1<c.W):=hid (by omega)
 have W2:Hid (2<c.W):=hid (by omega)
 have HTg:Hid (∀w' s',G w' p c s'→Calls Tryz.prog 129 #[.pointer (some ⟨p.a,0,none⟩),.int .i64 (h:Int),.agg #[.int .i64 (vM ls),.int .i64 0,.int .i64 0,.int .i64 0,.int .i64 0,.int .i64 0,.int .i64 0]] w' (GP w' p c ⟨s'.zs.set (adr c h 0) (kindOf ls),s'.m+1⟩ (.tuple #[]))):=hid (fun w' s' hG'=>yU h _ _ _ hG' hh k1 k2 k3 k4)
 have u1:IntKind.u32.wrap (np:Int)=(np:Int):=IntWalk.u32_in _ (by omega)
 have u2:IntKind.u32.wrap (nd:Int)=(nd:Int):=IntWalk.u32_in _ (by omega)
 have HG0:=hid (hG.alloc (.cells #[.int .i64 (np:Int),.int .i64 (nd:Int)] 113))
 have BB0:=hid (Blk.new w #[.int .i64 (np:Int),.int .i64 (nd:Int)] 113)
 have HT0:Hid (Touch (inG p) w (w.alloc (.cells #[.int .i64 (np:Int),.int .i64 (nd:Int)] 113))):=hid ((Touch.refl _ _).alloc _)
 have NB:Hid (¬inG p w.heap.size):=hid (uH hG)
 have HR0:=hid (hr.alloc (.cells #[.int .i64 (np:Int),.int .i64 (nd:Int)] 113))
 have HO:Hid (iW (inG p) (some ⟨g,off,none⟩) (ints ls)):=hid (fun _ b off' e hx=>by cases e;exact hg hx)
 have HH:=hid hh
 have HBd:=hid hb
 have HL8:=hid hl
 have hkd:ls.length=0∧vM ls=1∨0<ls.length∧vM ls=2:=by unfold vM;by_cases e:ls.length=0<;>simp[e];omega
 have HKd:=hid hkd
 have hlb:ls.length≤256:=by omega
 have hgl:Hid (0<ls.length→g<w.heap.size):=hid (fun h0=>by obtain⟨b,o,e,hlt,_⟩:=hr 0 (by rw[ints_length];exact h0);cases e;exact hlt)
 have hx0:=fun w':World=>KU (.int .i64 (np:Int)) (.int .i64 (nd:Int)) w'
 have hx1:=fun w':World=>KV (.int .i64 (np:Int)) (.int .i64 (nd:Int)) w'
 clear hG hr k1 k2 k3 k4 hh hb hl hkd hg
 go_enter Tryz.func128,Tryz.ntmps128
 rcases HKd.out with⟨hl0,hkv⟩|⟨hl0,hkv⟩
 all_goals
  rw[hkv] at HTg
  clear hkv HKd
  generalize hls:kindOf ls=kd at*
  go_wp2_with fail
  refine(HTg.out _ _ HG0.out).mono ?_
  rintro e w1 ⟨rfl,hG,hT⟩
  have HG1:=hid hG
  have HT1:=hid (HT0.out.trans hT)
  have BB1:=hid (BB0.out.touch hT NB.out)
  have HR1:=hid (HR0.out.touch hT HO.out)
  clear hG hT HG0 HT0 BB0 HR0
  have c0:=BB1.out.cell 0 rfl
  have c1:=BB1.out.cell 1 rfl
  go_wp2_with fail
  refine wp_loop_rounds 3 ?_
  rw[rounds_succ]
  go_wp2_with fail
  refine(aK p c _ h 1 _ _ (np:Int) _ HG1.out HH.out W1.out rfl rfl (by omega) (by omega)).mono ?_
  rintro e w2 ⟨rfl,hG,hT⟩
  have HG2:=hid hG
  have HT2:=hid (HT1.out.trans hT)
  have HR2:=hid (HR1.out.touch hT HO.out)
  clear hG hT HG1 HT1 BB1 HR1 c0 c1
  go_wp2_with fail
  rw[rounds_succ]
  go_wp2_with fail
  refine(aK p c _ h 2 _ _ (nd:Int) _ HG2.out HH.out W2.out rfl rfl (by omega) (by omega)).mono ?_
  rintro e w3 ⟨rfl,hG,hT⟩
  have HG3:Hid (G w3 p c ⟨gH c h ls 0 (gG c h kd np nd s.zs),s.m+(3+0)⟩):=hid (hG.to rfl rfl)
  have HT3:=hid (HT2.out.trans hT)
  have HR3:=hid (HR2.out.touch hT HO.out)
  clear hG hT HG2 HT2 HR2
  go_wp2_with fail
  rw[rounds_succ]
  go_wp2_with fail
 ·have HE:Hid (G w3 p c ⟨gH c h ls ls.length (gG c h kd np nd s.zs),s.m+(3+ls.length)⟩):=hid (by rw[hl0];exact HG3.out)
  refine wp_loop_rounds 1 ?_
  rw[rounds_succ]
  go_wp2_with fail
  go_end0
  exact⟨rfl,HE.out,HT3.out⟩
 ·go_loopw [36] (fun i wr=>∃k:Nat,k≤ls.length∧i=.int .i64 (k:Int)∧G wr p c ⟨gH c h ls k (gG c h kd np nd s.zs),s.m+(3+k)⟩∧Row wr .i64 (some ⟨g,off,none⟩) (ints ls)∧Touch (inG p) w wr) (fun i _=>ls.length-(intOf i).toNat)
  case atStart=>exact⟨0,Nat.zero_le _,rfl,HG3.out,HR3.out,HT3.out⟩
  case round=>
   obtain⟨k,hk,rfl,hG,hR,hT⟩:=hrel
   have HG4:=hid hG
   have HR4:=hid hR
   have HT4:=hid hT
   clear hG hR hT HG3 HR3 HT3
   by_cases hlt:k<ls.length
   ·obtain⟨b0,o0,e0,hlt0,hc0⟩:=HR4.out k (by rw[ints_length];exact hlt)
    cases e0
    rw[nK hlt] at hc0
    have HLb:Hid (ls[k]<c.N):=hid (HBd.out _ (List.getElem_mem hlt))
    have HNx:Hid (gH c h ls (k+1) (gG c h kd np nd s.zs)=(gH c h ls k (gG c h kd np nd s.zs)).set (adr c h (8+k)) ((ls[k]:Int)+1)):=hid (by
     show(gH c h ls k (gG c h kd np nd s.zs)).set (adr c h (8+k)) (((ls.getD k 0:Nat):Int)+1)=_
     simp[List.getD,hlt])
    generalize ls[k]=b at*
    have hbN:=HLb.out
    have hkW:Hid (8+k<c.W):=hid (by have:=HL8.out;omega)
    have v1:IntKind.i64.wrap ((b:Int)+1)=(b:Int)+1:=IntWalk.i64_in _ (by omega)
    have v2:IntKind.u32.wrap ((b:Int)+1)=(b:Int)+1:=IntWalk.u32_in _ (by omega)
    have v3:IntKind.i64.wrap (8+(k:Int))=8+(k:Int):=IntWalk.i64_in _ (by omega)
    go_wp2_with fail
    refine(aK p c _ h (8+k) _ (8+(k:Int)) ((b:Int)+1) _ HG4.out HH.out hkW.out rfl (by omega) (by omega) (by omega)).mono ?_
    rintro e w5 ⟨rfl,hG,hT⟩
    have HG5:Hid (G w5 p c ⟨gH c h ls (k+1) (gG c h kd np nd s.zs),s.m+(3+(k+1))⟩):=hid (by
     rw[HNx.out];exact hG.to rfl rfl)
    have HT5:=hid (HT4.out.trans hT)
    have HR5:=hid (HR4.out.touch hT HO.out)
    clear hG hT
    go_wp2_with fail
    go_roundw
    case rel=>exact⟨k+1,by omega,rfl,HG5.out,HR5.out,HT5.out⟩
    case measure=>simp[intOf];omega
   ·have he:k=ls.length:=by omega
    subst he
    go_wp2_with fail
    go_end0
    exact⟨rfl,HG4.out,HT4.out⟩
def CF(c:Cf)(ls pool:List Nat)(h:Nat):Nat:=1+kS c (h::ls) pool (h::ls).length+(3+ls.length)+ls.length
theorem ES{c:Cf}(hm:c.May){h:Nat}(hh:h<c.N):dz 3 0 0 0 0 0 (h:Int)=true∧bZ 3 0 0 0 0 0 (h:Int)=3+256*(h:Int)∧0≤3+256*(h:Int)∧3+256*(h:Int)≤4294967295:=by
 have:=hm.n
 refine⟨?_,?_,by omega,by omega⟩
 ·rw[jc];unfold bY;omega
 ·unfold bZ;omega
set_option maxHeartbeats 1500000 in
theorem CU(u:Nat)(np nd:Nat)(ls pool:List Nat)(os:List Ob)(hG:G w p c s)(H:ah c s.zs (u::ls++pool) os)(he:dM c.W np nd=0)(hbl:(1+ls.length:Int)=bL c.W np nd):
  Calls Tryz.prog 68 #[.pointer (some ⟨p.a,0,none⟩),.int .i64 (np:Int),.int .i64 (nd:Int)] w (GP w p c ⟨vO c u ls np nd s.zs,s.m+CF c ls pool u⟩ (.tuple #[.int .i64 ((u:Int)+1),.int .i64 0])):=by
 have hm:=hG.may
 have hN:=hm.n
 have hW:=hm.w
 obtain⟨q0,q1,q2,q3,q4⟩:=rq he
 have hlv:(ls.length:Int)=cB c.W (np+nd):=by unfold bL at hbl;rw[if_pos he] at hbl;omega
 have hL:=lg q0 q1 q4
 have hfi:fieldsI c.W≤63240:=by
  unfold fieldsI
  have a1:(0:Int)≤(c.W:Int)-8:=by omega
  have a2:(c.W:Int)-8≤248:=by omega
  have a3:(c.W:Int)-1≤255:=by omega
  have a4:(0:Int)≤(c.W:Int)-1:=by omega
  have:=Int.mul_le_mul a2 a3 a4 (by omega:(0:Int)≤248)
  omega
 have hnd:(u::ls).Nodup:=by
  have:=H.nodup
  rw[List.nodup_append] at this
  exact(List.nodup_append.1 this.1).1
 have hlt:∀b,b∈u::ls→b<c.N:=fun b hb=>H.pl.ch.lt b (List.mem_append_left _ hb)
 have hhN:=hlt u (by simp)
 have hbN:∀b,b∈ls→b<c.N:=fun b hb=>hlt b (by simp[hb])
 obtain⟨B,hB⟩:∃B:Int,B=1+(ls.length:Int):=⟨_,rfl⟩
 obtain⟨T,hT⟩:∃T:Int,T=((u::ls++pool).length:Int):=⟨_,rfl⟩
 have hSB:=iM c.W np nd
 rw[←hbl,he,←hB] at hSB
 have HSB:=hid hSB
 have HLen:=hid (fun w' (hG':G w' p c s)=>Fx p c s _ w' hG' H.pl.ch)
 rw[←hT] at HLen
 obtain⟨D,hD⟩:∃D,D=kS c (u::ls) pool (u::ls).length:=⟨_,rfl⟩
 obtain⟨Z,hZ⟩:∃Z,Z=dL c (u::ls) s.zs:=⟨_,rfl⟩
 have hTk:=fun w' (hG':G w' p c ⟨s.zs,s.m+1⟩)=>NA (s:=⟨s.zs,s.m+1⟩) (u::ls) pool B (by rw[hB];simp;omega) hG' H.pl hnd (by simp)
 unfold Taken at hTk
 simp only[←hD,←hZ] at hTk
 have HTk:=hid hTk
 have HE:Hid (jZ c u ls ls.length (gH c u ls ls.length (gG c u (kindOf ls) np nd Z))=vO c u ls np nd s.zs):=hid (by rw[hZ];rfl)
 have HM:Hid (1+D+(3+ls.length)+ls.length=CF c ls pool u):=hid (by rw[hD];rfl)
 clear hTk hD hZ
 obtain⟨r1,r2,r3,r4⟩:=ES hm hhN
 have HHd:Hid (∀(w':World) (s':St) (g off cap n:Nat),n=ls.length→G w' p c s'→Row w' .i64 (some ⟨g,off,none⟩) (ints ls)→¬inG p g→Calls Tryz.prog 128 #[.pointer (some ⟨p.a,0,none⟩),.int .i64 (u:Int),.agg #[.int .i64 (np:Int),.int .i64 (nd:Int)],.slice (some ⟨g,off,none⟩) n cap] w'
   (GP w' p c ⟨gH c u ls ls.length (gG c u (kindOf ls) np nd s'.zs),s'.m+(3+ls.length)⟩ (.tuple #[]))):=hid (fun w' s' g off cap n hn hG' hr hg=>by
  subst hn
  exact Fq (s:=s') u np nd ls g off cap hG' hhN (by omega) (by omega) hr hg (by omega) hbN)
 have HTg:=hid (fun w' s' (b:Nat) (hG':G w' p c s') (hb:b<c.N)=>yU (s:=s') b 3 (u:Int) _ hG' hb r1 r2 r3 r4)
 have HG:=hid hG
 have HIN:Hid (∀k,inG p k→k<w.heap.size):=hid (fun k hk=>hG.dW (Or.inr hk))
 have HBN:=hid hbN
 have hlt2:¬T<B:=by rw[hT,hB];simp;omega
 have hfd:=jw (c.N:Int) (c.W:Int) (c.R:Int) (c.K:Int)
 have HL2:Hid (ls.length≤256):=hid (by omega)
 have hw1:IntKind.i64.wrap ((u:Int)+1)=(u:Int)+1:=IntWalk.i64_in _ (by omega)
 clear hG H he hbl hm q0 q1 q2 q3 q4 hlv hL hfi hnd hlt hhN hbN hSB r1 r2 r3 r4 hW hN hB hT
 go_enter Tryz.func68,Tryz.ntmps68
 have HT0:Hid (Touch (inG p) w w):=hid (Touch.refl _ _)
 go_wp2_with fail
 refine(cZ p c s _ HG.out).mono ?_
 rintro e wm1 ⟨rfl,hb⟩
 have HG1:=hid (HG.out.later hb)
 have HT1:Hid (Touch (inG p) _ wm1):=hid (HT0.out.trans (Touch.of_below hb))
 clear hb
 go_wp2_with fail
 refine(HSB.out _).mono ?_
 rintro e wm2 ⟨rfl,hb⟩
 have HG2:=hid (HG1.out.later hb)
 have HT2:Hid (Touch (inG p) _ wm2):=hid (HT1.out.trans (Touch.of_below hb))
 clear hb
 go_wp2_with fail
 refine(HLen.out _ HG2.out).mono ?_
 rintro e wm3 ⟨rfl,hG,hT⟩
 have HG3:=hid hG
 have HT3:Hid (Touch (inG p) _ wm3):=hid (HT2.out.trans hT)
 clear hG hT
 clear hfd
 go_wp2_with fail
 refine(HTk.out _ HG3.out).mono ?_
 rintro e w4 ⟨g,cap,rfl,q1,q2,q3,q4,hG,hT⟩
 have HG4:=hid hG
 have HT4:=hid (HT3.out.trans hT)
 have hgG:¬inG p g:=fun hx=>by have h1:=HIN.out g hx;have h2:=HT3.out.size;omega
 have HR4:Hid (Row w4 .i64 (some ⟨g,1,none⟩) (ints ls)):=hid (fun i hi=>by
  rw[ints_length] at hi
  obtain⟨b,off,e,hlt,hc⟩:=q4 (i+1) (by rw[ints_length];simp;omega)
  cases e
  refine⟨g,1,rfl,hlt,?_⟩
  rw[show 0+(i+1)=1+i by omega] at hc
  rw[hc,nK (by simp;omega),nK hi]
  simp)
 have hc0:w4.cell? ⟨g,0,none⟩=some (.int .i64 (u:Int)):=by
  obtain⟨b,off,e,hlt,hc⟩:=q4 0 (by rw[ints_length];simp)
  cases e
  rw[show 0+0=0 from rfl] at hc
  rw[hc,nK (by simp)];rfl
 have HO:Hid (iW (inG p) (some ⟨g,1,none⟩) (ints ls)):=hid (fun _ b off' e hx=>by cases e;exact hgG hx)
 have HgG:=hid hgG
 have q5:ls.length+1≤cap:=by simpa using q1
 rw[show(u::ls).length=ls.length+1 from rfl]
 have HGq:=hid (fun n:Nat=>HG4.out.drw ⟨n,rfl⟩)
 have HRq:=hid (fun n:Nat=>HR4.out.drewN n)
 have HTq:=hid (fun n:Nat=>HT4.out.drewN n)
 clear hG hT q4 hgG q1
 by_cases hcap:cap=1
 ·have hl0:ls.length=0:=by omega
  subst hcap
  have HR0:=hid (fun n:Nat=>(show Row (w4.drewN n) .i64 (some ⟨g,0,none⟩) (ints ls) from fun i hi=>absurd hi (by rw[ints_length];omega)))
  go_wp2_with fail
  go_quiet (fail)
  go_wp2_with fail
  refine(HHd.out _ _ g 0 _ _ hl0.symm (HGq.out _) (HR0.out _) HgG.out).mono ?_
  rintro e w5 ⟨rfl,hG,hT⟩
  have HG5:Hid (G w5 p c ⟨vO c u ls np nd s.zs,s.m+CF c ls pool u⟩):=hid (by
   rw[←HE.out,←HM.out]
   rw[hl0] at hG ⊢
   exact hG.to rfl (by show s.m+1+D+(3+0)=_;omega))
  have HT5:=hid ((HTq.out _).trans hT)
  clear hG hT HGq HR0 HTq HG4 HT4 HR4 hc0 hlt2 HLen HTk HSB HHd HE HM
  go_wp2_with fail
  refine wp_loop_rounds 1 ?_
  rw[rounds_succ]
  go_wp2_with fail
  go_ret2
  exact⟨rfl,HG5.out,HT5.out⟩
 have hc1:¬cap-1=0:=by omega
 clear hcap
 go_wp2_with fail
 go_quiet (fail)
 go_wp2_with fail
 refine(HHd.out _ _ g 1 _ _ rfl (HGq.out _) (HRq.out _) HgG.out).mono ?_
 rintro e w5 ⟨rfl,hG,hT⟩
 have HG5:Hid (G w5 p c ⟨jZ c u ls 0 (gH c u ls ls.length (gG c u (kindOf ls) np nd Z)),s.m+(1+D+(3+ls.length)+0)⟩):=hid (hG.to rfl (by show s.m+1+D+(3+ls.length)=_;omega))
 have HT5:=hid ((HTq.out _).trans hT)
 have HR5:=hid ((HRq.out _).touch hT HO.out)
 clear hG hT HGq HRq HTq HG4 HT4 HR4 hc0 hlt2 HLen HTk HSB HHd
 generalize gH c u ls ls.length (gG c u (kindOf ls) np nd Z)=Y at*
 go_wp2_with fail
 go_loopw [54] (fun i wr=>∃k:Nat,k≤ls.length∧i=.int .i64 (k:Int)∧G wr p c ⟨jZ c u ls k Y,s.m+(1+D+(3+ls.length)+k)⟩∧Row wr .i64 (some ⟨g,1,none⟩) (ints ls)∧Touch (inG p) w wr) (fun i _=>ls.length-(intOf i).toNat)
 case atStart=>exact⟨0,Nat.zero_le _,rfl,HG5.out,HR5.out,HT5.out⟩
 case round=>
  obtain⟨k,hk,rfl,hG,hR,hT⟩:=hrel
  have HG6:=hid hG
  have HR6:=hid hR
  have HT6:=hid hT
  clear hG hR hT HG5 HR5 HT5
  by_cases hlt:k<ls.length
  ·obtain⟨b0,o0,e0,hlt0,hc0⟩:=HR6.out k (by rw[ints_length];exact hlt)
   cases e0
   rw[nK hlt] at hc0
   have HLb:Hid (ls[k]<c.N):=hid (HBN.out _ (List.getElem_mem hlt))
   have HNx:Hid (jZ c u ls (k+1) Y=(jZ c u ls k Y).set (adr c ls[k] 0) (3+256*(u:Int))):=hid (by
    show(jZ c u ls k Y).set (adr c (ls.getD k 0) 0) (3+256*(u:Int))=_
    simp[List.getD,hlt])
   generalize ls[k]=b at*
   have HWk:Hid (wrap64 ((k:Int)+1)=((k+1:Nat):Int)):=hid (by have:=HL2.out;exact IntWalk.wrap64_in _ (by omega))
   go_wp2_with fail
   refine(HTg.out _ _ b HG6.out HLb.out).mono ?_
   rintro e w7 ⟨rfl,hG,hT⟩
   have HG7:Hid (G w7 p c ⟨jZ c u ls (k+1) Y,s.m+(1+D+(3+ls.length)+(k+1))⟩):=hid (by
    rw[HNx.out];exact hG.to rfl rfl)
   have HT7:=hid (HT6.out.trans hT)
   have HR7:=hid (HR6.out.touch hT HO.out)
   clear hG hT
   go_wp2_with fail
   go_roundw
   case rel=>exact⟨k+1,by omega,by rw[HWk.out],HG7.out,HR7.out,HT7.out⟩
   case measure=>rw[HWk.out];simp[intOf];omega
  ·have he:k=ls.length:=by omega
   subst he
   go_wp2_with fail
   go_ret2
   exact⟨rfl,by rw[←HE.out,←HM.out];exact HG6.out,HT6.out⟩
end
end Go.Proofs.YtjmifnljckmimaaGreat.Pk
