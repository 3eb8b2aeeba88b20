/-
  Texts laid together: TallyAct, ReapPlF.
-/
import Derived.Test.YtjmifnljckmimaaGreatFloodAlbEtc
import Derived.Test.YtjmifnljckmimaaGreatLinkPlEtc
namespace Go.Proofs.YtjmifnljckmimaaGreat.Pk
open Lib (hid)
open Go.RowKit
set_option linter.unusedVariables false
set_option linter.unusedSimpArgs false
set_option maxRecDepth 100000
section
variable {w wr w':World} {p:Pl} {q lo m k n:Nat} {c:Cf} {D D2 D':Wd} {t u:Th} {r i x y sp sd:Int}
set_option maxHeartbeats 2000000 in
theorem VU(h:nS w p q lo c D D m wr)(hP:Sit c D)(hN:c.N≤1000)(r i x sp sd:Int):
  Calls Tryz.prog 11 #[.pointer (some ⟨p.a,0,none⟩),.pointer (some ⟨q,0,none⟩),.agg #[.int .u8 4,.int .i64 r,.int .i64 i,.int .i64 x,.int .i64 sp,.int .i64 sd]] wr (KZ w p q lo c D.step):=by
 have HBk:=hid (aT.new wr #[.int .u8 4,.int .i64 r,.int .i64 i,.int .i64 x,.int .i64 sp,.int .i64 sd] 33)
 have HNo:=hid h.box
 have HT0:=hid (h.later (below_new wr (.cells #[.int .u8 4,.int .i64 r,.int .i64 i,.int .i64 x,.int .i64 sp,.int .i64 sd] 33)))
 have HWh:=hid (fun wz (hz:qA w p q lo c D D wz)=>hz.world (hz.2.1.stepW (Sit.WV hN) hP))
 have rU:=hid (QP (c:=c) hP.san)
 have n1:=xk (!D.grave.isEmpty)
 clear h hP
 go_enter Tryz.func11,Tryz.ntmps11
 go_wp2_with fail
 generalize wr.alloc (.cells #[.int .u8 4,.int .i64 r,.int .i64 i,.int .i64 x,.int .i64 sp,.int .i64 sd] 33)=w0 at*
 generalize wr.heap.size=n0 at*
 have b0:w0.cell? ⟨n0,0,none⟩=some (.int .u8 4):=HBk.out.cell 0 rfl
 have b1:w0.cell? ⟨n0,1,none⟩=some (.int .i64 r):=HBk.out.cell 1 rfl
 have b2:w0.cell? ⟨n0,2,none⟩=some (.int .i64 i):=HBk.out.cell 2 rfl
 have b3:w0.cell? ⟨n0,3,none⟩=some (.int .i64 x):=HBk.out.cell 3 rfl
 have b4:w0.cell? ⟨n0,4,none⟩=some (.int .i64 sp):=HBk.out.cell 4 rfl
 have b5:w0.cell? ⟨n0,5,none⟩=some (.int .i64 sd):=HBk.out.cell 5 rfl
 refine(HWh.out _ HT0.out.st).mono ?_
 rintro e w1 ⟨rfl,hS,hT⟩
 have H1:=hid hS
 clear hS hT
 go_wp2_with fail
 refine(H1.out.does rU.out).mono ?_
 rintro e w2 ⟨rfl,hS,hT⟩
 have H2:=hid hS
 clear hS hT
 go_wp2_with fail
 go_ret
 exact⟨rfl,H2.out⟩
set_option maxHeartbeats 2000000 in
theorem VV(h:nS w p q lo c D D m wr)(hP:Sit c D)(hN:c.N≤1000)(r i x sp sd:Int):
  Calls Tryz.prog 11 #[.pointer (some ⟨p.a,0,none⟩),.pointer (some ⟨q,0,none⟩),.agg #[.int .u8 5,.int .i64 r,.int .i64 i,.int .i64 x,.int .i64 sp,.int .i64 sd]] wr (KZ w p q lo c (D.iC (c.W*c.W))):=by
 have HBk:=hid (aT.new wr #[.int .u8 5,.int .i64 r,.int .i64 i,.int .i64 x,.int .i64 sp,.int .i64 sd] 33)
 have HNo:=hid h.box
 have HT0:=hid (h.later (below_new wr (.cells #[.int .u8 5,.int .i64 r,.int .i64 i,.int .i64 x,.int .i64 sp,.int .i64 sd] 33)))
 have hE:Ends (c.W*c.W) D:=hP.san.ends (by
  rw[hP.wd.1]
  have:=hP.wd.2.w
  exact Nat.le_trans (by omega) (Nat.mul_le_mul_left c.W (show 1≤c.W by omega)))
 have HWh:=hid (fun wz D1 (hz:qA w p q lo c D1 D wz)=>hz.world (MX hz.2.1 (Sit.WV hN) hP hE))
 have HRl:=hid (fun wz D2 (hz:qA w p q lo c D D2 wz)=>IL hz.1 hP.san)
 have n1:=xk (D.ji (c.W*c.W))
 generalize D.ji (c.W*c.W)=vb at*
 generalize D.iC (c.W*c.W)=DR at*
 clear h hP hE
 go_enter Tryz.func11,Tryz.ntmps11
 go_wp2_with fail
 generalize wr.alloc (.cells #[.int .u8 5,.int .i64 r,.int .i64 i,.int .i64 x,.int .i64 sp,.int .i64 sd] 33)=w0 at*
 generalize wr.heap.size=n0 at*
 have b0:w0.cell? ⟨n0,0,none⟩=some (.int .u8 5):=HBk.out.cell 0 rfl
 have b1:w0.cell? ⟨n0,1,none⟩=some (.int .i64 r):=HBk.out.cell 1 rfl
 have b2:w0.cell? ⟨n0,2,none⟩=some (.int .i64 i):=HBk.out.cell 2 rfl
 have b3:w0.cell? ⟨n0,3,none⟩=some (.int .i64 x):=HBk.out.cell 3 rfl
 have b4:w0.cell? ⟨n0,4,none⟩=some (.int .i64 sp):=HBk.out.cell 4 rfl
 have b5:w0.cell? ⟨n0,5,none⟩=some (.int .i64 sd):=HBk.out.cell 5 rfl
 refine(HRl.out _ _ HT0.out.st).mono ?_
 rintro e w1 ⟨rfl,⟨hS,_⟩,hT⟩
 have H1:Hid (qA w p q lo c DR D w1):=hid ⟨hS,HT0.out.st.2.1.touch hT (fun b hb hx=>HT0.out.st.2.2.1 b hb (Or.inr hx)),HT0.out.st.2.2⟩
 clear hS hT
 go_wp2_with fail
 refine(HWh.out _ _ H1.out).mono ?_
 rintro e w2 ⟨rfl,hS,hT⟩
 have H2:=hid hS
 clear hS hT
 go_wp2_with fail
 go_ret
 exact⟨rfl,H2.out⟩
set_option maxHeartbeats 2000000 in
theorem VS(h:nS w p q lo c D D m wr)(r i x sp sd:Int){v:Bool}{B:Nat}(HP:Does c D 32 [.int .i64 r] B D' (.bool v))(HW:∀wz,bT wz lo q D→Calls Tryz.prog 42 #[.pointer (some ⟨q,0,none⟩),.int .i64 r] wz (dW wz lo q D' (.bool v))):
  Calls Tryz.prog 11 #[.pointer (some ⟨p.a,0,none⟩),.pointer (some ⟨q,0,none⟩),.agg #[.int .u8 2,.int .i64 r,.int .i64 i,.int .i64 x,.int .i64 sp,.int .i64 sd]] wr (KZ w p q lo c D'):=by
 have HBk:=hid (aT.new wr #[.int .u8 2,.int .i64 r,.int .i64 i,.int .i64 x,.int .i64 sp,.int .i64 sd] 33)
 have HNo:=hid h.box
 have HT0:=hid (h.later (below_new wr (.cells #[.int .u8 2,.int .i64 r,.int .i64 i,.int .i64 x,.int .i64 sp,.int .i64 sd] 33)))
 have HPh:=hid HP
 have HWh:=hid (fun wz m' D1 (hz:nS w p q lo c D1 D m' wz)=>hz.world (HW wz hz.2.1))
 have n1:(v==v)=true:=xk v
 clear h HP HW
 go_enter Tryz.func11,Tryz.ntmps11
 go_wp2_with fail
 generalize wr.alloc (.cells #[.int .u8 2,.int .i64 r,.int .i64 i,.int .i64 x,.int .i64 sp,.int .i64 sd] 33)=w0 at*
 generalize wr.heap.size=n0 at*
 have b0:w0.cell? ⟨n0,0,none⟩=some (.int .u8 2):=HBk.out.cell 0 rfl
 have b1:w0.cell? ⟨n0,1,none⟩=some (.int .i64 r):=HBk.out.cell 1 rfl
 have b2:w0.cell? ⟨n0,2,none⟩=some (.int .i64 i):=HBk.out.cell 2 rfl
 have b3:w0.cell? ⟨n0,3,none⟩=some (.int .i64 x):=HBk.out.cell 3 rfl
 have b4:w0.cell? ⟨n0,4,none⟩=some (.int .i64 sp):=HBk.out.cell 4 rfl
 have b5:w0.cell? ⟨n0,5,none⟩=some (.int .i64 sd):=HBk.out.cell 5 rfl
 have HTd:=hid HT0.out.drew
 go_region_with (first|(go_at_call 32;refine(HTd.out.does HPh.out).mono ?_;rintro e w1 ⟨rfl,⟨d,hd,hS⟩,hT⟩;have hk:=HBk.out.drew.touch hT HNo.out;have b0:w1.cell? ⟨n0,0,none⟩=some (.int .u8 2):=hk.cell 0 rfl;have b1:w1.cell? ⟨n0,1,none⟩=some (.int .i64 r):=hk.cell 1 rfl;have b2:w1.cell? ⟨n0,2,none⟩=some (.int .i64 i):=hk.cell 2 rfl;have b3:w1.cell? ⟨n0,3,none⟩=some (.int .i64 x):=hk.cell 3 rfl;have H1:=hid hS;clear hS hd hT hk)|(go_at_call 42;refine(HWh.out _ _ _ H1.out).mono ?_;rintro e w2 ⟨rfl,hS⟩;have H2:=hid hS;clear hS))
 all_goals (go_wp2_with fail)
 all_goals go_ret
 all_goals exact⟨rfl,H2.out.st⟩
set_option maxHeartbeats 2000000 in
theorem VT(h:nS w p q lo c D D m wr)(r i x sp sd:Int){v:Bool}{B:Nat}(HP:Does c D 16 [.int .i64 r] B D' (.bool v))(HW:∀wz,bT wz lo q D→Calls Tryz.prog 43 #[.pointer (some ⟨q,0,none⟩),.int .i64 r] wz (dW wz lo q D' (.bool v))):
  Calls Tryz.prog 11 #[.pointer (some ⟨p.a,0,none⟩),.pointer (some ⟨q,0,none⟩),.agg #[.int .u8 3,.int .i64 r,.int .i64 i,.int .i64 x,.int .i64 sp,.int .i64 sd]] wr (KZ w p q lo c D'):=by
 have HBk:=hid (aT.new wr #[.int .u8 3,.int .i64 r,.int .i64 i,.int .i64 x,.int .i64 sp,.int .i64 sd] 33)
 have HNo:=hid h.box
 have HT0:=hid (h.later (below_new wr (.cells #[.int .u8 3,.int .i64 r,.int .i64 i,.int .i64 x,.int .i64 sp,.int .i64 sd] 33)))
 have HPh:=hid HP
 have HWh:=hid (fun wz m' D1 (hz:nS w p q lo c D1 D m' wz)=>hz.world (HW wz hz.2.1))
 have n1:(v==v)=true:=xk v
 clear h HP HW
 go_enter Tryz.func11,Tryz.ntmps11
 go_wp2_with fail
 generalize wr.alloc (.cells #[.int .u8 3,.int .i64 r,.int .i64 i,.int .i64 x,.int .i64 sp,.int .i64 sd] 33)=w0 at*
 generalize wr.heap.size=n0 at*
 have b0:w0.cell? ⟨n0,0,none⟩=some (.int .u8 3):=HBk.out.cell 0 rfl
 have b1:w0.cell? ⟨n0,1,none⟩=some (.int .i64 r):=HBk.out.cell 1 rfl
 have b2:w0.cell? ⟨n0,2,none⟩=some (.int .i64 i):=HBk.out.cell 2 rfl
 have b3:w0.cell? ⟨n0,3,none⟩=some (.int .i64 x):=HBk.out.cell 3 rfl
 have b4:w0.cell? ⟨n0,4,none⟩=some (.int .i64 sp):=HBk.out.cell 4 rfl
 have b5:w0.cell? ⟨n0,5,none⟩=some (.int .i64 sd):=HBk.out.cell 5 rfl
 have HTd:=hid HT0.out.drew
 go_region_with (first|(go_at_call 16;refine(HTd.out.does HPh.out).mono ?_;rintro e w1 ⟨rfl,⟨d,hd,hS⟩,hT⟩;have hk:=HBk.out.drew.touch hT HNo.out;have b0:w1.cell? ⟨n0,0,none⟩=some (.int .u8 3):=hk.cell 0 rfl;have b1:w1.cell? ⟨n0,1,none⟩=some (.int .i64 r):=hk.cell 1 rfl;have b2:w1.cell? ⟨n0,2,none⟩=some (.int .i64 i):=hk.cell 2 rfl;have b3:w1.cell? ⟨n0,3,none⟩=some (.int .i64 x):=hk.cell 3 rfl;have H1:=hid hS;clear hS hd hT hk)|(go_at_call 43;refine(HWh.out _ _ _ H1.out).mono ?_;rintro e w2 ⟨rfl,hS⟩;have H2:=hid hS;clear hS))
 all_goals (go_wp2_with fail)
 all_goals go_ret
 all_goals exact⟨rfl,H2.out.st⟩
set_option maxHeartbeats 2000000 in
theorem VR(h:nS w p q lo c D D m wr)(r i x sp sd:Int){v:Int}{B:Nat}(HP:Does c D 31 [.int .i64 r,.int .i64 i,.int .i64 x] B D' (.int .i64 v))
  (HF:∀Bd wz lab a,WA.q a=q→az wz lo lab a D→(∀(i:Nat) (t:Th) (x:TA),D.ts[i]? =some t→a.tas[i]? =some x→0<t.pt.length→∀g,x.pa=some ⟨g,0,none⟩→g<Bd)→Calls Tryz.prog 41 #[.pointer (some ⟨q,0,none⟩),.int .i64 r,.int .i64 i,.int .i64 x] wz (lD Bd wz lo a D' (.int .i64 v))):
  Calls Tryz.prog 11 #[.pointer (some ⟨p.a,0,none⟩),.pointer (some ⟨q,0,none⟩),.agg #[.int .u8 1,.int .i64 r,.int .i64 i,.int .i64 x,.int .i64 sp,.int .i64 sd]] wr (KZ w p q lo c D'):=by
 have HBk:=hid (aT.new wr #[.int .u8 1,.int .i64 r,.int .i64 i,.int .i64 x,.int .i64 sp,.int .i64 sd] 33)
 have HNo:=hid h.box
 have HT0:=hid (h.later (below_new wr (.cells #[.int .u8 1,.int .i64 r,.int .i64 i,.int .i64 x,.int .i64 sp,.int .i64 sd] 33)))
 have HPh:=hid HP
 obtain⟨lab,a,ea,hwa⟩:=h.2.1
 have HNx:=hid hwa.Vv
 have HEa:=hid ea
 have HWa:Hid (az (wr.alloc (.cells #[.int .u8 1,.int .i64 r,.int .i64 i,.int .i64 x,.int .i64 sp,.int .i64 sd] 33)) lo lab a D):=hid (hwa.later (below_new wr _))
 have HFh:=hid (fun wz (hw:az wz lo lab a D)=>HF wr.heap.size wz lab a ea hw hwa.WC)
 have HX:Hid (∀b,lo≤b→¬ah p b):=hid (fun b hb hx=>h.2.2.1 b hb (Or.inr hx))
 have n1:(v==v)=true:=beq_self_eq_true v
 clear h HP HF hwa ea
 go_enter Tryz.func11,Tryz.ntmps11
 go_wp2_with fail
 generalize wr.alloc (.cells #[.int .u8 1,.int .i64 r,.int .i64 i,.int .i64 x,.int .i64 sp,.int .i64 sd] 33)=w0 at*
 generalize wr.heap.size=n0 at*
 have b0:w0.cell? ⟨n0,0,none⟩=some (.int .u8 1):=HBk.out.cell 0 rfl
 have b1:w0.cell? ⟨n0,1,none⟩=some (.int .i64 r):=HBk.out.cell 1 rfl
 have b2:w0.cell? ⟨n0,2,none⟩=some (.int .i64 i):=HBk.out.cell 2 rfl
 have b3:w0.cell? ⟨n0,3,none⟩=some (.int .i64 x):=HBk.out.cell 3 rfl
 have b4:w0.cell? ⟨n0,4,none⟩=some (.int .i64 sp):=HBk.out.cell 4 rfl
 have b5:w0.cell? ⟨n0,5,none⟩=some (.int .i64 sd):=HBk.out.cell 5 rfl
 have HTd:=hid HT0.out.drew
 go_region_held3 (fun w'=>w'.cell? ⟨n0,1,none⟩=some (.int .i64 r)∧w'.cell? ⟨n0,2,none⟩=some (.int .i64 i)∧w'.cell? ⟨n0,3,none⟩=some (.int .i64 x)) (first|exact⟨b1,b2,b3⟩|exact⟨d1,d2,d3⟩|exact⟨e1,e2,e3⟩) (first|(go_at_call 31;refine(HTd.out.does HPh.out).mono ?_;rintro e w1 ⟨rfl,⟨d,hd,hS⟩,hT⟩;have hk:=HBk.out.drew.touch hT HNo.out;have d1:w1.cell? ⟨n0,1,none⟩=some (.int .i64 r):=hk.cell 1 rfl;have d2:w1.cell? ⟨n0,2,none⟩=some (.int .i64 i):=hk.cell 2 rfl;have d3:w1.cell? ⟨n0,3,none⟩=some (.int .i64 x):=hk.cell 3 rfl;have HW1:=hid (HWa.out.drew.touch hT (fun b hb _ hx=>HX.out b hb hx));have HK:=hid hk;have H1:=hid hS;clear hS hd hT hk)|(go_at_call 41;refine(HFh.out _ HW1.out).mono ?_;rintro e w2 ⟨rfl,k1,k2⟩;have hk:=HK.out.touch k2 HNx.out;have e1:w2.cell? ⟨n0,1,none⟩=some (.int .i64 r):=hk.cell 1 rfl;have e2:w2.cell? ⟨n0,2,none⟩=some (.int .i64 i):=hk.cell 2 rfl;have e3:w2.cell? ⟨n0,3,none⟩=some (.int .i64 x):=hk.cell 3 rfl;have H2:=hid (H1.out.next (HEa.out▸k1) (k2.mono (fun b _ hx=>HW1.out.Vs hx)));clear k1 k2 hk))
 all_goals (go_wp2_with fail)
 all_goals go_ret
 all_goals exact⟨rfl,H2.out.st⟩
set_option maxHeartbeats 2000000 in
theorem VQ(h:nS w p q lo c D D m wr)(I:bz c k D)(hN:c.N≤1000)(hk:k≤7000)(r i x sp sd:Int):
  Calls Tryz.prog 11 #[.pointer (some ⟨p.a,0,none⟩),.pointer (some ⟨q,0,none⟩),.agg #[.int .u8 0,.int .i64 r,.int .i64 i,.int .i64 x,.int .i64 sp,.int .i64 sd]] wr (fun e w'=>KZ w p q lo c (D.born sp sd) e w'∧bz c (k+1) (D.born sp sd)):=by
 have hsit:=h.st.1.sit I.san
 have hlens:=hsit.lens
 have HBk:=hid (aT.new wr #[.int .u8 0,.int .i64 r,.int .i64 i,.int .i64 x,.int .i64 sp,.int .i64 sd] 33)
 have HNo:=hid h.box
 have HT0:=hid (h.later (below_new wr (.cells #[.int .u8 0,.int .i64 r,.int .i64 i,.int .i64 x,.int .i64 sp,.int .i64 sd] 33)))
 have HIn:=hid I
 have HBo:=hid (fun wz (hz:nS w p q lo c D D m wz)=>Oz c D sp sd hz.1)
 have HWh:=hid (fun wz m' D1 (hz:nS w p q lo c D1 D m' wz) (hok:rT D sp sd c.N)=>hz.world (UD hz.2.1 sp sd (by omega) (by have:=I.hd.1;simp at this;omega) (by
  unfold Wd.wD
  cases hc:D.clean with
  |nil=>simp
  |cons b l=>
   obtain⟨zs,hz,R⟩:=hsit.nE
   have:=R.heap.pl.ch.lt b (by rw[hc];simp)
   simp
   omega) (fun hE=>by
    obtain⟨t,h1,_,h2⟩:=hok.new hE
    exact⟨t,h1,by rw[h2];rfl⟩)))
 have n1:(D.jO sp sd==D.jO sp sd)=true:=beq_self_eq_true _
 have n2:(D.kQ sp sd==D.kQ sp sd)=true:=beq_self_eq_true _
 generalize D.jO sp sd=R0 at*
 generalize D.kQ sp sd=E0 at*
 generalize hDb:D.born sp sd=Db at*
 have HDb:=hid hDb
 clear h hsit hlens I hDb
 go_enter Tryz.func11,Tryz.ntmps11
 go_wp2_with fail
 generalize wr.alloc (.cells #[.int .u8 0,.int .i64 r,.int .i64 i,.int .i64 x,.int .i64 sp,.int .i64 sd] 33)=w0 at*
 generalize wr.heap.size=n0 at*
 refine(HBo.out _ HT0.out).mono ?_
 rintro e w1 ⟨rfl,⟨⟨d,hd,hS⟩,hok⟩,hT⟩
 have hk1:=HBk.out.touch hT HNo.out
 have HOk:=hid hok
 have H1:Hid (nS w p q lo c Db D (m+d) w1):=hid ⟨hS,HT0.out.2.1.touch hT (fun b hb hx=>HT0.out.2.2.1 b hb (Or.inr hx)),HT0.out.2.2⟩
 clear hd hS hok hT
 have b4:w1.cell? ⟨n0,4,none⟩=some (.int .i64 sp):=hk1.cell 4 rfl
 have b5:w1.cell? ⟨n0,5,none⟩=some (.int .i64 sd):=hk1.cell 5 rfl
 clear hk1
 go_wp2_with fail
 refine(HWh.out _ _ _ H1.out HOk.out).mono ?_
 rintro e w2 ⟨rfl,hS⟩
 have H2:=hid hS
 clear hS b4 b5
 go_wp2_with fail
 go_ret
 exact⟨⟨rfl,H2.out.st⟩,by have:=HIn.out.born HOk.out;rw[HDb.out] at this;exact this⟩
theorem Sc(h:nS w p q lo c D D m wr)(I:bz c k D)(hN:c.N≤1000)(hk:k≤7000)(a r i x sp sd:Int)(hr:In64 r)(hx:In64 x)(ha:0≤a∧a<6):
  Calls Tryz.prog 11 #[.pointer (some ⟨p.a,0,none⟩),.pointer (some ⟨q,0,none⟩),.agg #[.int .u8 a,.int .i64 r,.int .i64 i,.int .i64 x,.int .i64 sp,.int .i64 sd]] wr
   fun e w'=>e=.returned (.bool true)∧∃D',qA w p q lo c D' D' w'∧bz c (k+1) D':=by
 have hs:=h.st.1.sit I.san
 have h4:a=0∨a=1∨a=2∨a=3∨a=4∨a=5:=by omega
 rcases h4 with rfl|rfl|rfl|rfl|rfl|rfl
 ·exact(VQ h I hN hk r i x sp sd).mono fun e w' ⟨⟨e1,e2⟩,e3⟩=>⟨e1,_,e2,e3⟩
 ·obtain⟨B,D',v,hB,HP,HW,I'⟩:=Pm (lo:=lo) (q:=q) hs I hN hk hr hx i
  exact(VR h r i x sp sd HP HW).mono fun e w' ⟨e1,e2⟩=>⟨e1,_,e2,I'⟩
 ·obtain⟨B,hB,HP,HW,I'⟩:=Oy (lo:=lo) (q:=q) hs I hN hr
  exact(VS h r i x sp sd HP HW).mono fun e w' ⟨e1,e2⟩=>⟨e1,_,e2,I'⟩
 ·obtain⟨B,hB,HP,HW,I'⟩:=Lx (lo:=lo) (q:=q) hs I hN hk hr
  exact(VT h r i x sp sd HP HW).mono fun e w' ⟨e1,e2⟩=>⟨e1,_,e2,I'⟩
 ·exact(VU h hs hN r i x sp sd).mono fun e w' ⟨e1,e2⟩=>⟨e1,_,e2,I.step.up⟩
 ·exact(VV h hs hN r i x sp sd).mono fun e w' ⟨e1,e2⟩=>⟨e1,_,e2,(I.iC _).up⟩
def UW(w wr:World)(p:Pl)(q lo:Nat)(c:Cf)(D':Wd)(e:Ending)(w':World):Prop:=e=.returned (.bool true)∧qA w p q lo c D' D' w'∧Touch (fun b=>ah p b∨b=q) wr w'
theorem GR(h:bT wr lo q D)(ph:Int)(h0:0≤ph)(h3:ph≤3):
  Calls Tryz.prog 38 #[.pointer (some ⟨q,0,none⟩),.int .i64 ph] wr (fun e w'=>e=.returned (.bool true)∧bT w' lo q (D.begin ph)∧Touch (fun b=>b=q) wr w'):=by
 obtain⟨lab,a,rfl,h⟩:=h
 have H:=hid h
 have g3:=h.c3
 have g4:=h.c4
 have g5:=h.c5
 have g6:=h.c6
 have g7:=h.c7
 have z3:=h.wb.free 3
 have z4:=h.wb.free 4
 have z5:=h.wb.free 5
 have z6:=h.wb.free 6
 have z7:=h.wb.free 7
 clear h
 go_enter Tryz.func38,Tryz.ntmps38
 go_wp2_with fail
 go_ret
 have k1:=H.out.fI (D':={D with phase:=ph}) (k:=3) (u:=.int .i64 ph) rfl rfl rfl rfl rfl rfl rfl
 have k2:=k1.fI (D':={D with phase:=ph,cursor:=0}) (k:=4) (u:=.int .i64 0) rfl rfl rfl rfl rfl rfl rfl
 have k3:=k2.fI (D':={D with phase:=ph,cursor:=0,field:=0}) (k:=5) (u:=.int .i64 0) rfl rfl rfl rfl rfl rfl rfl
 have k4:=k3.fI (D':={D with phase:=ph,cursor:=0,field:=0,scan:=0}) (k:=6) (u:=.int .i64 0) rfl rfl rfl rfl rfl rfl rfl
 have k5:=k4.fI (D':=D.begin ph) (k:=7) (u:=.int .i64 0) rfl rfl rfl rfl rfl rfl rfl
 exact⟨rfl,⟨lab,a,rfl,k5⟩,(((((Touch.refl (fun b=>b=a.q) _).setCell (p:=⟨a.q,3,none⟩) (fun _=>rfl) _).setCell (p:=⟨a.q,4,none⟩) (fun _=>rfl) _).setCell (p:=⟨a.q,5,none⟩) (fun _=>rfl) _).setCell (p:=⟨a.q,6,none⟩) (fun _=>rfl) _).setCell (p:=⟨a.q,7,none⟩) (fun _=>rfl) _⟩
set_option maxHeartbeats 2000000 in
theorem MB(h:nS w p q lo c D D m wr)(ph:Int)(h0:0≤ph)(h3:ph≤3):
  Calls Tryz.prog 9 #[.pointer (some ⟨p.a,0,none⟩),.pointer (some ⟨q,0,none⟩),.int .i64 ph,.bool false] wr (UW w wr p q lo c (D.begin ph)):=by
 have HT0:=hid h
 have HPh:=hid (ld_begin (c:=c) (D:=D) ph h0 h3)
 have HWh:=hid (fun wz (hz:bT wz lo q D)=>GR hz ph h0 h3)
 have HLq:=hid h.2.1.lq
 generalize D.begin ph=DB at*
 clear h h0 h3
 go_enter Tryz.func9,Tryz.ntmps9
 go_wp2_with fail
 refine(HT0.out.does HPh.out).mono ?_
 rintro e w1 ⟨rfl,⟨d,hd,hS⟩,hT⟩
 have H1:=hid hS
 have T1:=hid hT
 clear hS hT hd
 go_wp2_with fail
 refine(HWh.out _ H1.out.2.1).mono ?_
 rintro e w2 ⟨rfl,k1,k2⟩
 have H2:=hid (H1.out.next k1 (k2.mono (fun b _ e=>by subst e;exact HLq.out)))
 have T2:Hid (Touch (fun b=>ah p b∨b=q) wr w2):=hid ((T1.out.mono (fun b _ hb=>Or.inl hb)).trans (k2.mono (fun b _ hb=>Or.inr hb)))
 clear k1 k2
 go_wp2_with fail
 go_ret
 exact⟨rfl,H2.out.st,T2.out⟩
set_option maxHeartbeats 2000000 in
theorem Gj(h:nS w p q lo c D D m wr)(hp:D.parity=0∨D.parity=1)(ph:Int)(h0:0≤ph)(h3:ph≤3):
  Calls Tryz.prog 9 #[.pointer (some ⟨p.a,0,none⟩),.pointer (some ⟨q,0,none⟩),.int .i64 ph,.bool true] wr (UW w wr p q lo c (D.turn.begin ph)):=by
 obtain⟨vt,ht⟩:=tintFns.turn c D
 have HTu:=hid ht
 have HT0:=hid h
 have hwp:IntKind.i64.wrap (1-D.parity)=1-D.parity:=IntWalk.i64_in _ (by omega)
 have HPh:=hid (ld_begin (c:=c) (D:=D.turn) ph h0 h3)
 have HWh:=hid (fun wz (hz:bT wz lo q D.turn)=>GR hz ph h0 h3)
 have HLq:=hid h.2.1.lq
 generalize D.turn.begin ph=DB at*
 clear h ht hp h0 h3
 go_enter Tryz.func9,Tryz.ntmps9
 go_wp2_with fail
 refine(HT0.out.does HTu.out).mono ?_
 rintro e w1 ⟨rfl,⟨d,hd,hS⟩,hT⟩
 have H1:=hid hS
 have T1:=hid hT
 clear hS hT hd
 obtain⟨s1,s2,s3,s4⟩:=H1.out.2.1.AZ (1-D.parity)
 have HS:=hid s1
 clear s1
 have T2:=hid ((T1.out.mono (fun b _ hb=>Or.inl hb)).setCell (X:=fun b=>ah p b∨b=q) (p:=⟨q,2,none⟩) (fun _=>.inr rfl) (.int .i64 (1-D.parity)))
 have H2:Hid (nS w p q lo c D.turn D.turn (m+d) (w1.setCell ⟨q,2,none⟩ (.int .i64 (1-D.parity)))):=hid (H1.out.next HS.out ((Touch.refl (fun b=>lo≤b) w1).setCell (p:=⟨q,2,none⟩) (fun _=>HLq.out) _))
 go_wp2_with fail
 generalize w1.setCell ⟨q,2,none⟩ (.int .i64 (1-D.parity))=w2 at*
 refine(H2.out.does HPh.out).mono ?_
 rintro e w3 ⟨rfl,⟨d2,hd,hS⟩,hT⟩
 have H3:=hid hS
 have T3:=hid (T2.out.trans (hT.mono (fun b _ hb=>Or.inl hb)))
 clear hS hT hd s2 s3 s4
 go_wp2_with fail
 refine(HWh.out _ H3.out.2.1).mono ?_
 rintro e w4 ⟨rfl,k1,k2⟩
 have H4:=hid (H3.out.next k1 (k2.mono (fun b _ e=>by subst e;exact HLq.out)))
 have T4:=hid (T3.out.trans (k2.mono (fun b _ hb=>Or.inr hb)))
 clear k1 k2
 go_wp2_with fail
 go_ret
 exact⟨rfl,H4.out.st,T4.out⟩
theorem Jz(h:nS w p q lo c D D m wr)(I:bz c k D)(ph:Int)(h0:0≤ph)(h3:ph≤3)(b:Bool):
  Calls Tryz.prog 9 #[.pointer (some ⟨p.a,0,none⟩),.pointer (some ⟨q,0,none⟩),.int .i64 ph,.bool b] wr
   fun e w'=>e=.returned (.bool true)∧∃D',qA w p q lo c D' D' w'∧bz c (k+2) D'∧Touch (fun b=>ah p b∨b=q) wr w':=by
 obtain⟨zs,hz,R⟩:=(h.st.1.sit I.san).nE
 cases b with
 |false=>exact(MB h ph h0 h3).mono fun e w' ⟨e1,e2,e3⟩=>⟨e1,_,e2,(I.begin_ ph).up,e3⟩
 |true=>exact(Gj h R.par ph h0 h3).mono fun e w' ⟨e1,e2,e3⟩=>⟨e1,_,e2,I.turn.begin_ ph,e3⟩
end
theorem Sit.VB{c:Cf}{D:Wd}{wr:World}{lo q:Nat}(hs:Sit c D)(hN:c.N≤1000)(h:bT wr lo q D):Calls Tryz.prog 13 #[.pointer (some ⟨q,0,none⟩)] wr (dW wr lo q D.reap (.bool D.reapB)):=by
 obtain⟨zs,hz,R⟩:=hs.nE
 obtain⟨⟨k0,k1⟩,f0,f1⟩:=R.Lj hz
 obtain⟨lab,a,rfl,hw⟩:=h
 exact UI hw (hs.wb hN) k0 f0 k1 (fun t ht=>by have:=(hs.Nc ht).small;omega)
set_option maxHeartbeats 4000000 in
theorem zq(n v:Nat)(cr ck:Int)(a:Option Addr)(cap:Nat)(rs:List (List mW))(tb:Bool)(w:World)(h0:1≤n)(h1:n≤40)(h2:16≤v)(h3:v≤18)(h4:rs.length≤150)(hrs:yV w a [.int .u8,.int .i64,.int .i64,.int .i64,.int .i64,.int .i64] rs):
  Calls Tryz.prog 3 #[.agg #[.int .i64 (n:Int),.int .i64 (v:Int),.int .i64 cr,.int .i64 ck],.slice a rs.length cap,.bool tb] w fun e w'=>e=.returned (.bool true)∧Below w.heap.size w w':=by
 have hm:(Cf.mk n v 1 1).May:=by
  have e1:(n:Int)*(v:Int)≤40*18:=Int.mul_le_mul (by omega) (by omega) (by omega) (by omega)
  constructor<;>simp<;>omega
 have HO:=hid (fun wz=>tQ Cz ⟨n,v,1,1⟩ wz hm (by show n≤10000;omega))
 have HRs:=hid hrs
 have g0:¬(n:Int)<1:=by omega
 have g1:¬40<(n:Int):=by omega
 have g2:¬(v:Int)<16:=by omega
 have g3:¬18<(v:Int):=by omega
 have g4:¬150<(rs.length:Int):=by omega
 have HN:Hid (n≤1000∧v≤18∧rs.length≤150):=hid ⟨by omega,h3,h4⟩
 have HI0:=hid (bz.new (Cf.mk n v 1 1) (v:=v) h2)
 obtain⟨T3,hT3⟩:∃T:Nat,T=rs.length/3:=⟨_,rfl⟩
 have q3:(rs.length:Int).tdiv 3=(T3:Int):=by
  rw[hT3,Int.tdiv_eq_ediv_of_nonneg (by omega)]
  rfl
 have w3:wrap64 (T3:Int)=(T3:Int):=IntWalk.wrap64_in _ (by omega)
 clear hrs hm h0 h1 h2 h3 h4 hT3
 go_enter Tryz.func3,Tryz.ntmps3
 go_wp2_with fail
 have HB0:=hid (below_new w (.cells #[.int .i64 (n:Int),.int .i64 (v:Int),.int .i64 1,.int .i64 1] 23))
 generalize hw0:w.alloc (.cells #[.int .i64 (n:Int),.int .i64 (v:Int),.int .i64 1,.int .i64 1] 23)=w0 at*
 refine(HO.out w0).mono ?_
 rintro e w1 ⟨p,q,lo,rfl,hS,hW,hlo,hs1,hs2⟩
 have HS0:Hid (qA w0 p q lo ⟨n,v,1,1⟩ (Wd.new n v) (Wd.new n v) w1):=hid ⟨hS,hW,hlo,hs1⟩
 clear hS hW hlo hs1 hs2
 go_wp2_with fail
 go_loopw [9,49] (fun okv i wr=>okv=.bool true∧∃k:Nat,k≤rs.length∧i=.int .i64 (k:Int)∧∃D,qA w0 p q lo ⟨n,v,1,1⟩ D D wr∧bz ⟨n,v,1,1⟩ (3*k) D) (fun _ i _=>rs.length-(intOf i).toNat)
 case atStart=>exact⟨rfl,0,Nat.zero_le _,rfl,_,HS0.out,HI0.out⟩
 case round=>
  obtain⟨rfl,k,hk,rfl,D,hS,hI⟩:=hrel
  have HI:=hid hI
  have HBe:Hid (Below w.heap.size w wr):=hid (below_step HB0.out hS.1.below)
  by_cases hlt:k<rs.length
  ·obtain⟨b,off,kd,r,i,x,sp,sd,rfl,hb0,x0,x1,x2,x3,x4,x5,hkd,hr,hx⟩:=Re HRs.out hlt
   have y0:=(HBe.out.cell (p:=⟨b,off+k*6,none⟩) hb0).trans x0
   have y1:=(HBe.out.cell (p:=⟨b,off+k*6+1,none⟩) hb0).trans x1
   have y2:=(HBe.out.cell (p:=⟨b,off+k*6+2,none⟩) hb0).trans x2
   have y3:=(HBe.out.cell (p:=⟨b,off+k*6+3,none⟩) hb0).trans x3
   have y4:=(HBe.out.cell (p:=⟨b,off+k*6+4,none⟩) hb0).trans x4
   have y5:=(HBe.out.cell (p:=⟨b,off+k*6+5,none⟩) hb0).trans x5
   obtain⟨m,hM⟩:=hS.sm
   have HBk:=hid (aT.new wr #[.int .u8 kd,.int .i64 r,.int .i64 i,.int .i64 x,.int .i64 sp,.int .i64 sd] 33)
   have HNo:=hid hM.box
   have HQn:Hid (wr.heap.size≠q):=hid (by have:=(hM.2.1.AZ 0).2.2.2;omega)
   have HM0:=hid (hM.later (below_new wr (.cells #[.int .u8 kd,.int .i64 r,.int .i64 i,.int .i64 x,.int .i64 sp,.int .i64 sd] 33)))
   have HR:=hid hr
   have HX:=hid hx
   have HKd:=hid hkd
   have HK:Hid (3*k+3≤7000):=hid (by have:=HN.out.2.2;omega)
   clear hS hI hM hr hx hkd x0 x1 x2 x3 x4 x5 hb0
   go_upto_if 58 with fail
   generalize wr.alloc (.cells #[.int .u8 kd,.int .i64 r,.int .i64 i,.int .i64 x,.int .i64 sp,.int .i64 sd] 33)=wa at*
   generalize wr.heap.size=n0 at*
   clear y0 y1 y2 y3 y4 y5
   go_cut [9,49] from 49 to 98 (fun okv iv wx=>okv=.bool true∧iv=.int .i64 (k:Int)∧aT wx n0 #[.int .u8 kd,.int .i64 r,.int .i64 i,.int .i64 x,.int .i64 sp,.int .i64 sd] 33∧∃D,qA w0 p q lo ⟨n,v,1,1⟩ D D wx∧bz ⟨n,v,1,1⟩ (3*k+2) D)
   case first=>
    by_cases hkT:k=T3
    ·have kq:((k:Int)==(T3:Int))=true:=by rw[beq_iff_eq];omega
     clear hkT
     go_wp2_with fail
     refine(Jz HM0.out HI.out 3 (by decide) (by decide) tb).mono ?_
     rintro e wq ⟨rfl,DQ,hS,hI,hT⟩
     have hk1:=HBk.out.touch hT (fun hx=>hx.elim HNo.out HQn.out)
     have HE:=hid (And.intro hk1 (And.intro hS hI))
     clear hS hI hT hk1
     go_wp2_with fail
     go_meet
     exact⟨rfl,rfl,HE.out.1,DQ,HE.out.2.1,HE.out.2.2⟩
    ·have kq:((k:Int)==(T3:Int))=false:=by rw[beq_eq_false_iff_ne];omega
     go_wp2_with fail
     go_meet
     exact⟨rfl,rfl,HBk.out,D,HM0.out.st,HI.out.mono (by omega)⟩
   case rest=>
    obtain⟨rfl,rfl,hB,D,hS,hI⟩:=hcut
    have x0:wc.cell? ⟨n0,0,none⟩=some (.int .u8 kd):=hB.cell 0 rfl
    have x1:wc.cell? ⟨n0,1,none⟩=some (.int .i64 r):=hB.cell 1 rfl
    have x2:wc.cell? ⟨n0,2,none⟩=some (.int .i64 i):=hB.cell 2 rfl
    have x3:wc.cell? ⟨n0,3,none⟩=some (.int .i64 x):=hB.cell 3 rfl
    have x4:wc.cell? ⟨n0,4,none⟩=some (.int .i64 sp):=hB.cell 4 rfl
    have x5:wc.cell? ⟨n0,5,none⟩=some (.int .i64 sd):=hB.cell 5 rfl
    obtain⟨m,hM⟩:=hS.sm
    have HM:=hid hM
    have HQ:=hid hI
    have HMt:Hid (∀d:Nat,d≤96→IntKind.u64.wrap (ma (m+d)-ma m)=(d:Int)∧(d:Int)≤96):=hid (fun d hd=>⟨Qe m d (by omega),by omega⟩)
    have HFd:Hid (0≤D.field):=hid (hS.1.Ed.2.1)
    clear hB hS hI hM HI HBk HM0
    go_wp2_with fail
    refine(HM.out.vP).mono ?_
    rintro e wm ⟨rfl,rfl⟩
    by_cases hk6:kd<6
    ·have HK6:=hid hk6
     go_wp2_with fail
     refine(Sc HM.out HQ.out HN.out.1 (by have:=HK.out;omega) kd r i x sp sd HR.out HX.out ⟨HKd.out,HK6.out⟩).mono ?_
     rintro e w3 ⟨rfl,D',hS',hI'⟩
     have HI2:=hid hI'
     have HS2:=hid hS'
     have HL:=hid (bz.lq (hS'.1.sit hI'.san) hI' HN.out.1 HN.out.2.1 (by have:=HK.out;omega))
     clear hI' hS'
     go_wp2_with fail
     refine(rG HS2.out HL.out).mono ?_
     rintro e w7 ⟨rfl,hS,hT⟩
     have H7:=hid hS
     clear hS hT
     go_wp2_with fail
     go_roundw
     case rel=>exact⟨rfl,k+1,by omega,by go_num,D',H7.out,HI2.out.mono (by omega)⟩
     case measure=>simp[intOf];omega
    ·have HK6:=hid hk6
     have HTl:=hid (ld_reap (c:=⟨n,v,1,1⟩) HQ.out.san)
     have HWt:=hid (fun wz D1 m1 (hz:nS w0 p q lo ⟨n,v,1,1⟩ D1 D m1 wz)=>hz.world ((HM.out.st.1.sit HQ.out.san).VB HN.out.1 hz.2.1))
     have HIt:=hid (HQ.out.reap HFd.out)
     have n1:=xk D.reapB
     generalize D.reapB=tb1 at*
     generalize D.reap=DT at*
     go_wp2_with fail
     refine(HM.out.does HTl.out).mono ?_
     rintro e w3 ⟨rfl,⟨d,hd,hS⟩,hT⟩
     have hmt:=(HMt.out d hd).1
     have hdl:=(HMt.out d hd).2
     have H3:=hid hS
     clear hS hT hd
     go_wp2_with fail
     refine(HWt.out _ _ _ H3.out).mono ?_
     rintro e w4 ⟨rfl,hS⟩
     have H4:=hid hS
     clear hS
     go_wp2_with fail
     refine(H4.out.vP).mono ?_
     rintro e w5 ⟨rfl,rfl⟩
     obtain⟨D',hD'⟩:∃D',D'=DT:=⟨_,rfl⟩
     have hS':qA w0 p q lo ⟨n,v,1,1⟩ D' D' w4:=by rw[hD'];exact H4.out.st
     have hI':bz ⟨n,v,1,1⟩ (3*k+2+1) D':=by rw[hD'];exact HIt.out.up
     have HI2:=hid hI'
     have HS2:=hid hS'
     have HL:=hid (bz.lq (hS'.1.sit hI'.san) hI' HN.out.1 HN.out.2.1 (by have:=HK.out;omega))
     clear hI' hS'
     go_wp2_with fail
     refine(rG HS2.out HL.out).mono ?_
     rintro e w7 ⟨rfl,hS,hT⟩
     have H7:=hid hS
     clear hS hT
     go_wp2_with fail
     go_roundw
     case rel=>exact⟨rfl,k+1,by omega,by go_num,D',H7.out,HI2.out.mono (by omega)⟩
     case measure=>simp[intOf];omega
  ·clear hS hI
   go_wp2_with fail
   refine(begun18_any _).mono ?_
   rintro e w9 ⟨rfl,hb⟩
   have HB9:=hid (below_step HBe.out hb)
   clear hb
   go_wp2_with fail
   go_ret
   exact⟨rfl,HB9.out⟩
set_option maxHeartbeats 2000000 in
theorem zt(N V cr ck:Int)(a:Option Addr)(cap len:Nat)(tb:Bool)(w:World)(h:N<1∨40<N∨V<16∨18<V∨150<(len:Int)):
  Calls Tryz.prog 3 #[.agg #[.int .i64 N,.int .i64 V,.int .i64 cr,.int .i64 ck],.slice a len cap,.bool tb] w fun e w'=>e=.returned (.bool true)∧Below w.heap.size w w':=by
 by_cases g0:N<1
 ·clear h
  go_enter Tryz.func3,Tryz.ntmps3
  go_wp2_with fail
  refine(begun18_any _).mono ?_
  rintro e w9 ⟨rfl,hb⟩
  have HB9:=hid (below_step (below_new w (.cells #[.int .i64 N,.int .i64 V,.int .i64 cr,.int .i64 ck] 23)) hb)
  clear hb
  go_wp2_with fail
  go_ret
  exact⟨rfl,HB9.out⟩
 ·skip
  by_cases g1:40<N
  ·clear h
   go_enter Tryz.func3,Tryz.ntmps3
   go_wp2_with fail
   refine(begun18_any _).mono ?_
   rintro e w9 ⟨rfl,hb⟩
   have HB9:=hid (below_step (below_new w (.cells #[.int .i64 N,.int .i64 V,.int .i64 cr,.int .i64 ck] 23)) hb)
   clear hb
   go_wp2_with fail
   go_ret
   exact⟨rfl,HB9.out⟩
  ·skip
   by_cases g2:V<16
   ·clear h
    go_enter Tryz.func3,Tryz.ntmps3
    go_wp2_with fail
    refine(begun18_any _).mono ?_
    rintro e w9 ⟨rfl,hb⟩
    have HB9:=hid (below_step (below_new w (.cells #[.int .i64 N,.int .i64 V,.int .i64 cr,.int .i64 ck] 23)) hb)
    clear hb
    go_wp2_with fail
    go_ret
    exact⟨rfl,HB9.out⟩
   ·skip
    by_cases g3:18<V
    ·clear h
     go_enter Tryz.func3,Tryz.ntmps3
     go_wp2_with fail
     refine(begun18_any _).mono ?_
     rintro e w9 ⟨rfl,hb⟩
     have HB9:=hid (below_step (below_new w (.cells #[.int .i64 N,.int .i64 V,.int .i64 cr,.int .i64 ck] 23)) hb)
     clear hb
     go_wp2_with fail
     go_ret
     exact⟨rfl,HB9.out⟩
    ·skip
     have g4:150<(len:Int):=by omega
     clear h
     go_enter Tryz.func3,Tryz.ntmps3
     go_wp2_with fail
     refine(begun18_any _).mono ?_
     rintro e w9 ⟨rfl,hb⟩
     have HB9:=hid (below_step (below_new w (.cells #[.int .i64 N,.int .i64 V,.int .i64 cr,.int .i64 ck] 23)) hb)
     clear hb
     go_wp2_with fail
     go_ret
     exact⟨rfl,HB9.out⟩
theorem zn(N V cr ck:Int)(a:Option Addr)(cap:Nat)(rs:List (List mW))(tb:Bool)(w:World)(hrs:yV w a [.int .u8,.int .i64,.int .i64,.int .i64,.int .i64,.int .i64] rs):
  Calls Tryz.prog 3 #[.agg #[.int .i64 N,.int .i64 V,.int .i64 cr,.int .i64 ck],.slice a rs.length cap,.bool tb] w fun e w'=>e=.returned (.bool true)∧Below w.heap.size w w':=by
 by_cases h:N<1∨40<N∨V<16∨18<V∨150<(rs.length:Int)
 ·exact zt N V cr ck a cap _ tb w h
 ·have:=zq N.toNat V.toNat cr ck a cap rs tb w (by omega) (by omega) (by omega) (by omega) (by omega) hrs
  rw[show(N.toNat:Int)=N by omega,show(V.toNat:Int)=V by omega] at this
  exact this
end Go.Proofs.YtjmifnljckmimaaGreat.Pk
