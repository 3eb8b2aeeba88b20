/-
  Texts laid together: TallyAct, FloodPlI, FloodLaw, TallyLaw, FloodPlF.
-/
import Derived.Test.YtofhdfjkhfkhiaaGreatRefFEtc
import Derived.Test.YtofhdfjkhfkhiaaGreatLinkPlEtc
namespace Go.Proofs.YtofhdfjkhfkhiaaGreat.Pk
open Lib (hid)
open Go.RowKit
set_option linter.unusedVariables false
set_option linter.unusedSimpArgs false
set_option maxRecDepth 100000
section
variable {w wr w':World} {p:Pl} {q lo m k n:Nat} {c:Cf} {D D2 D':Wd} {t u:Th} {r i x y sp sd:Int}
set_option maxHeartbeats 2000000 in
theorem TN(h:TSm w p q lo c D D m wr)(hP:Sit c D)(hN:c.N≤1000)(r i x sp sd:Int):
  Calls Tryz.prog 28 #[.pointer (some ⟨p.a,0,none⟩),.pointer (some ⟨q,0,none⟩),.agg #[.int .u8 4,.int .i64 r,.int .i64 i,.int .i64 x,.int .i64 sp,.int .i64 sd]] wr (IX w p q lo c D.step):=by
 have HBk:=hid (Blk.new wr #[.int .u8 4,.int .i64 r,.int .i64 i,.int .i64 x,.int .i64 sp,.int .i64 sd] 34)
 have HNo:=hid h.box
 have HT0:=hid (h.later (below_new wr (.cells #[.int .u8 4,.int .i64 r,.int .i64 i,.int .i64 x,.int .i64 sp,.int .i64 sd] 34)))
 have HWh:=hid (fun wz (hz:TSt w p q lo c D D wz)=>hz.world (hz.2.1.stepW (Sit.UD hN) hP))
 have pU:=hid (gd_Step (c:=c) hP.san)
 have n1:=eqself (!D.grave.isEmpty)
 clear h hP
 go_enter Tryz.func28,Tryz.ntmps28
 go_wp2_with fail
 generalize wr.alloc (.cells #[.int .u8 4,.int .i64 r,.int .i64 i,.int .i64 x,.int .i64 sp,.int .i64 sd] 34)=w0 at*
 generalize wr.heap.size=n0 at*
 have b0:w0.cell? ⟨n0,0,none⟩=some (.int .u8 4):=HBk.out.cell 0 rfl
 have b1:w0.cell? ⟨n0,1,none⟩=some (.int .i64 r):=HBk.out.cell 1 rfl
 have b2:w0.cell? ⟨n0,2,none⟩=some (.int .i64 i):=HBk.out.cell 2 rfl
 have b3:w0.cell? ⟨n0,3,none⟩=some (.int .i64 x):=HBk.out.cell 3 rfl
 have b4:w0.cell? ⟨n0,4,none⟩=some (.int .i64 sp):=HBk.out.cell 4 rfl
 have b5:w0.cell? ⟨n0,5,none⟩=some (.int .i64 sd):=HBk.out.cell 5 rfl
 refine(HWh.out _ HT0.out.st).mono ?_
 rintro e w1 ⟨rfl,hS,hT⟩
 have H1:=hid hS
 clear hS hT
 go_wp2_with fail
 refine(H1.out.does pU.out).mono ?_
 rintro e w2 ⟨rfl,hS,hT⟩
 have H2:=hid hS
 clear hS hT
 go_wp2_with fail
 go_ret
 exact⟨rfl,H2.out⟩
set_option maxHeartbeats 2000000 in
theorem TP(h:TSm w p q lo c D D m wr)(hP:Sit c D)(hN:c.N≤1000)(r i x sp sd:Int):
  Calls Tryz.prog 28 #[.pointer (some ⟨p.a,0,none⟩),.pointer (some ⟨q,0,none⟩),.agg #[.int .u8 5,.int .i64 r,.int .i64 i,.int .i64 x,.int .i64 sp,.int .i64 sd]] wr (IX w p q lo c (D.fM (c.W*c.W))):=by
 have HBk:=hid (Blk.new wr #[.int .u8 5,.int .i64 r,.int .i64 i,.int .i64 x,.int .i64 sp,.int .i64 sd] 34)
 have HNo:=hid h.box
 have HT0:=hid (h.later (below_new wr (.cells #[.int .u8 5,.int .i64 r,.int .i64 i,.int .i64 x,.int .i64 sp,.int .i64 sd] 34)))
 have hE:Ends (c.W*c.W) D:=hP.san.ends (by
  rw[hP.wd.1]
  have:=hP.wd.2.w
  exact Nat.le_trans (by omega) (Nat.mul_le_mul_left c.W (show 1≤c.W by omega)))
 have HWh:=hid (fun wz D1 (hz:TSt w p q lo c D1 D wz)=>hz.world (KE hz.2.1 (Sit.UD hN) hP hE))
 have HRl:=hid (fun wz D2 (hz:TSt w p q lo c D D2 wz)=>FK hz.1 hP.san)
 have n1:=eqself (D.gY (c.W*c.W))
 generalize D.gY (c.W*c.W)=vb at*
 generalize D.fM (c.W*c.W)=DR at*
 clear h hP hE
 go_enter Tryz.func28,Tryz.ntmps28
 go_wp2_with fail
 generalize wr.alloc (.cells #[.int .u8 5,.int .i64 r,.int .i64 i,.int .i64 x,.int .i64 sp,.int .i64 sd] 34)=w0 at*
 generalize wr.heap.size=n0 at*
 have b0:w0.cell? ⟨n0,0,none⟩=some (.int .u8 5):=HBk.out.cell 0 rfl
 have b1:w0.cell? ⟨n0,1,none⟩=some (.int .i64 r):=HBk.out.cell 1 rfl
 have b2:w0.cell? ⟨n0,2,none⟩=some (.int .i64 i):=HBk.out.cell 2 rfl
 have b3:w0.cell? ⟨n0,3,none⟩=some (.int .i64 x):=HBk.out.cell 3 rfl
 have b4:w0.cell? ⟨n0,4,none⟩=some (.int .i64 sp):=HBk.out.cell 4 rfl
 have b5:w0.cell? ⟨n0,5,none⟩=some (.int .i64 sd):=HBk.out.cell 5 rfl
 refine(HRl.out _ _ HT0.out.st).mono ?_
 rintro e w1 ⟨rfl,⟨hS,_⟩,hT⟩
 have H1:Hid (TSt w p q lo c DR D w1):=hid ⟨hS,HT0.out.st.2.1.touch hT (fun b hb hx=>HT0.out.st.2.2.1 b hb (Or.inr hx)),HT0.out.st.2.2⟩
 clear hS hT
 go_wp2_with fail
 refine(HWh.out _ _ H1.out).mono ?_
 rintro e w2 ⟨rfl,hS,hT⟩
 have H2:=hid hS
 clear hS hT
 go_wp2_with fail
 go_ret
 exact⟨rfl,H2.out⟩
set_option maxHeartbeats 2000000 in
theorem TK(h:TSm w p q lo c D D m wr)(r i x sp sd:Int){v:Bool}{B:Nat}(HP:Does c D 33 [.int .i64 r] B D' (.bool v))(HW:∀wz,bf wz lo q D→Calls Tryz.prog 70 #[.pointer (some ⟨q,0,none⟩),.int .i64 r] wz (bD wz lo q D' (.bool v))):
  Calls Tryz.prog 28 #[.pointer (some ⟨p.a,0,none⟩),.pointer (some ⟨q,0,none⟩),.agg #[.int .u8 2,.int .i64 r,.int .i64 i,.int .i64 x,.int .i64 sp,.int .i64 sd]] wr (IX w p q lo c D'):=by
 have HBk:=hid (Blk.new wr #[.int .u8 2,.int .i64 r,.int .i64 i,.int .i64 x,.int .i64 sp,.int .i64 sd] 34)
 have HNo:=hid h.box
 have HT0:=hid (h.later (below_new wr (.cells #[.int .u8 2,.int .i64 r,.int .i64 i,.int .i64 x,.int .i64 sp,.int .i64 sd] 34)))
 have HPh:=hid HP
 have HWh:=hid (fun wz m' D1 (hz:TSm w p q lo c D1 D m' wz)=>hz.world (HW wz hz.2.1))
 have n1:(v==v)=true:=eqself v
 clear h HP HW
 go_enter Tryz.func28,Tryz.ntmps28
 go_wp2_with fail
 generalize wr.alloc (.cells #[.int .u8 2,.int .i64 r,.int .i64 i,.int .i64 x,.int .i64 sp,.int .i64 sd] 34)=w0 at*
 generalize wr.heap.size=n0 at*
 have b0:w0.cell? ⟨n0,0,none⟩=some (.int .u8 2):=HBk.out.cell 0 rfl
 have b1:w0.cell? ⟨n0,1,none⟩=some (.int .i64 r):=HBk.out.cell 1 rfl
 have b2:w0.cell? ⟨n0,2,none⟩=some (.int .i64 i):=HBk.out.cell 2 rfl
 have b3:w0.cell? ⟨n0,3,none⟩=some (.int .i64 x):=HBk.out.cell 3 rfl
 have b4:w0.cell? ⟨n0,4,none⟩=some (.int .i64 sp):=HBk.out.cell 4 rfl
 have b5:w0.cell? ⟨n0,5,none⟩=some (.int .i64 sd):=HBk.out.cell 5 rfl
 have HTd:=hid HT0.out.drew
 go_region_with (first|(go_at_call 33;refine(HTd.out.does HPh.out).mono ?_;rintro e w1 ⟨rfl,⟨d,hd,hS⟩,hT⟩;have hk:=HBk.out.drew.touch hT HNo.out;have b0:w1.cell? ⟨n0,0,none⟩=some (.int .u8 2):=hk.cell 0 rfl;have b1:w1.cell? ⟨n0,1,none⟩=some (.int .i64 r):=hk.cell 1 rfl;have b2:w1.cell? ⟨n0,2,none⟩=some (.int .i64 i):=hk.cell 2 rfl;have b3:w1.cell? ⟨n0,3,none⟩=some (.int .i64 x):=hk.cell 3 rfl;have H1:=hid hS;clear hS hd hT hk)|(go_at_call 70;refine(HWh.out _ _ _ H1.out).mono ?_;rintro e w2 ⟨rfl,hS⟩;have H2:=hid hS;clear hS))
 all_goals (go_wp2_with fail)
 all_goals go_ret
 all_goals exact⟨rfl,H2.out.st⟩
set_option maxHeartbeats 2000000 in
theorem TL(h:TSm w p q lo c D D m wr)(r i x sp sd:Int){v:Bool}{B:Nat}(HP:Does c D 19 [.int .i64 r] B D' (.bool v))(HW:∀wz,bf wz lo q D→Calls Tryz.prog 71 #[.pointer (some ⟨q,0,none⟩),.int .i64 r] wz (bD wz lo q D' (.bool v))):
  Calls Tryz.prog 28 #[.pointer (some ⟨p.a,0,none⟩),.pointer (some ⟨q,0,none⟩),.agg #[.int .u8 3,.int .i64 r,.int .i64 i,.int .i64 x,.int .i64 sp,.int .i64 sd]] wr (IX w p q lo c D'):=by
 have HBk:=hid (Blk.new wr #[.int .u8 3,.int .i64 r,.int .i64 i,.int .i64 x,.int .i64 sp,.int .i64 sd] 34)
 have HNo:=hid h.box
 have HT0:=hid (h.later (below_new wr (.cells #[.int .u8 3,.int .i64 r,.int .i64 i,.int .i64 x,.int .i64 sp,.int .i64 sd] 34)))
 have HPh:=hid HP
 have HWh:=hid (fun wz m' D1 (hz:TSm w p q lo c D1 D m' wz)=>hz.world (HW wz hz.2.1))
 have n1:(v==v)=true:=eqself v
 clear h HP HW
 go_enter Tryz.func28,Tryz.ntmps28
 go_wp2_with fail
 generalize wr.alloc (.cells #[.int .u8 3,.int .i64 r,.int .i64 i,.int .i64 x,.int .i64 sp,.int .i64 sd] 34)=w0 at*
 generalize wr.heap.size=n0 at*
 have b0:w0.cell? ⟨n0,0,none⟩=some (.int .u8 3):=HBk.out.cell 0 rfl
 have b1:w0.cell? ⟨n0,1,none⟩=some (.int .i64 r):=HBk.out.cell 1 rfl
 have b2:w0.cell? ⟨n0,2,none⟩=some (.int .i64 i):=HBk.out.cell 2 rfl
 have b3:w0.cell? ⟨n0,3,none⟩=some (.int .i64 x):=HBk.out.cell 3 rfl
 have b4:w0.cell? ⟨n0,4,none⟩=some (.int .i64 sp):=HBk.out.cell 4 rfl
 have b5:w0.cell? ⟨n0,5,none⟩=some (.int .i64 sd):=HBk.out.cell 5 rfl
 have HTd:=hid HT0.out.drew
 go_region_with (first|(go_at_call 19;refine(HTd.out.does HPh.out).mono ?_;rintro e w1 ⟨rfl,⟨d,hd,hS⟩,hT⟩;have hk:=HBk.out.drew.touch hT HNo.out;have b0:w1.cell? ⟨n0,0,none⟩=some (.int .u8 3):=hk.cell 0 rfl;have b1:w1.cell? ⟨n0,1,none⟩=some (.int .i64 r):=hk.cell 1 rfl;have b2:w1.cell? ⟨n0,2,none⟩=some (.int .i64 i):=hk.cell 2 rfl;have b3:w1.cell? ⟨n0,3,none⟩=some (.int .i64 x):=hk.cell 3 rfl;have H1:=hid hS;clear hS hd hT hk)|(go_at_call 71;refine(HWh.out _ _ _ H1.out).mono ?_;rintro e w2 ⟨rfl,hS⟩;have H2:=hid hS;clear hS))
 all_goals (go_wp2_with fail)
 all_goals go_ret
 all_goals exact⟨rfl,H2.out.st⟩
set_option maxHeartbeats 2000000 in
theorem TJ(h:TSm w p q lo c D D m wr)(r i x sp sd:Int){v:Int}{B:Nat}(HP:Does c D 32 [.int .i64 r,.int .i64 i,.int .i64 x] B D' (.int .i64 v))
  (HF:∀Bd wz lab a,WA.q a=q→aj wz lo lab a D→(∀(i:Nat) (t:Th) (x:TA),D.ts[i]? =some t→a.tas[i]? =some x→0<t.pt.length→∀g,x.pa=some ⟨g,0,none⟩→g<Bd)→Calls Tryz.prog 69 #[.pointer (some ⟨q,0,none⟩),.int .i64 r,.int .i64 i,.int .i64 x] wz (fo Bd wz lo a D' (.int .i64 v))):
  Calls Tryz.prog 28 #[.pointer (some ⟨p.a,0,none⟩),.pointer (some ⟨q,0,none⟩),.agg #[.int .u8 1,.int .i64 r,.int .i64 i,.int .i64 x,.int .i64 sp,.int .i64 sd]] wr (IX w p q lo c D'):=by
 have HBk:=hid (Blk.new wr #[.int .u8 1,.int .i64 r,.int .i64 i,.int .i64 x,.int .i64 sp,.int .i64 sd] 34)
 have HNo:=hid h.box
 have HT0:=hid (h.later (below_new wr (.cells #[.int .u8 1,.int .i64 r,.int .i64 i,.int .i64 x,.int .i64 sp,.int .i64 sd] 34)))
 have HPh:=hid HP
 obtain⟨lab,a,ea,hwa⟩:=h.2.1
 have HNx:=hid hwa.Tt
 have HEa:=hid ea
 have HWa:Hid (aj (wr.alloc (.cells #[.int .u8 1,.int .i64 r,.int .i64 i,.int .i64 x,.int .i64 sp,.int .i64 sd] 34)) lo lab a D):=hid (hwa.later (below_new wr _))
 have HFh:=hid (fun wz (hw:aj wz lo lab a D)=>HF wr.heap.size wz lab a ea hw hwa.Uk)
 have HX:Hid (∀b,lo≤b→¬inG p b):=hid (fun b hb hx=>h.2.2.1 b hb (Or.inr hx))
 have n1:(v==v)=true:=beq_self_eq_true v
 clear h HP HF hwa ea
 go_enter Tryz.func28,Tryz.ntmps28
 go_wp2_with fail
 generalize wr.alloc (.cells #[.int .u8 1,.int .i64 r,.int .i64 i,.int .i64 x,.int .i64 sp,.int .i64 sd] 34)=w0 at*
 generalize wr.heap.size=n0 at*
 have b0:w0.cell? ⟨n0,0,none⟩=some (.int .u8 1):=HBk.out.cell 0 rfl
 have b1:w0.cell? ⟨n0,1,none⟩=some (.int .i64 r):=HBk.out.cell 1 rfl
 have b2:w0.cell? ⟨n0,2,none⟩=some (.int .i64 i):=HBk.out.cell 2 rfl
 have b3:w0.cell? ⟨n0,3,none⟩=some (.int .i64 x):=HBk.out.cell 3 rfl
 have b4:w0.cell? ⟨n0,4,none⟩=some (.int .i64 sp):=HBk.out.cell 4 rfl
 have b5:w0.cell? ⟨n0,5,none⟩=some (.int .i64 sd):=HBk.out.cell 5 rfl
 have HTd:=hid HT0.out.drew
 go_region_held3 (fun w'=>w'.cell? ⟨n0,1,none⟩=some (.int .i64 r)∧w'.cell? ⟨n0,2,none⟩=some (.int .i64 i)∧w'.cell? ⟨n0,3,none⟩=some (.int .i64 x)) (first|exact⟨b1,b2,b3⟩|exact⟨d1,d2,d3⟩|exact⟨e1,e2,e3⟩) (first|(go_at_call 32;refine(HTd.out.does HPh.out).mono ?_;rintro e w1 ⟨rfl,⟨d,hd,hS⟩,hT⟩;have hk:=HBk.out.drew.touch hT HNo.out;have d1:w1.cell? ⟨n0,1,none⟩=some (.int .i64 r):=hk.cell 1 rfl;have d2:w1.cell? ⟨n0,2,none⟩=some (.int .i64 i):=hk.cell 2 rfl;have d3:w1.cell? ⟨n0,3,none⟩=some (.int .i64 x):=hk.cell 3 rfl;have HW1:=hid (HWa.out.drew.touch hT (fun b hb _ hx=>HX.out b hb hx));have HK:=hid hk;have H1:=hid hS;clear hS hd hT hk)|(go_at_call 69;refine(HFh.out _ HW1.out).mono ?_;rintro e w2 ⟨rfl,k1,k2⟩;have hk:=HK.out.touch k2 HNx.out;have e1:w2.cell? ⟨n0,1,none⟩=some (.int .i64 r):=hk.cell 1 rfl;have e2:w2.cell? ⟨n0,2,none⟩=some (.int .i64 i):=hk.cell 2 rfl;have e3:w2.cell? ⟨n0,3,none⟩=some (.int .i64 x):=hk.cell 3 rfl;have H2:=hid (H1.out.next (HEa.out▸k1) (k2.mono (fun b _ hx=>HW1.out.Ml hx)));clear k1 k2 hk))
 all_goals (go_wp2_with fail)
 all_goals go_ret
 all_goals exact⟨rfl,H2.out.st⟩
set_option maxHeartbeats 2000000 in
theorem TI(h:TSm w p q lo c D D m wr)(I:PInv c k D)(hN:c.N≤1000)(hk:k≤7000)(r i x sp sd:Int):
  Calls Tryz.prog 28 #[.pointer (some ⟨p.a,0,none⟩),.pointer (some ⟨q,0,none⟩),.agg #[.int .u8 0,.int .i64 r,.int .i64 i,.int .i64 x,.int .i64 sp,.int .i64 sd]] wr (fun e w'=>IX w p q lo c (D.born sp sd) e w'∧PInv c (k+1) (D.born sp sd)):=by
 have hsit:=h.st.1.sit I.san
 have hlens:=hsit.lens
 have HBk:=hid (Blk.new wr #[.int .u8 0,.int .i64 r,.int .i64 i,.int .i64 x,.int .i64 sp,.int .i64 sd] 34)
 have HNo:=hid h.box
 have HT0:=hid (h.later (below_new wr (.cells #[.int .u8 0,.int .i64 r,.int .i64 i,.int .i64 x,.int .i64 sp,.int .i64 sd] 34)))
 have HIn:=hid I
 have HBo:=hid (fun wz (hz:TSm w p q lo c D D m wz)=>Mm c D sp sd hz.1)
 have HWh:=hid (fun wz m' D1 (hz:TSm w p q lo c D1 D m' wz) (hok:BornOk D sp sd c.N)=>hz.world (RZ hz.2.1 sp sd (by omega) (by have:=I.hd.1;simp at this;omega) (by
  unfold Wd.mkB
  cases hc:D.clean with
  |nil=>simp
  |cons b l=>
   obtain⟨zs,hz,R⟩:=hsit.iK
   have:=R.heap.pl.ch.lt b (by rw[hc];simp)
   simp
   omega) (fun hE=>by
    obtain⟨t,h1,_,h2⟩:=hok.new hE
    exact⟨t,h1,by rw[h2];rfl⟩)))
 have n1:(D.mkR sp sd==D.mkR sp sd)=true:=beq_self_eq_true _
 have n2:(D.mkE sp sd==D.mkE sp sd)=true:=beq_self_eq_true _
 generalize D.mkR sp sd=R0 at*
 generalize D.mkE sp sd=E0 at*
 generalize hDb:D.born sp sd=Db at*
 have HDb:=hid hDb
 clear h hsit hlens I hDb
 go_enter Tryz.func28,Tryz.ntmps28
 go_wp2_with fail
 generalize wr.alloc (.cells #[.int .u8 0,.int .i64 r,.int .i64 i,.int .i64 x,.int .i64 sp,.int .i64 sd] 34)=w0 at*
 generalize wr.heap.size=n0 at*
 refine(HBo.out _ HT0.out).mono ?_
 rintro e w1 ⟨rfl,⟨⟨d,hd,hS⟩,hok⟩,hT⟩
 have hk1:=HBk.out.touch hT HNo.out
 have HOk:=hid hok
 have H1:Hid (TSm w p q lo c Db D (m+d) w1):=hid ⟨hS,HT0.out.2.1.touch hT (fun b hb hx=>HT0.out.2.2.1 b hb (Or.inr hx)),HT0.out.2.2⟩
 clear hd hS hok hT
 have b4:w1.cell? ⟨n0,4,none⟩=some (.int .i64 sp):=hk1.cell 4 rfl
 have b5:w1.cell? ⟨n0,5,none⟩=some (.int .i64 sd):=hk1.cell 5 rfl
 clear hk1
 go_wp2_with fail
 refine(HWh.out _ _ _ H1.out HOk.out).mono ?_
 rintro e w2 ⟨rfl,hS⟩
 have H2:=hid hS
 clear hS b4 b5
 go_wp2_with fail
 go_ret
 exact⟨⟨rfl,H2.out.st⟩,by have:=HIn.out.born HOk.out;rw[HDb.out] at this;exact this⟩
theorem tdo_any(h:TSm w p q lo c D D m wr)(I:PInv c k D)(hN:c.N≤1000)(hk:k≤7000)(a r i x sp sd:Int)(hr:In64 r)(hx:In64 x)(ha:0≤a∧a<6):
  Calls Tryz.prog 28 #[.pointer (some ⟨p.a,0,none⟩),.pointer (some ⟨q,0,none⟩),.agg #[.int .u8 a,.int .i64 r,.int .i64 i,.int .i64 x,.int .i64 sp,.int .i64 sd]] wr
   fun e w'=>e=.returned (.bool true)∧∃D',TSt w p q lo c D' D' w'∧PInv c (k+1) D':=by
 have hs:=h.st.1.sit I.san
 have h4:a=0∨a=1∨a=2∨a=3∨a=4∨a=5:=by omega
 rcases h4 with rfl|rfl|rfl|rfl|rfl|rfl
 ·exact(TI h I hN hk r i x sp sd).mono fun e w' ⟨⟨e1,e2⟩,e3⟩=>⟨e1,_,e2,e3⟩
 ·obtain⟨B,D',v,hB,HP,HW,I'⟩:=Na (lo:=lo) (q:=q) hs I hN hk hr hx i
  exact(TJ h r i x sp sd HP HW).mono fun e w' ⟨e1,e2⟩=>⟨e1,_,e2,I'⟩
 ·obtain⟨B,hB,HP,HW,I'⟩:=Mk (lo:=lo) (q:=q) hs I hN hr
  exact(TK h r i x sp sd HP HW).mono fun e w' ⟨e1,e2⟩=>⟨e1,_,e2,I'⟩
 ·obtain⟨B,hB,HP,HW,I'⟩:=Jq (lo:=lo) (q:=q) hs I hN hk hr
  exact(TL h r i x sp sd HP HW).mono fun e w' ⟨e1,e2⟩=>⟨e1,_,e2,I'⟩
 ·exact(TN h hs hN r i x sp sd).mono fun e w' ⟨e1,e2⟩=>⟨e1,_,e2,I.step.up⟩
 ·exact(TP h hs hN r i x sp sd).mono fun e w' ⟨e1,e2⟩=>⟨e1,_,e2,(I.fM _).up⟩
def SB(w wr:World)(p:Pl)(q lo:Nat)(c:Cf)(D':Wd)(e:Ending)(w':World):Prop:=e=.returned (.bool true)∧TSt w p q lo c D' D' w'∧Touch (fun b=>inG p b∨b=q) wr w'
theorem EG(h:bf wr lo q D)(ph:Int)(h0:0≤ph)(h3:ph≤3):
  Calls Tryz.prog 62 #[.pointer (some ⟨q,0,none⟩),.int .i64 ph] wr (fun e w'=>e=.returned (.bool true)∧bf w' lo q (D.begin ph)∧Touch (fun b=>b=q) wr w'):=by
 obtain⟨lab,a,rfl,h⟩:=h
 have H:=hid h
 have g3:=h.c3
 have g4:=h.c4
 have g5:=h.c5
 have g6:=h.c6
 have g7:=h.c7
 have z3:=h.wb.free 3
 have z4:=h.wb.free 4
 have z5:=h.wb.free 5
 have z6:=h.wb.free 6
 have z7:=h.wb.free 7
 clear h
 go_enter Tryz.func62,Tryz.ntmps62
 go_wp2_with fail
 go_ret
 have k1:=H.out.bP (D':={D with phase:=ph}) (k:=3) (u:=.int .i64 ph) rfl rfl rfl rfl rfl rfl rfl
 have k2:=k1.bP (D':={D with phase:=ph,cursor:=0}) (k:=4) (u:=.int .i64 0) rfl rfl rfl rfl rfl rfl rfl
 have k3:=k2.bP (D':={D with phase:=ph,cursor:=0,field:=0}) (k:=5) (u:=.int .i64 0) rfl rfl rfl rfl rfl rfl rfl
 have k4:=k3.bP (D':={D with phase:=ph,cursor:=0,field:=0,scan:=0}) (k:=6) (u:=.int .i64 0) rfl rfl rfl rfl rfl rfl rfl
 have k5:=k4.bP (D':=D.begin ph) (k:=7) (u:=.int .i64 0) rfl rfl rfl rfl rfl rfl rfl
 exact⟨rfl,⟨lab,a,rfl,k5⟩,(((((Touch.refl (fun b=>b=a.q) _).setCell (p:=⟨a.q,3,none⟩) (fun _=>rfl) _).setCell (p:=⟨a.q,4,none⟩) (fun _=>rfl) _).setCell (p:=⟨a.q,5,none⟩) (fun _=>rfl) _).setCell (p:=⟨a.q,6,none⟩) (fun _=>rfl) _).setCell (p:=⟨a.q,7,none⟩) (fun _=>rfl) _⟩
set_option maxHeartbeats 2000000 in
theorem JZ(h:TSm w p q lo c D D m wr)(ph:Int)(h0:0≤ph)(h3:ph≤3):
  Calls Tryz.prog 25 #[.pointer (some ⟨p.a,0,none⟩),.pointer (some ⟨q,0,none⟩),.int .i64 ph,.bool false] wr (SB w wr p q lo c (D.begin ph)):=by
 have HT0:=hid h
 have HPh:=hid (ld_begin (c:=c) (D:=D) ph h0 h3)
 have HWh:=hid (fun wz (hz:bf wz lo q D)=>EG hz ph h0 h3)
 have HLq:=hid h.2.1.lq
 generalize D.begin ph=DB at*
 clear h h0 h3
 go_enter Tryz.func25,Tryz.ntmps25
 go_wp2_with fail
 refine(HT0.out.does HPh.out).mono ?_
 rintro e w1 ⟨rfl,⟨d,hd,hS⟩,hT⟩
 have H1:=hid hS
 have T1:=hid hT
 clear hS hT hd
 go_wp2_with fail
 refine(HWh.out _ H1.out.2.1).mono ?_
 rintro e w2 ⟨rfl,k1,k2⟩
 have H2:=hid (H1.out.next k1 (k2.mono (fun b _ e=>by subst e;exact HLq.out)))
 have T2:Hid (Touch (fun b=>inG p b∨b=q) wr w2):=hid ((T1.out.mono (fun b _ hb=>Or.inl hb)).trans (k2.mono (fun b _ hb=>Or.inr hb)))
 clear k1 k2
 go_wp2_with fail
 go_ret
 exact⟨rfl,H2.out.st,T2.out⟩
set_option maxHeartbeats 2000000 in
theorem Ed(h:TSm w p q lo c D D m wr)(hp:D.parity=0∨D.parity=1)(ph:Int)(h0:0≤ph)(h3:ph≤3):
  Calls Tryz.prog 25 #[.pointer (some ⟨p.a,0,none⟩),.pointer (some ⟨q,0,none⟩),.int .i64 ph,.bool true] wr (SB w wr p q lo c (D.turn.begin ph)):=by
 obtain⟨vt,ht⟩:=tintFns.turn c D
 have HTu:=hid ht
 have HT0:=hid h
 have hwp:IntKind.i64.wrap (1-D.parity)=1-D.parity:=IntWalk.i64_in _ (by omega)
 have HPh:=hid (ld_begin (c:=c) (D:=D.turn) ph h0 h3)
 have HWh:=hid (fun wz (hz:bf wz lo q D.turn)=>EG hz ph h0 h3)
 have HLq:=hid h.2.1.lq
 generalize D.turn.begin ph=DB at*
 clear h ht hp h0 h3
 go_enter Tryz.func25,Tryz.ntmps25
 go_wp2_with fail
 refine(HT0.out.does HTu.out).mono ?_
 rintro e w1 ⟨rfl,⟨d,hd,hS⟩,hT⟩
 have H1:=hid hS
 have T1:=hid hT
 clear hS hT hd
 obtain⟨s1,s2,s3,s4⟩:=H1.out.2.1.setParity (1-D.parity)
 have HS:=hid s1
 clear s1
 have T2:=hid ((T1.out.mono (fun b _ hb=>Or.inl hb)).setCell (X:=fun b=>inG p b∨b=q) (p:=⟨q,2,none⟩) (fun _=>.inr rfl) (.int .i64 (1-D.parity)))
 have H2:Hid (TSm w p q lo c D.turn D.turn (m+d) (w1.setCell ⟨q,2,none⟩ (.int .i64 (1-D.parity)))):=hid (H1.out.next HS.out ((Touch.refl (fun b=>lo≤b) w1).setCell (p:=⟨q,2,none⟩) (fun _=>HLq.out) _))
 go_wp2_with fail
 generalize w1.setCell ⟨q,2,none⟩ (.int .i64 (1-D.parity))=w2 at*
 refine(H2.out.does HPh.out).mono ?_
 rintro e w3 ⟨rfl,⟨d2,hd,hS⟩,hT⟩
 have H3:=hid hS
 have T3:=hid (T2.out.trans (hT.mono (fun b _ hb=>Or.inl hb)))
 clear hS hT hd s2 s3 s4
 go_wp2_with fail
 refine(HWh.out _ H3.out.2.1).mono ?_
 rintro e w4 ⟨rfl,k1,k2⟩
 have H4:=hid (H3.out.next k1 (k2.mono (fun b _ e=>by subst e;exact HLq.out)))
 have T4:=hid (T3.out.trans (k2.mono (fun b _ hb=>Or.inr hb)))
 clear k1 k2
 go_wp2_with fail
 go_ret
 exact⟨rfl,H4.out.st,T4.out⟩
theorem tEnter_any(h:TSm w p q lo c D D m wr)(I:PInv c k D)(ph:Int)(h0:0≤ph)(h3:ph≤3)(b:Bool):
  Calls Tryz.prog 25 #[.pointer (some ⟨p.a,0,none⟩),.pointer (some ⟨q,0,none⟩),.int .i64 ph,.bool b] wr
   fun e w'=>e=.returned (.bool true)∧∃D',TSt w p q lo c D' D' w'∧PInv c (k+2) D'∧Touch (fun b=>inG p b∨b=q) wr w':=by
 obtain⟨zs,hz,R⟩:=(h.st.1.sit I.san).iK
 cases b with
 |false=>exact(JZ h ph h0 h3).mono fun e w' ⟨e1,e2,e3⟩=>⟨e1,_,e2,(I.begin_ ph).up,e3⟩
 |true=>exact(Ed h R.par ph h0 h3).mono fun e w' ⟨e1,e2,e3⟩=>⟨e1,_,e2,I.turn.begin_ ph,e3⟩
end
def jv(P C F:Int)(t:Th):Nat:=if t.mr.count=P then 0 else if(t.h:Int)<C then 0 else if(t.h:Int)=C then((t.pt.length:Int)-F).toNat else t.pt.length
def potT(D:Wd):Nat:=((D.n:Int)-D.cursor).toNat+sumL (jv D.parity D.cursor D.field) D.ts
section
variable {D D':Wd} {t u:Th} {r x:Int} {N:Nat}
theorem MR(P C F:Int)(u:Th):jv P (C+1) 0 u≤jv P C F u:=by
 unfold jv
 by_cases h0:u.mr.count=P
 ·rw[if_pos h0]
  exact Nat.zero_le _
 ·rw[if_neg h0,if_neg h0]
  by_cases h1:(u.h:Int)<C+1
  ·rw[if_pos h1]
   exact Nat.zero_le _
  ·rw[if_neg h1,if_neg (show ¬(u.h:Int)<C by omega),if_neg (show ¬(u.h:Int)=C by omega)]
   split<;>omega
theorem potT_lt(S:San D)(hf:0≤D.field)(hc:0≤D.cursor)(hb:D.tallyB=true):potT D.tally+1≤potT D:=by
 have hlt:D.cursor<(D.n:Int):=by
  unfold Wd.tallyB at hb
  simp at hb
  exact hb.2
 have hmv:∀l:List Th,sumL (jv D.parity (D.cursor+1) 0) l≤sumL (jv D.parity D.cursor D.field) l:=fun l=>ru (fun u _=>MR _ _ _ u)
 unfold Wd.tally
 rw[hb,if_pos rfl]
 unfold Wd.jI
 cases hfd:D.find (D.cursor+1) with
 |none=>
  have h1:=hmv D.ts
  show((D.n:Int)-(D.cursor+1)).toNat+sumL (jv D.parity (D.cursor+1) 0) D.ts+1≤((D.n:Int)-D.cursor).toNat+sumL (jv D.parity D.cursor D.field) D.ts
  omega
 |some t=>
  obtain⟨htl,er⟩:=find_live hfd
  simp only
  split
  ·have h1:=hmv D.ts
   show((D.n:Int)-(D.cursor+1)).toNat+sumL (jv D.parity (D.cursor+1) 0) D.ts+1≤((D.n:Int)-D.cursor).toNat+sumL (jv D.parity D.cursor D.field) D.ts
   omega
  ·rename_i hcn
   split
   ·rename_i hff
    have h1:sumL (jv D.parity D.cursor (D.field+1)) (D.bv (nth t.pt D.field.toNat)).ts=sumL (jv D.parity D.cursor (D.field+1)) D.ts:=lH _ (fun t=>rfl)
    have h2:sumL (jv D.parity D.cursor D.field) D.ts=sumL (jv D.parity D.cursor (D.field+1)) D.ts+1:=by
     refine wJ (t:=t) S.nd htl ?_ (fun u hu hne=> ?_)
     ·unfold jv
      rw[if_neg hcn,if_neg hcn,if_neg (show ¬(t.h:Int)<D.cursor by omega),if_pos (show(t.h:Int)=D.cursor by omega),if_neg (show ¬(t.h:Int)<D.cursor by omega),if_pos (show(t.h:Int)=D.cursor by omega)]
      omega
     ·unfold jv
      split
      ·rfl
      ·split
       ·rfl
       ·rw[if_neg (show ¬(u.h:Int)=D.cursor by omega),if_neg (show ¬(u.h:Int)=D.cursor by omega)]
    show((D.n:Int)-D.cursor).toNat+sumL (jv D.parity D.cursor (D.field+1)) (D.bv (nth t.pt D.field.toNat)).ts+1≤((D.n:Int)-D.cursor).toNat+sumL (jv D.parity D.cursor D.field) D.ts
    omega
   ·have h1:=ky (φ:=jv D.parity (D.cursor+1) 0) (g:=fun t=>{t with mr:={t.mr with count:=D.parity}}) hfd (bG hfd).2.1
    have h2:jv D.parity (D.cursor+1) 0 {t with mr:={t.mr with count:=D.parity}}=0:=by unfold jv;rw[if_pos rfl]
    have h3:=hmv D.ts
    show((D.n:Int)-(D.cursor+1)).toNat+sumL (jv D.parity (D.cursor+1) 0) (updL (D.cursor+1) (fun t=>{t with mr:={t.mr with count:=D.parity}}) D.ts)+1≤((D.n:Int)-D.cursor).toNat+sumL (jv D.parity D.cursor D.field) D.ts
    omega
theorem potT_le(S:San D)(hn:D.n=N)(hN:N≤40)(hf:0≤D.field)(hc:0≤D.cursor)(hlt:∀t,t∈D.live→t.h<N)(hl:∀t,t∈D.live→t.pt.length≤170):potT D≤6840:=by
 have h1:sumL (jv D.parity D.cursor D.field) D.ts≤sumL (fun _=>170) D.ts:=ru (fun t ht=>by
  have:=hl t ht
  unfold jv
  split
  ·omega
  ·split
   ·omega
   ·split<;>omega)
 have h2:∀l:List Th,sumL (fun _=>170) l=170*(aU l).length:=fun l=>by
  induction l with
  |nil=>rfl
  |cons u l ih=>
   rw[bu,aA,ih]
   cases u.ended<;>simp<;>omega
 have h3:(aU D.ts).length≤N:=Md (l:=D.live) S.nd hlt
 rw[h2] at h1
 unfold potT
 omega
end
section
variable {w wr w':World} {p:Pl} {q lo m k n:Nat} {c:Cf} {D D':Wd} {lab:Nat→Nat} {a:WA} {cs:Array Value} {n0:Nat}
theorem Sit.floodW(hs:Sit c D)(hN:c.N≤1000)(h:bf wr lo q D):Calls Tryz.prog 29 #[.pointer (some ⟨q,0,none⟩)] wr (bD wr lo q D.flood (.bool D.floodB)):=by
 obtain⟨zs,hz,R⟩:=hs.iK
 obtain⟨⟨k0,k1⟩,f0,f1⟩:=R.Fg hz
 have s0:=(R.scans hz).2.1
 have hl:=hs.lens.1
 obtain⟨lab,a,rfl,hw⟩:=h
 exact Qh hw k0 k1 s0 (fun t ht=>by have:=(hs.II ht).small;omega) (by omega) (fun b hb=>by have:=R.ring.lt b hb;omega)
theorem Sit.fields(hs:Sit c D)(hW:c.W≤18){t:Th}(ht:t∈D.live):t.pt.length≤170:=by
 have z:=hs.II ht
 have hf:=z.f
 rw[hs.wd.1] at hf
 have hw:=hs.wd.2.w
 have hm:ay (c.W:Int)≤10*17:=by
  show((c.W:Int)-8)*((c.W:Int)-1)≤_
  exact Int.mul_le_mul (by omega) (by omega) (by omega) (by omega)
 omega
theorem TSt.tallyW(h:TSt w p q lo c D D wr)(hs:Sit c D)(hN:c.N≤1000)(hb:Blk wr n0 cs 34):
  Calls Tryz.prog 26 #[.pointer (some ⟨q,0,none⟩)] wr fun e w'=>e=.returned (.bool D.tallyB)∧TSt w p q lo c D D.tally w'∧Blk w' n0 cs 34:=by
 obtain⟨zs,hz,R⟩:=hs.iK
 obtain⟨⟨k0,k1⟩,f0,f1⟩:=R.Fg hz
 obtain⟨lab,a,rfl,hw⟩:=h.2.1
 have hna:=hw.Rf hb
 refine(NV (Bd:=0) hw (hs.wb hN) k0 f0 k1 (fun t ht=>by have:=(hs.II ht).small;omega)).mono ?_
 rintro e w' ⟨rfl,k1,k2⟩
 exact⟨rfl,⟨h.1.touch k2 (fun i hi hx=>h.2.2.1 i (hw.Ml hx) hi) (fun i hx=>Nat.le_trans h.2.2.2 (hw.Ml hx)),k1,h.2.2⟩,hb.touch k2 hna⟩
def FI17(w:World)(p:Pl)(q lo:Nat)(c:Cf)(n0:Nat)(cs:Array Value)(K m:Nat)(wr:World):Prop:=
 ∃D j,TSt w p q lo c D D wr∧PInv c (K+j) D∧j+m≤6840∧potT D≤m∧Blk wr n0 cs 34
end
def Cu:Nat→Wd
 |0=>Wd.new 4 16
 |n+1=>(Cu n).born 1 0
def LD:Wd:=(Cu 4).put 1 0 2 0
def OC:Wd:=LD.put 2 0 3 0
def OD:Wd:=OC.put 4 0 4 0
def OA:Wd:=OD.less 2
def OB:Wd:=OA.less 3
def QI:Wd:=OB.less 4
def Su:Wd:=QI.turn.begin 1
def Sr:Wd:=(tallyN 8 Su).begin 2
def Oe:Wd:=floodN 13 Sr
theorem Tg:∀j:Fin 4,(Cu j).mkE 1 0=0∧(Cu j).mkR 1 0=((j:Nat):Int)+1:=by decide
theorem LH:∀j:Fin 8,(tallyN j Su).tallyB=true:=by decide
theorem Jk:(tallyN 8 Su).tallyB=false:=by decide
theorem LG:∀j:Fin 13,(floodN j Sr).floodB=true:=by decide
theorem rT:(floodN 13 Sr).floodB=false:=by decide
theorem qx:Oe.black 1=true∧Oe.black 2=true∧Oe.black 3=true∧Oe.black 4=false:=by decide
def Qs(h:Nat)(x:Int)(n:Int):Th:=⟨h,[],[x],[],false,⟨n,0,0,0,0,false,0,0⟩⟩
theorem Qt:(Cu 4).find 1=some (Qs 0 0 1):=by rfl
theorem Ta:(Cu 4).find 2=some (Qs 1 0 1):=by rfl
theorem Qu:LD.find 2=some (Qs 1 0 2):=by rfl
theorem Tc:LD.find 3=some (Qs 2 0 1):=by rfl
theorem LF:OC.find 4=some (Qs 3 0 1):=by rfl
theorem Td:OD.find 2=some (Qs 1 3 2):=by rfl
theorem Te:OA.find 3=some (Qs 2 0 2):=by rfl
theorem Tf:OB.find 4=some (Qs 3 4 2):=by rfl
theorem last_one{P:Nat→Bool}{a b:Nat}(ha:∀j,j<a→P j=true)(ha2:P a=false)(hb:∀j,j<b→P j=true)(hb2:P b=false):a=b:=by
 rcases Nat.lt_trichotomy a b with h|h|h
 ·rw[hb a h] at ha2
  cases ha2
 ·exact h
 ·rw[ha b h] at hb2
  cases hb2
theorem PInv.Mj{c:Cf}{k:Nat}{D:Wd}(I:PInv c k D)(r:Int):PInv c (k+1) (D.less r):=I.to (I.san.less r) ((I.bd.less r).mono (Nat.le_succ k)) (less_hd r)
set_option maxHeartbeats 2000000 in
theorem begun17_any(w:World):Calls Tryz.prog 6 #[] w fun e w'=>e=.returned (.bool true)∧Below w.heap.size w w':=by
 go_enter Tryz.func6,Tryz.ntmps6
 go_wp2_with fail
 refine(Gb poolFns 4 _ (by decide) (by decide)).mono ?_
 rintro e w0 ⟨p,q,lo,rfl,h,_,_,_,_⟩
 have H0:Hid (RSt w p (cfR 4) (Cu 0) w0∧PInv (cfR 4) 0 (Cu 0)):=hid ⟨h,PInv.new (cfR 4) (v:=16) (by decide)⟩
 clear h
 go_wp2_with fail
 go_loopw [4] (fun x wx=>∃k:Nat,k≤4∧x=.int .i64 ((k:Int)+1)∧RSt w p (cfR 4) (Cu k) wx∧PInv (cfR 4) k (Cu k)) (fun x _=>5-(intOf x).toNat)
 case atStart=>exact⟨0,by omega,rfl,H0.out.1,H0.out.2⟩
 case round=>
  obtain⟨k,hk,rfl,hS,hI⟩:=hrel
  by_cases hlt:k<4
  ·have HB:=hid (ls_Born (cfR 4) (Cu k) 1 0 hS)
   have hmk:=Tg ⟨k,hlt⟩
   rw[show(Cu k).mkE 1 0=0 from hmk.1,show(Cu k).mkR 1 0=(k:Int)+1 from hmk.2,show(Cu k).born 1 0=Cu (k+1) from rfl] at HB
   have HI:=hid hI
   have hle:(k:Int)+1≤4:=by omega
   clear hS hI hmk
   go_wp2_with fail
   refine HB.out.mono ?_
   rintro e w1 ⟨rfl,h1,_,hOk⟩
   have HS1:=hid h1
   have HI1:Hid (PInv (cfR 4) (k+1) (Cu (k+1))):=hid (HI.out.born hOk)
   clear h1 hOk
   go_wp2_with fail
   go_roundw
   case rel=>exact⟨k+1,by omega,by go_num,HS1.out,HI1.out⟩
   case measure=>simp[intOf];omega
  ·obtain rfl:k=4:=by omega
   have HS:=hid hS
   have I4:PInv (cfR 4) 4 (Cu 4):=hI
   have I5:PInv (cfR 4) 5 LD:=I4.put Qt rfl 0 2 0
   have I6:PInv (cfR 4) 6 OC:=I5.put Qu rfl 0 3 0
   have I7:PInv (cfR 4) 7 OD:=I6.put LF rfl 0 4 0
   have I8:PInv (cfR 4) 8 OA:=I7.Mj 2
   have I9:PInv (cfR 4) 9 OB:=I8.Mj 3
   have HI10:Hid (PInv (cfR 4) 10 QI):=hid (I9.Mj 4)
   have HP1:=hid (ld_Put (c:=cfR 4) (x:=2) (i:=0) I4.san Qt rfl (by decide) (.inr ⟨_,Ta,rfl,by decide⟩) (by decide) (by decide))
   have HP2:=hid (ld_Put (c:=cfR 4) (x:=3) (i:=0) I5.san Qu rfl (by decide) (.inr ⟨_,Tc,rfl,by decide⟩) (by decide) (by decide))
   have HP3:=hid (ld_Put (c:=cfR 4) (x:=4) (i:=0) I6.san LF rfl (by decide) (.inr ⟨_,LF,rfl,by decide⟩) (by decide) (by decide))
   have HL1:=hid (ld_Let (c:=cfR 4) Td rfl (by decide) (by decide) (by decide))
   have HL2:=hid (ld_Let (c:=cfR 4) Te rfl (by decide) (by decide) (by decide))
   have HL3:=hid (ld_Let (c:=cfR 4) Tf rfl (by decide) (by decide) (by decide))
   clear hS hI I4 I5 I6 I7 I8 I9
   go_wp2_with fail
   refine(HS.out.does HP1.out).mono ?_
   rintro e w1 ⟨rfl,h,_⟩
   have H1:Hid (RSt w p (cfR 4) LD w1):=hid h
   clear h
   go_wp2_with fail
   refine(H1.out.does HP2.out).mono ?_
   rintro e w2 ⟨rfl,h,_⟩
   have H2:Hid (RSt w p (cfR 4) OC w2):=hid h
   clear h
   go_wp2_with fail
   refine(H2.out.does HP3.out).mono ?_
   rintro e w3 ⟨rfl,h,_⟩
   have H3:Hid (RSt w p (cfR 4) OD w3):=hid h
   clear h
   go_wp2_with fail
   refine(H3.out.does HL1.out).mono ?_
   rintro e w4 ⟨rfl,h,_⟩
   have H4:Hid (RSt w p (cfR 4) OA w4):=hid h
   clear h
   go_wp2_with fail
   refine(H4.out.does HL2.out).mono ?_
   rintro e w5 ⟨rfl,h,_⟩
   have H5:Hid (RSt w p (cfR 4) OB w5):=hid h
   clear h
   go_wp2_with fail
   refine(H5.out.does HL3.out).mono ?_
   rintro e w6 ⟨rfl,h,_⟩
   have H6:Hid (RSt w p (cfR 4) QI w6):=hid h
   clear h
   go_wp2_with fail
   refine(run_any H6.out HI10.out (by decide) (by decide)).mono ?_
   rintro e w7 ⟨m,n,rfl,t1,t2,f1,f2,_,hS,hsn,_⟩
   have t1:∀j,j<m→(tallyN j Su).tallyB=true:=t1
   have t2:(tallyN m Su).tallyB=false:=t2
   obtain rfl:m=8:=last_one (P:=fun j=>(tallyN j Su).tallyB) t1 t2 (fun j hj=>LH ⟨j,hj⟩) Jk
   have f1:∀j,j<n→(floodN j Sr).floodB=true:=f1
   have f2:(floodN n Sr).floodB=false:=f2
   obtain rfl:n=13:=last_one (P:=fun j=>(floodN j Sr).floodB) f1 f2 (fun j hj=>LG ⟨j,hj⟩) rT
   have H7:Hid (RSt w p (cfR 4) Oe w7):=hid hS
   have HB1:=hid ((tintFns.black (cfR 4) Oe 1 (in64 1)).as (vb qx.1) rfl)
   have HB2:=hid ((tintFns.black (cfR 4) Oe 2 (in64 2)).as (vb qx.2.1) rfl)
   have HB3:=hid ((tintFns.black (cfR 4) Oe 3 (in64 3)).as (vb qx.2.2.1) rfl)
   have HB4:=hid ((tintFns.black (cfR 4) Oe 4 (in64 4)).as (vb qx.2.2.2) rfl)
   have HFl:=hid ((ld_flood (c:=cfR 4) (D:=Oe) hsn).as (vb rT) (flood_idle rT))
   clear hS hsn t1 t2 f1 f2
   go_wp2_with fail
   refine(H7.out.does HB1.out).mono ?_
   rintro e w8 ⟨rfl,h,_⟩
   have H8:=hid h
   clear h
   go_wp2_with fail
   refine(H8.out.does HB2.out).mono ?_
   rintro e w9 ⟨rfl,h,_⟩
   have H9:=hid h
   clear h
   go_wp2_with fail
   refine(H9.out.does HB3.out).mono ?_
   rintro e w10 ⟨rfl,h,_⟩
   have H10:=hid h
   clear h
   go_wp2_with fail
   refine(H10.out.does HB4.out).mono ?_
   rintro e w11 ⟨rfl,h,_⟩
   have H11:=hid h
   clear h
   go_wp2_with fail
   refine(H11.out.does HFl.out).mono ?_
   rintro e w12 ⟨rfl,h,_⟩
   have H12:=hid h
   clear h
   go_wp2_with fail
   go_ret
   exact⟨rfl,H12.out.below⟩
section
variable {w wr w':World} {p:Pl} {q lo m k n:Nat} {c:Cf} {D D2 D':Wd} {t u:Th} {r i x y sp sd:Int}
theorem Sit.tallyW(hs:Sit c D)(hN:c.N≤1000)(h:bf wr lo q D):Calls Tryz.prog 26 #[.pointer (some ⟨q,0,none⟩)] wr (bD wr lo q D.tally (.bool D.tallyB)):=by
 obtain⟨zs,hz,R⟩:=hs.iK
 obtain⟨⟨k0,k1⟩,f0,f1⟩:=R.Fg hz
 obtain⟨lab,a,rfl,hw⟩:=h
 exact Qi hw (hs.wb hN) k0 f0 k1 (fun t ht=>by have:=(hs.II ht).small;omega)
end
def bud(T4 T2 k:Nat):Nat:=k+(if k≤T4 then 0 else 2)+(if k≤T2 then 0 else 6842)
theorem step_if(k T M:Nat):(if k≤T then 0 else M)+(if k=T then M else 0)=if k+1≤T then 0 else M:=by
 by_cases e1:k<T
 ·rw[if_pos (show k≤T by omega),if_neg (show ¬k=T by omega),if_pos (show k+1≤T by omega)]
 ·by_cases e2:k=T
  ·rw[if_pos (show k≤T by omega),if_pos e2,if_neg (show ¬k+1≤T by omega),Nat.zero_add]
  ·rw[if_neg (show ¬k≤T by omega),if_neg e2,if_neg (show ¬k+1≤T by omega),Nat.add_zero]
theorem bud_next(T4 T2 k:Nat):bud T4 T2 k+(if k=T4 then 2 else 0)+(if k=T2 then 6842 else 0)+1≤bud T4 T2 (k+1):=by
 unfold bud
 rw[←step_if k T4 2,←step_if k T2 6842]
 generalize (if k≤T4 then 0 else 2)=a1
 generalize (if k≤T2 then 0 else 6842)=a2
 generalize (if k=T4 then 2 else 0)=a3
 generalize (if k=T2 then 6842 else 0)=a4
 omega
set_option maxHeartbeats 4000000 in
theorem floodPlays_few(n v:Nat)(cr ck:Int)(a:Option Addr)(cap:Nat)(rs:List (List Fld))(tb:Bool)(w:World)(h0:1≤n)(h1:n≤40)(h2:16≤v)(h3:v≤18)(h4:rs.length≤150)(hrs:Recs w a [.int .u8,.int .i64,.int .i64,.int .i64,.int .i64,.int .i64] rs):
  Calls Tryz.prog 5 #[.agg #[.int .i64 (n:Int),.int .i64 (v:Int),.int .i64 cr,.int .i64 ck],.slice a rs.length cap,.bool tb] w fun e w'=>e=.returned (.bool true)∧Below w.heap.size w w':=by
 have hm:(Cf.mk n v 1 1).May:=by
  have e1:(n:Int)*(v:Int)≤40*18:=Int.mul_le_mul (by omega) (by omega) (by omega) (by omega)
  constructor<;>simp<;>omega
 have HO:=hid (fun wz=>openedRW_any poolFns ⟨n,v,1,1⟩ wz hm (by show n≤10000;omega))
 have HRs:=hid hrs
 have g0:¬(n:Int)<1:=by omega
 have g1:¬40<(n:Int):=by omega
 have g2:¬(v:Int)<16:=by omega
 have g3:¬18<(v:Int):=by omega
 have g4:¬150<(rs.length:Int):=by omega
 have HN:Hid (n≤1000∧v≤18∧rs.length≤150∧n≤40):=hid ⟨by omega,h3,h4,h1⟩
 have HI0:=hid (PInv.new (Cf.mk n v 1 1) (v:=v) h2)
 obtain⟨T4,hT4⟩:∃T:Nat,T=rs.length/4:=⟨_,rfl⟩
 obtain⟨T2,hT2⟩:∃T:Nat,T=rs.length/2:=⟨_,rfl⟩
 have q4:(rs.length:Int).tdiv 4=(T4:Int):=by
  rw[hT4,Int.tdiv_eq_ediv_of_nonneg (by omega)]
  rfl
 have q2:(rs.length:Int).tdiv 2=(T2:Int):=by
  rw[hT2,Int.tdiv_eq_ediv_of_nonneg (by omega)]
  rfl
 have w4:wrap64 (T4:Int)=(T4:Int):=IntWalk.wrap64_in _ (by omega)
 have w2:wrap64 (T2:Int)=(T2:Int):=IntWalk.wrap64_in _ (by omega)
 clear hrs hm h0 h1 h2 h3 h4 hT4 hT2
 go_enter Tryz.func5,Tryz.ntmps5
 go_wp2_with fail
 have HB0:=hid (below_new w (.cells #[.int .i64 (n:Int),.int .i64 (v:Int),.int .i64 1,.int .i64 1] 23))
 generalize hw0:w.alloc (.cells #[.int .i64 (n:Int),.int .i64 (v:Int),.int .i64 1,.int .i64 1] 23)=w0 at*
 refine(HO.out w0).mono ?_
 rintro e w1 ⟨p,q,lo,rfl,hS,hW,hlo,hs1,hs2⟩
 have HS0:Hid (TSt w0 p q lo ⟨n,v,1,1⟩ (Wd.new n v) (Wd.new n v) w1):=hid ⟨hS,hW,hlo,hs1⟩
 clear hS hW hlo hs1 hs2
 go_wp2_with fail
 go_loopw [9,49] (fun okv i wr=>okv=.bool true∧∃k:Nat,k≤rs.length∧i=.int .i64 (k:Int)∧∃D,TSt w0 p q lo ⟨n,v,1,1⟩ D D wr∧PInv ⟨n,v,1,1⟩ (bud T4 T2 k) D) (fun _ i _=>rs.length-(intOf i).toNat)
 case atStart=>exact⟨rfl,0,Nat.zero_le _,rfl,_,HS0.out,HI0.out.mono (Nat.zero_le _)⟩
 case round=>
  obtain⟨rfl,k,hk,rfl,D,hS,hI⟩:=hrel
  have HI:=hid hI
  have HBe:Hid (Below w.heap.size w wr):=hid (below_step HB0.out hS.1.below)
  by_cases hlt:k<rs.length
  ·obtain⟨b,off,kd,r,i,x,sp,sd,rfl,hb0,x0,x1,x2,x3,x4,x5,hkd,hr,hx⟩:=lact_of HRs.out hlt
   have y0:=(HBe.out.cell (p:=⟨b,off+k*6,none⟩) hb0).trans x0
   have y1:=(HBe.out.cell (p:=⟨b,off+k*6+1,none⟩) hb0).trans x1
   have y2:=(HBe.out.cell (p:=⟨b,off+k*6+2,none⟩) hb0).trans x2
   have y3:=(HBe.out.cell (p:=⟨b,off+k*6+3,none⟩) hb0).trans x3
   have y4:=(HBe.out.cell (p:=⟨b,off+k*6+4,none⟩) hb0).trans x4
   have y5:=(HBe.out.cell (p:=⟨b,off+k*6+5,none⟩) hb0).trans x5
   obtain⟨m,hM⟩:=hS.sm
   have HBk:=hid (Blk.new wr #[.int .u8 kd,.int .i64 r,.int .i64 i,.int .i64 x,.int .i64 sp,.int .i64 sd] 34)
   have HNo:=hid hM.box
   have HQn:Hid (wr.heap.size≠q):=hid (by have:=(hM.2.1.setParity 0).2.2.2;omega)
   have HM0:=hid (hM.later (below_new wr (.cells #[.int .u8 kd,.int .i64 r,.int .i64 i,.int .i64 x,.int .i64 sp,.int .i64 sd] 34)))
   have HR:=hid hr
   have HX:=hid hx
   have HKd:=hid hkd
   clear hS hI hM hr hx hkd x0 x1 x2 x3 x4 x5 hb0
   go_upto_if 58 with fail
   generalize wr.alloc (.cells #[.int .u8 kd,.int .i64 r,.int .i64 i,.int .i64 x,.int .i64 sp,.int .i64 sd] 34)=wa at*
   generalize wr.heap.size=n0 at*
   clear y0 y1 y2 y3 y4 y5
   go_cut [9,49] from 49 to 125 (fun okv iv wx=>okv=.bool true∧iv=.int .i64 (k:Int)∧Blk wx n0 #[.int .u8 kd,.int .i64 r,.int .i64 i,.int .i64 x,.int .i64 sp,.int .i64 sd] 34∧∃D,TSt w0 p q lo ⟨n,v,1,1⟩ D D wx∧PInv ⟨n,v,1,1⟩ (bud T4 T2 k+if k=T4 then 2 else 0) D)
   case first=>
    by_cases hkT:k=T4
    ·have kq:((k:Int)==(T4:Int))=true:=by rw[beq_iff_eq];omega
     have HkT:=hid hkT
     clear hkT
     go_wp2_with fail
     refine(tEnter_any HM0.out HI.out 1 (by decide) (by decide) tb).mono ?_
     rintro e wq ⟨rfl,DQ,hS,hI,hT⟩
     have hk1:=HBk.out.touch hT (fun hx=>hx.elim HNo.out HQn.out)
     have HE:=hid (And.intro hk1 (And.intro hS hI))
     clear hS hI hT hk1
     go_wp2_with fail
     go_meet
     exact⟨rfl,rfl,HE.out.1,DQ,HE.out.2.1,by rw[if_pos HkT.out];exact HE.out.2.2.mono (by omega)⟩
    ·have kq:((k:Int)==(T4:Int))=false:=by rw[beq_eq_false_iff_ne];omega
     go_wp2_with fail
     go_meet
     exact⟨rfl,rfl,HBk.out,D,HM0.out.st,by rw[if_neg hkT];exact HI.out⟩
   case rest=>
    obtain⟨rfl,rfl,hB,D,hS,hI⟩:=hcut
    have HBk:=hid hB
    have HS:=hid hS
    have HI:=hid hI
    have HKb:Hid (bud T4 T2 k+(if k=T4 then 2 else 0)≤152+if k≤T2 then 0 else 6842):=hid (by
     have:=HN.out.2.2.1
     unfold bud
     split<;>split<;>split<;>omega)
    clear hB hS hI HM0
    generalize hKe:bud T4 T2 k+(if k=T4 then 2 else 0)=K1 at*
    have HKe:=hid hKe
    clear hKe
    go_upto_if 67 with fail
    go_cut [9,49] from 49 to 125 (fun okv iv wx=>okv=.bool true∧iv=.int .i64 (k:Int)∧Blk wx n0 #[.int .u8 kd,.int .i64 r,.int .i64 i,.int .i64 x,.int .i64 sp,.int .i64 sd] 34∧∃D,TSt w0 p q lo ⟨n,v,1,1⟩ D D wx∧PInv ⟨n,v,1,1⟩ (K1+if k=T2 then 6842 else 0) D)
    case first=>
     by_cases hkT:k=T2
     ·have kq:((k:Int)==(T2:Int))=true:=by rw[beq_iff_eq];omega
      obtain⟨μ,hμ⟩:=least_fn (FI17 w0 p q lo ⟨n,v,1,1⟩ n0 #[.int .u8 kd,.int .i64 r,.int .i64 i,.int .i64 x,.int .i64 sp,.int .i64 sd] K1)
      have HM:=hid hμ
      have HS0:Hid (∃m,FI17 w0 p q lo ⟨n,v,1,1⟩ n0 #[.int .u8 kd,.int .i64 r,.int .i64 i,.int .i64 x,.int .i64 sp,.int .i64 sd] K1 m wc):=hid (by
       have hs:=HS.out.1.sit HI.out.san
       have hcu:=HS.out.1.cursF
       exact⟨6840,D,0,HS.out,HI.out,by omega,potT_le HI.out.san hcu.2.2.1 HN.out.2.2.2 hcu.2.1 hcu.1 (fun t ht=>by
        obtain⟨zs,m,hG,hR,_⟩:=HS.out.1
        exact hR.hlt ht) (fun t ht=>hs.fields HN.out.2.1 ht),HBk.out⟩)
      have HKb2:Hid (K1≤152):=hid (by have:=HKb.out;rw[if_pos (show k≤T2 by omega)] at this;exact this)
      have HkT:=hid hkT
      clear hμ hkT
      simp only[w2,kq]
      go_wp2_with fail
      generalize wc=wl at*
      go_loopw [] (fun wr=>∃m,FI17 w0 p q lo ⟨n,v,1,1⟩ n0 #[.int .u8 kd,.int .i64 r,.int .i64 i,.int .i64 x,.int .i64 sp,.int .i64 sd] K1 m wr) (fun wr=>μ wr)
      case atStart=>exact HS0.out
      case round=>
       obtain⟨m0,hm0⟩:=hrel
       obtain⟨⟨D,j,hS,hI,hj,hp,hB⟩,_⟩:=HM.out wr m0 hm0
       clear hm0
       have hs:=hS.1.sit hI.san
       have hcu:=hS.1.cursF
       have HTw:=hid (hS.tallyW hs HN.out.1 hB)
       have HTl:=hid (ld_tally (c:=⟨n,v,1,1⟩) hI.san (fun q=>by have h1:=hI.bd.shd q;have h2:=HKb2.out;omega))
       cases hb:D.tallyB with
       |true=>
        rw[hb] at HTw HTl
        have hlt:=potT_lt hI.san hcu.2.1 hcu.1 hb
        obtain⟨m,hme⟩:∃m,m+1=μ wr:=⟨μ wr-1,by omega⟩
        have HK:Hid (j+1+m≤6840∧potT D.tally≤m∧PInv ⟨n,v,1,1⟩ (K1+(j+1)) D.tally):=hid ⟨by omega,by omega,hI.tally⟩
        clear hS hI hj hp hB hs hcu hb hlt
        go_wp2_with fail
        refine HTw.out.mono ?_
        rintro e w3 ⟨rfl,hS,hB⟩
        have HS3:=hid hS
        have HB3:=hid hB
        clear hS hB
        go_wp2_with fail
        refine(HS3.out.does HTl.out).mono ?_
        rintro e w4 ⟨rfl,hS,hT⟩
        have HF:Hid (FI17 w0 p q lo ⟨n,v,1,1⟩ n0 #[.int .u8 kd,.int .i64 r,.int .i64 i,.int .i64 x,.int .i64 sp,.int .i64 sd] K1 m w4):=hid ⟨_,j+1,hS,HK.out.2.2,HK.out.1,HK.out.2.1,HB3.out.touch hT HNo.out⟩
        clear hS hT
        go_wp2_with fail
        go_roundw
        case rel=>first|exact⟨m,HF.out⟩|exact⟨_,_,_,_,⟨m,HF.out⟩,rfl⟩
        case measure=>
         have:=(HM.out w4 m HF.out).2
         omega
       |false=>
        rw[hb] at HTw
        have HI:=hid (hI.mono (show K1+j≤K1+6840 by omega))
        have HTi:=hid (tally_idle hb)
        clear hS hI hj hp hB hs hcu hb HTl
        go_wp2_with fail
        refine HTw.out.mono ?_
        rintro e w3 ⟨rfl,hS,hB⟩
        rw[HTi.out] at hS
        obtain⟨m3,hM3⟩:=hS.sm
        have HM3:=hid hM3
        have HB3:=hid hB
        clear hS hB hM3
        go_wp2_with fail
        refine(tEnter_any HM3.out HI.out 2 (by decide) (by decide) false).mono ?_
        rintro e wq ⟨rfl,DQ,hS,hI,hT⟩
        have HE:=hid (And.intro (HB3.out.touch hT (fun hx=>hx.elim HNo.out HQn.out)) (And.intro hS hI))
        clear hS hI hT
        go_wp2_with fail
        go_meet
        exact⟨rfl,rfl,HE.out.1,DQ,HE.out.2.1,by rw[if_pos HkT.out];exact HE.out.2.2.mono (by omega)⟩
     ·have kq:((k:Int)==(T2:Int))=false:=by rw[beq_eq_false_iff_ne];omega
      go_wp2_with fail
      go_meet
      exact⟨rfl,rfl,HBk.out,D,HS.out,by rw[if_neg hkT];exact HI.out⟩
    case rest=>
     obtain⟨rfl,rfl,hB,D,hS,hI⟩:=hcut
     have x0:wc.cell? ⟨n0,0,none⟩=some (.int .u8 kd):=hB.cell 0 rfl
     have x1:wc.cell? ⟨n0,1,none⟩=some (.int .i64 r):=hB.cell 1 rfl
     have x2:wc.cell? ⟨n0,2,none⟩=some (.int .i64 i):=hB.cell 2 rfl
     have x3:wc.cell? ⟨n0,3,none⟩=some (.int .i64 x):=hB.cell 3 rfl
     have x4:wc.cell? ⟨n0,4,none⟩=some (.int .i64 sp):=hB.cell 4 rfl
     have x5:wc.cell? ⟨n0,5,none⟩=some (.int .i64 sd):=hB.cell 5 rfl
     have HK1:Hid (K1+(if k=T2 then 6842 else 0)+1≤bud T4 T2 (k+1)):=hid (HKe.out▸bud_next T4 T2 k)
     have HK:Hid (K1+(if k=T2 then 6842 else 0)+1≤7000):=hid (by
      have h1:=HKb.out
      by_cases e2:k=T2
      ·rw[if_pos e2]
       rw[if_pos (show k≤T2 by omega)] at h1
       omega
      ·rw[if_neg e2]
       by_cases e3:k≤T2
       ·rw[if_pos e3] at h1
        omega
       ·rw[if_neg e3] at h1
        omega)
     obtain⟨m,hM⟩:=hS.sm
     have HM:=hid hM
     have HQ:=hid hI
     have HMt:Hid (∀d:Nat,d≤96→IntKind.u64.wrap (u64m (m+d)-u64m m)=(d:Int)∧(d:Int)≤96):=hid (fun d hd=>⟨u64m_add m d (by omega),by omega⟩)
     have HPh:Hid (∀wz D1 m1,TSm w0 p q lo ⟨n,v,1,1⟩ D1 D m1 wz→wz.cell? ⟨q,3,none⟩=some (.int .i64 D.phase)):=hid (fun wz D1 m1 hz=>by
      obtain⟨lab,a,rfl,hw⟩:=hz.2.1
      exact hw.c3)
     clear hB hS hI hM HS HI HBk HKe HKb
     generalize K1+(if k=T2 then 6842 else 0)=K2 at*
     go_wp2_with fail
     refine(HM.out.meter).mono ?_
     rintro e wm ⟨rfl,rfl⟩
     by_cases hk6:kd<6
     ·have HK6:=hid hk6
      go_wp2_with fail
      refine(tdo_any HM.out HQ.out HN.out.1 (by have:=HK.out;omega) kd r i x sp sd HR.out HX.out ⟨HKd.out,HK6.out⟩).mono ?_
      rintro e w3 ⟨rfl,D',hS',hI'⟩
      have HI2:=hid hI'
      have HS2:=hid hS'
      have HL:=hid (PInv.lq (hS'.1.sit hI'.san) hI' HN.out.1 HN.out.2.1 (by have:=HK.out;omega))
      clear hI' hS'
      go_wp2_with fail
      refine(graveLike_any HS2.out HL.out).mono ?_
      rintro e w7 ⟨rfl,hS,hT⟩
      have H7:=hid hS
      clear hS hT
      go_wp2_with fail
      go_roundw
      case rel=>exact⟨rfl,k+1,by omega,by go_num,D',H7.out,HI2.out.mono HK1.out⟩
      case measure=>simp[intOf];omega
     ·have HK6:=hid hk6
      have hc3:=HPh.out _ _ _ HM.out
      by_cases hp:D.phase=1
      ·rw[hp] at hc3
       have HTl:=hid (ld_tally (c:=⟨n,v,1,1⟩) HQ.out.san (fun q=>by have h1:=HQ.out.bd.shd q;have h2:=HK.out;omega))
       have HWt:=hid (fun wz D1 m1 (hz:TSm w0 p q lo ⟨n,v,1,1⟩ D1 D m1 wz)=>hz.world ((HM.out.st.1.sit HQ.out.san).tallyW HN.out.1 hz.2.1))
       have HIt:=hid HQ.out.tally
       have n1:=eqself D.tallyB
       generalize D.tallyB=tb1 at*
       generalize D.tally=DT at*
       clear hp
       go_wp2_with fail
       refine(HM.out.does HTl.out).mono ?_
       rintro e w3 ⟨rfl,⟨d,hd,hS⟩,hT⟩
       have H3:=hid hS
       clear hS hT hd
       go_wp2_with fail
       refine(HWt.out _ _ _ H3.out).mono ?_
       rintro e w4 ⟨rfl,hS⟩
       have H4:=hid hS
       clear hS
       go_wp2_with fail
       obtain⟨D',hD'⟩:∃D',D'=DT:=⟨_,rfl⟩
       have hS':TSt w0 p q lo ⟨n,v,1,1⟩ D' D' w4:=by rw[hD'];exact H4.out.st
       have hI':PInv ⟨n,v,1,1⟩ (K2+1) D':=by rw[hD'];exact HIt.out
       have HI2:=hid hI'
       have HS2:=hid hS'
       have HL:=hid (PInv.lq (hS'.1.sit hI'.san) hI' HN.out.1 HN.out.2.1 (by have:=HK.out;omega))
       clear hI' hS'
       go_wp2_with fail
       refine(graveLike_any HS2.out HL.out).mono ?_
       rintro e w7 ⟨rfl,hS,hT⟩
       have H7:=hid hS
       clear hS hT
       go_wp2_with fail
       go_roundw
       case rel=>exact⟨rfl,k+1,by omega,by go_num,D',H7.out,HI2.out.mono HK1.out⟩
       case measure=>simp[intOf];omega
      ·have hpb:(D.phase==1)=false:=by rw[beq_eq_false_iff_ne];exact hp
       have HTl:=hid (ld_flood (c:=⟨n,v,1,1⟩) HQ.out.san)
       have HWt:=hid (fun wz D1 m1 (hz:TSm w0 p q lo ⟨n,v,1,1⟩ D1 D m1 wz)=>hz.world ((HM.out.st.1.sit HQ.out.san).floodW HN.out.1 hz.2.1))
       have HIt:=hid HQ.out.flood
       have n1:=eqself D.floodB
       generalize D.floodB=tb1 at*
       generalize D.flood=DT at*
       generalize D.phase=vp at*
       clear hp
       go_wp2_with fail
       refine(HM.out.does HTl.out).mono ?_
       rintro e w3 ⟨rfl,⟨d,hd,hS⟩,hT⟩
       have hmt:=(HMt.out d hd).1
       have hdl:=(HMt.out d hd).2
       have H3:=hid hS
       clear hS hT hd
       go_wp2_with fail
       refine(HWt.out _ _ _ H3.out).mono ?_
       rintro e w4 ⟨rfl,hS⟩
       have H4:=hid hS
       clear hS
       go_wp2_with fail
       refine(H4.out.meter).mono ?_
       rintro e w5 ⟨rfl,rfl⟩
       obtain⟨D',hD'⟩:∃D',D'=DT:=⟨_,rfl⟩
       have hS':TSt w0 p q lo ⟨n,v,1,1⟩ D' D' w4:=by rw[hD'];exact H4.out.st
       have hI':PInv ⟨n,v,1,1⟩ (K2+1) D':=by rw[hD'];exact HIt.out.up
       have HI2:=hid hI'
       have HS2:=hid hS'
       have HL:=hid (PInv.lq (hS'.1.sit hI'.san) hI' HN.out.1 HN.out.2.1 (by have:=HK.out;omega))
       clear hI' hS'
       go_wp2_with fail
       refine(graveLike_any HS2.out HL.out).mono ?_
       rintro e w7 ⟨rfl,hS,hT⟩
       have H7:=hid hS
       clear hS hT
       go_wp2_with fail
       go_roundw
       case rel=>exact⟨rfl,k+1,by omega,by go_num,D',H7.out,HI2.out.mono HK1.out⟩
       case measure=>simp[intOf];omega
  ·clear hS hI
   go_wp2_with fail
   refine(begun17_any _).mono ?_
   rintro e w9 ⟨rfl,hb⟩
   have HB9:=hid (below_step HBe.out hb)
   clear hb
   go_wp2_with fail
   go_ret
   exact⟨rfl,HB9.out⟩
set_option maxHeartbeats 2000000 in
theorem floodPlays_out(N V cr ck:Int)(a:Option Addr)(cap len:Nat)(tb:Bool)(w:World)(h:N<1∨40<N∨V<16∨18<V∨150<(len:Int)):
  Calls Tryz.prog 5 #[.agg #[.int .i64 N,.int .i64 V,.int .i64 cr,.int .i64 ck],.slice a len cap,.bool tb] w fun e w'=>e=.returned (.bool true)∧Below w.heap.size w w':=by
 by_cases g0:N<1
 ·clear h
  go_enter Tryz.func5,Tryz.ntmps5
  go_wp2_with fail
  refine(begun17_any _).mono ?_
  rintro e w9 ⟨rfl,hb⟩
  have HB9:=hid (below_step (below_new w (.cells #[.int .i64 N,.int .i64 V,.int .i64 cr,.int .i64 ck] 23)) hb)
  clear hb
  go_wp2_with fail
  go_ret
  exact⟨rfl,HB9.out⟩
 ·skip
  by_cases g1:40<N
  ·clear h
   go_enter Tryz.func5,Tryz.ntmps5
   go_wp2_with fail
   refine(begun17_any _).mono ?_
   rintro e w9 ⟨rfl,hb⟩
   have HB9:=hid (below_step (below_new w (.cells #[.int .i64 N,.int .i64 V,.int .i64 cr,.int .i64 ck] 23)) hb)
   clear hb
   go_wp2_with fail
   go_ret
   exact⟨rfl,HB9.out⟩
  ·skip
   by_cases g2:V<16
   ·clear h
    go_enter Tryz.func5,Tryz.ntmps5
    go_wp2_with fail
    refine(begun17_any _).mono ?_
    rintro e w9 ⟨rfl,hb⟩
    have HB9:=hid (below_step (below_new w (.cells #[.int .i64 N,.int .i64 V,.int .i64 cr,.int .i64 ck] 23)) hb)
    clear hb
    go_wp2_with fail
    go_ret
    exact⟨rfl,HB9.out⟩
   ·skip
    by_cases g3:18<V
    ·clear h
     go_enter Tryz.func5,Tryz.ntmps5
     go_wp2_with fail
     refine(begun17_any _).mono ?_
     rintro e w9 ⟨rfl,hb⟩
     have HB9:=hid (below_step (below_new w (.cells #[.int .i64 N,.int .i64 V,.int .i64 cr,.int .i64 ck] 23)) hb)
     clear hb
     go_wp2_with fail
     go_ret
     exact⟨rfl,HB9.out⟩
    ·skip
     have g4:150<(len:Int):=by omega
     clear h
     go_enter Tryz.func5,Tryz.ntmps5
     go_wp2_with fail
     refine(begun17_any _).mono ?_
     rintro e w9 ⟨rfl,hb⟩
     have HB9:=hid (below_step (below_new w (.cells #[.int .i64 N,.int .i64 V,.int .i64 cr,.int .i64 ck] 23)) hb)
     clear hb
     go_wp2_with fail
     go_ret
     exact⟨rfl,HB9.out⟩
theorem floodPlays_any(N V cr ck:Int)(a:Option Addr)(cap:Nat)(rs:List (List Fld))(tb:Bool)(w:World)(hrs:Recs w a [.int .u8,.int .i64,.int .i64,.int .i64,.int .i64,.int .i64] rs):
  Calls Tryz.prog 5 #[.agg #[.int .i64 N,.int .i64 V,.int .i64 cr,.int .i64 ck],.slice a rs.length cap,.bool tb] w fun e w'=>e=.returned (.bool true)∧Below w.heap.size w w':=by
 by_cases h:N<1∨40<N∨V<16∨18<V∨150<(rs.length:Int)
 ·exact floodPlays_out N V cr ck a cap _ tb w h
 ·have:=floodPlays_few N.toNat V.toNat cr ck a cap rs tb w (by omega) (by omega) (by omega) (by omega) (by omega) hrs
  rw[show(N.toNat:Int)=N by omega,show(V.toNat:Int)=V by omega] at this
  exact this
end Go.Proofs.YtofhdfjkhfkhiaaGreat.Pk
