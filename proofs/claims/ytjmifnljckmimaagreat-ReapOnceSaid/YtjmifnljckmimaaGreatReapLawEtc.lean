/-
  Texts laid together: ReapLaw, ReapOnceF.
-/
import Derived.Test.YtjmifnljckmimaaGreatFloodWEtc
import Derived.Test.YtjmifnljckmimaaGreatTallyOneEtc
import Derived.Test.YtjmifnljckmimaaGreatChainsEtc
import Derived.Test.YtjmifnljckmimaaGreatTameEtc
namespace Go.Proofs.YtjmifnljckmimaaGreat.Pk
open Lib (hid)
open Go.RowKit
set_option linter.unusedVariables false
set_option linter.unusedSimpArgs false
set_option maxRecDepth 100000
def PX:Wd:=(Wd.new 2 16).born 1 0
def QU:Wd:=PX.born 1 0
def Ld:Wd:=QU.put 1 0 2 0
def NK:Wd:=Ld.put 2 0 1 0
def NJ:Wd:=NK.less 1
def IK:Wd:=NJ.less 2
def Qq:Wd:=IK.turn.begin 1
def Qo:Wd:=(tallyN 4 Qq).begin 2
def Rn:Wd:=floodN 2 Qo
def Le:Wd:=Rn.begin 3
def Lf:Wd:=Le.reap
def Lg:Wd:=Lf.reap
def Fg:Wd:=Lg.reap
theorem Lj:(Wd.new 2 16).mkE 1 0=0∧(Wd.new 2 16).mkR 1 0=1:=by decide
theorem Ll:PX.mkE 1 0=0∧PX.mkR 1 0=2:=by decide
theorem Lm:∀j:Fin 4,(tallyN j Qq).bf=true:=by decide
theorem IM:(tallyN 4 Qq).bf=false:=by decide
theorem Li:∀j:Fin 2,(floodN j Qo).aZ=true:=by decide
theorem IL:(floodN 2 Qo).aZ=false:=by decide
theorem Am:Le.reapB=true∧Lf.reapB=true∧Lg.reapB=true:=by decide
theorem Fh:Fg.pending=1∧Fg.cnt 2=0∧IK.pending=0:=by decide
theorem Lh:0≤Le.field∧0≤Lf.field∧0≤Lg.field:=by decide
def Qp(h:Nat)(x:Int)(n:Int):Th:=⟨h,[],[x],[],false,⟨n,0,0,0,0,false,0,0⟩⟩
theorem Oy:QU.find 1=some (Qp 0 0 1):=by rfl
theorem QV:QU.find 2=some (Qp 1 0 1):=by rfl
theorem Oz:Ld.find 2=some (Qp 1 0 2):=by rfl
theorem QW:Ld.find 1=some (Qp 0 2 1):=by rfl
theorem QX:NK.find 1=some (Qp 0 2 2):=by rfl
theorem QY:NJ.find 2=some (Qp 1 1 2):=by rfl
set_option maxHeartbeats 2000000 in
theorem begun18_any(w:World):Calls Tryz.prog 7 #[] w fun e w'=>e=.returned (.bool true)∧Below w.heap.size w w':=by
 go_enter Tryz.func7,Tryz.ntmps7
 go_wp2_with fail
 refine(vQ poolFns 2 _ (by decide) (by decide)).mono ?_
 rintro e w0 ⟨p,q,lo,rfl,h,_,_,_,_⟩
 have H0:=hid h
 have I0:=hid (PInv.new (cfR 2) (v:=16) (by decide))
 have HB1:=hid (Gp (cfR 2) (Wd.new 2 16) 1 0 h)
 rw[Lj.1,Lj.2,show(Wd.new 2 16).born 1 0=PX from rfl] at HB1
 clear h
 go_wp2_with fail
 refine HB1.out.mono ?_
 rintro e w1 ⟨rfl,h1,_,hOk⟩
 have I1:Hid (PInv (cfR 2) 1 PX):=hid (I0.out.born hOk)
 have HB2:=hid (Gp (cfR 2) PX 1 0 h1)
 rw[Ll.1,Ll.2,show PX.born 1 0=QU from rfl] at HB2
 clear h1 hOk
 go_wp2_with fail
 refine HB2.out.mono ?_
 rintro e w2 ⟨rfl,h2,_,hOk⟩
 have H2:=hid h2
 have I2:PInv (cfR 2) 2 QU:=I1.out.born hOk
 have I3:PInv (cfR 2) 3 Ld:=I2.put Oy rfl 0 2 0
 have I4:PInv (cfR 2) 4 NK:=I3.put Oz rfl 0 1 0
 have I5:PInv (cfR 2) 5 NJ:=I4.Oo 1
 have HI6:Hid (PInv (cfR 2) 6 IK):=hid (I5.Oo 2)
 have HP1:=hid (ld_Put (c:=cfR 2) (x:=2) (i:=0) I2.san Oy rfl (by decide) (.inr ⟨_,QV,rfl,by decide⟩) (by decide) (by decide))
 have HP2:=hid (ld_Put (c:=cfR 2) (x:=1) (i:=0) I3.san Oz rfl (by decide) (.inr ⟨_,QW,rfl,by decide⟩) (by decide) (by decide))
 have HL1:=hid (ld_Let (c:=cfR 2) QX rfl (by decide) (by decide) (by decide))
 have HL2:=hid (ld_Let (c:=cfR 2) QY rfl (by decide) (by decide) (by decide))
 have HPe:=hid ((pQ (c:=cfR 2) (D:=IK)).as (vi Fh.2.2) rfl)
 clear h2 hOk I2 I3 I4 I5
 go_wp2_with fail
 refine(H2.out.does HP1.out).mono ?_
 rintro e w3 ⟨rfl,h,_⟩
 have H3:Hid (RSt w p (cfR 2) Ld w3):=hid h
 clear h
 go_wp2_with fail
 refine(H3.out.does HP2.out).mono ?_
 rintro e w4 ⟨rfl,h,_⟩
 have H4:Hid (RSt w p (cfR 2) NK w4):=hid h
 clear h
 go_wp2_with fail
 refine(H4.out.does HL1.out).mono ?_
 rintro e w5 ⟨rfl,h,_⟩
 have H5:Hid (RSt w p (cfR 2) NJ w5):=hid h
 clear h
 go_wp2_with fail
 refine(H5.out.does HL2.out).mono ?_
 rintro e w6 ⟨rfl,h,_⟩
 have H6:Hid (RSt w p (cfR 2) IK w6):=hid h
 clear h
 go_wp2_with fail
 refine(H6.out.does HPe.out).mono ?_
 rintro e w7 ⟨rfl,h,_⟩
 have H7:Hid (RSt w p (cfR 2) IK w7):=hid h
 clear h
 go_wp2_with fail
 refine(NI H7.out HI6.out (by decide) (by decide)).mono ?_
 rintro e w8 ⟨m,n,rfl,t1,t2,f1,f2,_,hS,hsn,_⟩
 have t1:∀j,j<m→(tallyN j Qq).bf=true:=t1
 have t2:(tallyN m Qq).bf=false:=t2
 obtain rfl:m=4:=last_one (P:=fun j=>(tallyN j Qq).bf) t1 t2 (fun j hj=>Lm ⟨j,hj⟩) IM
 have f1:∀j,j<n→(floodN j Qo).aZ=true:=f1
 have f2:(floodN n Qo).aZ=false:=f2
 obtain rfl:n=2:=last_one (P:=fun j=>(floodN j Qo).aZ) f1 f2 (fun j hj=>Li ⟨j,hj⟩) IL
 have H8:Hid (RSt w p (cfR 2) Rn w8):=hid hS
 have s0:San Le:=San.same_but (D:=Rn) hsn rfl rfl rfl rfl (fun b hb=>.inl hb)
 have s1:San Lf:=s0.reap Lh.1
 have s2:San Lg:=s1.reap Lh.2.1
 have HBe:=hid (ld_begin (c:=cfR 2) (D:=Rn) 3 (by decide) (by decide))
 have HR1:=hid ((ld_reap (c:=cfR 2) s0).as (vb Am.1) rfl)
 have HR2:=hid ((ld_reap (c:=cfR 2) s1).as (vb Am.2.1) rfl)
 have HR3:=hid ((ld_reap (c:=cfR 2) s2).as (vb Am.2.2) rfl)
 have HPf:=hid ((pQ (c:=cfR 2) (D:=Fg)).as (vi Fh.1) rfl)
 have HCn:=hid ((zH (c:=cfR 2) (D:=Fg) (xy 2)).as (vi Fh.2.1) rfl)
 clear hS hsn t1 t2 f1 f2 s0 s1 s2
 go_wp2_with fail
 refine(H8.out.does HBe.out).mono ?_
 rintro e w9 ⟨rfl,h,_⟩
 have H9:Hid (RSt w p (cfR 2) Le w9):=hid h
 clear h
 go_wp2_with fail
 refine(H9.out.does HR1.out).mono ?_
 rintro e w10 ⟨rfl,h,_⟩
 have H10:Hid (RSt w p (cfR 2) Lf w10):=hid h
 clear h
 go_wp2_with fail
 refine(H10.out.does HR2.out).mono ?_
 rintro e w11 ⟨rfl,h,_⟩
 have H11:Hid (RSt w p (cfR 2) Lg w11):=hid h
 clear h
 go_wp2_with fail
 refine(H11.out.does HR3.out).mono ?_
 rintro e w12 ⟨rfl,h,_⟩
 have H12:Hid (RSt w p (cfR 2) Fg w12):=hid h
 clear h
 go_wp2_with fail
 refine(H12.out.does HPf.out).mono ?_
 rintro e w13 ⟨rfl,h,_⟩
 have H13:Hid (RSt w p (cfR 2) Fg w13):=hid h
 clear h
 go_wp2_with fail
 refine(H13.out.does HCn.out).mono ?_
 rintro e w14 ⟨rfl,h,_⟩
 have H14:Hid (RSt w p (cfR 2) Fg w14):=hid h
 clear h
 go_wp2_with fail
 go_ret
 exact⟨rfl,H14.out.below⟩
section
variable {D:Wd} {w wr w':World} {p:Pl} {N k:Nat} {L:List Int}
def Wd.rp(D:Wd)(k:Nat):Wd:=(D.begin 3).move (k:Int) 0
theorem NH(hp:D.parity=0)(hc:∀t,t∈D.ts→t.mr.color=0)(hk:k<D.n):(D.rp k).reap=D.rp (k+1)∧(D.rp k).reapB=true:=by
 have hb:(D.rp k).reapB=true:=by
  unfold Wd.reapB
  rw[show(D.rp k).phase=3 from rfl,show(D.rp k).cursor=(k:Int) from rfl,show(D.rp k).n=D.n from rfl]
  rw[decide_eq_true rfl,decide_eq_true (by omega)]
  rfl
 refine⟨?_,hb⟩
 unfold Wd.reap
 rw[if_pos hb]
 have e:(D.rp k).move ((D.rp k).cursor+1) 0=D.rp (k+1):=by
  show(D.begin 3).move ((k:Int)+1) 0=(D.begin 3).move ((k+1:Nat):Int) 0
  rw[show((k+1:Nat):Int)=(k:Int)+1 by omega]
 unfold Wd.reapAt
 split
 ·exact e
 ·rename_i t hf
  have hm:t∈D.ts:=ig (show D.find ((D.rp k).cursor+1)=some t from hf)
  rw[if_pos (show t.mr.dead=true∨t.mr.color=(D.rp k).parity from Or.inr ((hc t hm).trans hp.symm))]
  exact e
theorem PV(hk:k=D.n):(D.rp k).reap=D.rp k∧(D.rp k).reapB=false:=by
 have hb:(D.rp k).reapB=false:=by
  unfold Wd.reapB
  rw[show(D.rp k).phase=3 from rfl,show(D.rp k).cursor=(k:Int) from rfl,show(D.rp k).n=D.n from rfl]
  rw[decide_eq_true rfl,decide_eq_false (by omega)]
  rfl
 exact⟨reap_idle hb,hb⟩
theorem PW(S:San D):San (D.rp k):=S.same_but rfl rfl rfl rfl (fun b hb=>.inl hb)
theorem IB(S:San D)(h:∀t,t∈D.live→t.mr.dead=false):D.pending=0:=by
 rw[S.pend]
 have:∀l:List Th,(∀t,t∈aF l→t.mr.dead=false)→sumL bE l=0:=fun l hl=>by
  unfold sumL
  have e:(aF l).map bE=(aF l).map (fun _=>0):=List.map_congr_left (fun t ht=>by
   unfold bE
   rw[hl t ht]
   rfl)
  rw[e]
  generalize aF l=l2
  induction l2 with
  |nil=>rfl
  |cons a l2 ih=>rw[List.map_cons,List.sum_cons,ih]
 rw[this D.ts h]
 rfl
structure RO (w:World) (p:Pl) (c:Cf) (E D:Wd) (L:List Int) (w1:World) (hq:Nat) (H:Nat→Value) (wr:World):Prop where
 st:RSt w p c E wr
 tc:Touch (inG p) w1 wr
 hb:Blk wr hq (dA H (2*(c.N+1))) 57
 hd:HDb D L L.length w1.heap.size H wr
 hn:w1.heap.size≤hq
 ng:∀b,w1.heap.size≤b→¬iK p b
variable {E:Wd} {c:Cf} {w1:World} {hq:Nat} {H:Nat→Value}
theorem RO.later(h:RO w p c E D L w1 hq H wr)(hb:Below wr.heap.size wr w'):RO w p c E D L w1 hq H w':=
 ⟨h.st.later hb,h.tc.trans (Touch.of_below hb),h.hb.later hb,h.hd.touch (Touch.of_below hb) (X:=fun _=>False) (fun _ h=>h.elim),h.hn,h.ng⟩
theorem RO.Qs{E':Wd}(h:RO w p c E D L w1 hq H wr)(hs:RSt w p c E' w')(hT:Touch (inG p) wr w'):RO w p c E' D L w1 hq H w':=
 ⟨hs,h.tc.trans hT,h.hb.touch hT (fun hx=>h.ng hq h.hn (Or.inr hx)),h.hd.touch hT (fun b hx=>Nat.lt_of_not_le (fun hle=>h.ng b hle (Or.inr hx))),h.hn,h.ng⟩
structure Qz (w:World) (p:Pl) (c:Cf) (E D:Wd) (L:List Int) (w1:World) (hq:Nat) (H:Nat→Value) (P:List Int) (o J:Nat) (a1 b1:Option Addr) (x2:Value) (c1 d1:Nat) (wr:World):Prop where
 ro:RO w p c E D L w1 hq H wr
 box:Blk wr o #[.slice a1 P.length c1,x2] 57
 r1:Row wr .i64 a1 P
 r2:Row wr .i64 b1 P
 hj:H (2*J)=.slice b1 P.length d1
 nf:¬iK p o
 f1:∀b off,a1=some ⟨b,off,none⟩→¬iK p b
 f2:∀b off,b1=some ⟨b,off,none⟩→¬iK p b
theorem Qz.pk{P:List Int}{o J:Nat}{a1 b1:Option Addr}{x2:Value}{c1 d1:Nat}:PK w p c E (Qz w p c E D L w1 hq H P o J a1 b1 x2 c1 d1):=
 ⟨fun a h=>h.ro.st,fun a b hb h=>⟨h.ro.later hb,h.box.later hb,h.r1.later hb,h.r2.later hb,h.hj,h.nf,h.f1,h.f2⟩,fun a b h hs hT=>⟨h.ro.Qs hs hT,h.box.touch hT (fun hx=>h.nf (Or.inr hx)),h.r1.touch hT (fun _ b off e hx=>h.f1 b off e (Or.inr hx)),h.r2.touch hT (fun _ b off e hx=>h.f2 b off e (Or.inr hx)),h.hj,h.nf,h.f1,h.f2⟩⟩
theorem Nq{w wr w':World}{p:Pl}{c:Cf}{D:Wd}{P:World→Prop}{args:Array Value}(K:PK w p c D P)(hi:∀u,P u→Calls Tryz.prog 24 args u fun e u'=>e=.returned (.bool true)∧Drw u u')(h:P wr)(hC:(uI K).r wr w'):
  Calls Tryz.prog 24 args w' fun e w''=>e=.returned (.bool true)∧(uI K).r w' w'':=
 (hi w' (hC h)).mono fun e w'' ⟨e1,hd⟩=>⟨e1,fun h=>K.lat _ _ hd.new h⟩
end
set_option maxHeartbeats 4000000 in
theorem Ag(n:Nat)(hn:n<256)(a:Option Addr)(cap:Nat)(rs:List (List Fld))(b:Option Addr)(capb:Nat)(es:List (List Fld))(w:World)(h1:rs.length≤30)(h2:es.length≤200)(hr:Recs w a [.int .i64,.int .i64] rs)(he:Recs w b [.int .u8,.int .u8,.int .u8] es):
  Calls Tryz.prog 5 #[.int .u8 (n:Int),.slice a rs.length cap,.slice b es.length capb] w fun e w'=>e=.returned (.bool true)∧Below w.heap.size w w':=by
 have g1:¬30<(rs.length:Int):=by omega
 have g2:¬200<(es.length:Int):=by omega
 have hfc0:=cz (((n%60+4:Nat)):Int) 16 1 1
 have HN63:Hid (n%60+4≤63):=hid (by have:=Nat.mod_lt n (show 0<60 by decide);omega)
 have HGw:=hid (Ic (fun _=>Jv) n hn a cap rs b capb es w h1 h2 hr he (Jv.new _ _) (fun k D x y _ _ _ h=>h.grow x y) (fun D r i x h=>h.tie r i x))
 clear hr he
 generalize n%60+4=N at*
 have hN63:N≤63:=HN63.out
 go_enter Tryz.func5,Tryz.ntmps5
 go_wp2_with fail
 refine HGw.out.mono ?_
 rintro e w1 ⟨p,lo,v,rfl,⟨D,hS,hGr,hLn,hown,hsz,hpn⟩,hP,hlo⟩
 have hF:FB N D.dz (fun _=>0) 200 D:=FB.of hGr hpn h2 (by omega)
 have HAv:Hid (∀t,t∈D.live→t.mr.dead=false):=hid (fun t ht=>hGr.alive ht)
 obtain⟨L,hLe⟩:∃L,L=D.dz:=⟨_,rfl⟩
 rw[←hLe] at hown hF hLn
 have hL30:L.length≤30:=by omega
 have hob:=aI hown
 obtain⟨a9,c9,rfl,hr9⟩:=dR.kJ hown
 have hX9:gH (inG p) a9 L:=fun _ b off e hx=>hP b (hob b (by rw[e];rfl)) (Or.inr hx)
 have HR9:=hid hr9.row
 have HX9:=hid hX9
 have hDn:D.n=N:=by
  obtain⟨zs,m,_,hR,_⟩:=hS
  exact hR.n
 have HDn:=hid hDn
 have HF:=hid hF
 have HPar:=hid hpn.1.1
 have HNG:Hid (∀b,w1.heap.size≤b→¬iK p b):=hid (fun b hb=>hS.xz hb)
 have HB1:=hid hS.below
 have HLn0:Hid (∀t,t∈D.live→t.pt.length≤945):=hid (fun t ht=>by
  have h1:=sumL_mem (φ:=fun t=>t.pt.length) (l:=D.ts) ht
  have h2:=hF.fin.len hS.w16
  have h3:=hS.total hF.fin.san
  have h4:(cfR N).N=N:=rfl
  omega)
 have HOu:=hid (xA hS hF.fin hF.nam (by omega) a9 c9 hr9.row hX9 hL30)
 clear hS hGr hLn hown hsz hP hlo hF hLe hob hr9 HGw hpn h1 h2 hX9 hDn
 go_wp2_with fail
 refine HOu.out.mono ?_
 rintro e w2 ⟨a3,cap3,fl,hq,H,rfl,hrow,hfl,hc1,hc2,hS2,hT2,hB2,hD2,hq2⟩
 have HO2:Hid (RO w p (cfR N) D D L w1 hq H w2):=hid ⟨hS2,hT2,hB2,hD2,hq2,HNG.out⟩
 have HBe:=hid (ld_begin (c:=cfR N) (D:=D) 3 (by decide) (by decide))
 clear hrow hfl hc1 hc2 hS2 hT2 hB2 hD2 hq2 HOu
 have hn1:(cfR N).N=N:=rfl
 go_wp2_with fail
 refine(HO2.out.st.does HBe.out).mono ?_
 rintro e w3 ⟨rfl,hS3,hT3⟩
 have HO3:Hid (RO w p (cfR N) (D.rp 0) D L w1 hq H w3):=hid (HO2.out.Qs hS3 hT3)
 clear hS3 hT3 hn1
 go_wp2_with fail
 go_loopw [12] (fun i wr=>∃k:Nat,k≤N∧i=.int .i64 (k:Int)∧RO w p (cfR N) (D.rp k) D L w1 hq H wr) (fun i _=>N-(intOf i).toNat)
 case atStart=>exact⟨0,Nat.zero_le _,rfl,HO3.out⟩
 case round=>
  obtain⟨k,hk,rfl,hO⟩:=hrel
  have HO:=hid hO
  have HSn:Hid (San (D.rp k)):=hid (PW HF.out.fin.san)
  clear hO
  by_cases hlt:k<N
  ·have hst:=NH (k:=k) HPar.out HF.out.col (by rw[HDn.out];exact hlt)
   have HI:=hid ((ld_reap (c:=cfR N) HSn.out).as (vb hst.2) rfl)
   rw[hst.1] at HI
   clear hst
   go_wp2_with fail
   refine(HO.out.st.does HI.out).mono ?_
   rintro e w4 ⟨rfl,hS4,hT4⟩
   have HO4:Hid (RO w p (cfR N) (D.rp (k+1)) D L w1 hq H w4):=hid (HO.out.Qs hS4 hT4)
   clear hS4 hT4
   have hwk:IntKind.i64.wrap ((k:Int)+1)=(k:Int)+1:=IntWalk.i64_in _ (by omega)
   go_wp2_with fail
   go_roundw
   case rel=>exact⟨k+1,by omega,by go_num,HO4.out⟩
   case measure=>simp[intOf];omega
  ·obtain rfl:k=N:=by omega
   have hst:=PV (k:=k) (D:=D) HDn.out.symm
   have HI:=hid ((ld_reap (c:=cfR k) HSn.out).as (vb hst.2) rfl)
   rw[hst.1] at HI
   clear hst
   go_wp2_with fail
   refine(HO.out.st.does HI.out).mono ?_
   rintro e w4 ⟨rfl,hS4,hT4⟩
   have HO4:Hid (RO w p (cfR k) (D.rp k) D L w1 hq H w4):=hid (HO.out.Qs hS4 hT4)
   clear hS4 hT4
   go_wp2_with fail
   go_loopw [51] (fun i wr=>∃j:Nat,j≤L.length∧i=.int .i64 (j:Int)∧RO w p (cfR k) (D.rp k) D L w1 hq H wr) (fun i _=>L.length-(intOf i).toNat)
   case atStart=>exact⟨0,Nat.zero_le _,rfl,HO4.out⟩
   case round=>
    obtain⟨j,hj,rfl,hO⟩:=hrel
    have HO5:=hid hO
    by_cases hlt:j<L.length
    ·obtain⟨b9,o9,rfl,hb9,hc9⟩:=(HR9.out.touch hO.tc HX9.out) j hlt
     obtain⟨t,hf⟩:=HF.out.fin.find hlt
     obtain⟨J,hJ,hJ1,hJN⟩:=RSt.La hO.st (show(D.rp k).find (nth L j)=some t from hf)
     have hJN:J≤k:=hJN
     obtain⟨b1,d1,b2,d2,e1,e2,q1,q2,g1,g2⟩:=hO.hd j hlt t hf
     rw[hJ] at hf hc9 e1
     have e1:H (2*J)=.slice b1 t.pt.length d1:=by rw[←e1];congr 1
     have HSe:=hid (Gg (c:=cfR k) HSn.out (show(D.rp k).find (J:Int)=some t from hf) hO.st)
     have hpl:=hO.st.sizes t (find_live (D:=D.rp k) hf).1
     have HNw:Hid (w1.heap.size≤wr.heap.size):=hid hO.tc.size
     have HG1:Hid (∀b off,b1=some ⟨b,off,none⟩→¬iK p b):=hid (fun b off e=>hO.ng b (g1 b off e))
     have HQ1:=hid q1
     have HE1:=hid e1
     have HLn:Hid (t.pt.length≤10000):=hid (by have:=HLn0.out t (find_live (D:=D) hf).1;omega)
     have hjl:J<k+1:=by omega
     have hji:(J:Int)<(k:Int)+1:=by omega
     have hj0:(0:Int)≤(J:Int):=by omega
     clear hO hf hJ e1 e2 q1 q2 g1 g2
     go_wp2_with fail
     refine HSe.out.mono ?_
     rintro e w5 ⟨a1,c1,a2,c2,rfl,r1,r2,f1,f2,hb5⟩
     have hbx:=Blk.new w5 #[.slice a1 t.pt.length c1,.slice a2 t.dt.length c2] 57
     have hb6:=below_step hb5 (below_new w5 (.cells #[.slice a1 t.pt.length c1,.slice a2 t.dt.length c2] 57))
     have HR6:Hid (Qz w p (cfR k) (D.rp k) D L w1 hq H t.pt w5.heap.size J a1 b1 (.slice a2 t.dt.length c2) c1 d1 (w5.alloc (.cells #[.slice a1 t.pt.length c1,.slice a2 t.dt.length c2] 57))):=hid ⟨HO5.out.later hb6,hbx,r1.later (below_new _ _),HQ1.out.later hb6,HE1.out,HO5.out.ng _ (by have:=HNw.out;have:=hb5.size;omega),fun b off e=>HO5.out.ng _ (by have:=HNw.out;have:=f1 b off e;omega),HG1.out⟩
     have KP:=hid (Qz.pk (w:=w) (p:=p) (c:=cfR k) (E:=D.rp k) (D:=D) (L:=L) (w1:=w1) (hq:=hq) (H:=H) (P:=t.pt) (o:=w5.heap.size) (J:=J) (a1:=a1) (b1:=b1) (x2:=.slice a2 t.dt.length c2) (c1:=c1) (d1:=d1))
     have HIn:∀u,Qz w p (cfR k) (D.rp k) D L w1 hq H t.pt w5.heap.size J a1 b1 (.slice a2 t.dt.length c2) c1 d1 u→Calls Tryz.prog 24 #[.slice a1 t.pt.length c1,.slice b1 t.pt.length d1] u fun e u'=>e=.returned (.bool true)∧Drw u u':=fun u hu=>Pb a1 b1 _ c1 d1 u rfl hu.r1 hu.r2 HLn.out
     clear r1 r2 f1 f2 hb5 hb6 hbx
     go_wp2_with fail
     generalize w5.alloc _=w6 at*
     generalize w5.heap.size=o at*
     have HC1:∀w',(uI KP.out).r w6 w'→w'.cell? ⟨o,0,none⟩=some (.slice a1 t.pt.length c1):=fun w' hC=>(hC HR6.out).box.cell 0 rfl
     have HC2:∀w',(uI KP.out).r w6 w'→w'.cell? ⟨hq,J*2,none⟩=some (.slice b1 t.pt.length d1):=fun w' hC=>by
      rw[(hC HR6.out).ro.hb.arr (show J*2<2*((cfR k).N+1) by show J*2<2*(k+1);omega),Nat.mul_comm J 2,(hC HR6.out).hj]
     refine TX.bD (T:=uI KP.out) [TX.ai.is (.pointer (some ⟨o,0,none⟩)),TX.ai.is (.slice a1 t.pt.length c1),TX.ai.is (.slice (some ⟨hq,0,none⟩) (k+1) (k+1)),TX.ai.is (.int .i64 (J:Int)),TX.ai.is (.pointer (some ⟨hq,J*2,none⟩)),TX.ai.is (.pointer (some ⟨hq,J*2,none⟩)),TX.ai.is (.slice b1 t.pt.length d1),TX.ai.is (.bool true),TX.ai.is (.bool false)] (by kernel_rfl) (by kernel_rfl) rfl (by kernel_rfl) (fun ops K2 hops hK=> ?_)
     refine TX.aa (TX.ah rfl) (fun w' hC hd=>TX.aB 15 (.pointer (some ⟨o,0,none⟩)) rfl (fun ρ hρ hf e0=>TX.aD (by go_simp))) (by go_frame;rfl) (by simp only[List.nil_append,List.cons_append];rfl) ?_
     refine TX.aa (TX.ah rfl) (fun w' hC hd=>TX.aB 61 (.pointer (some ⟨o,0,none⟩)) rfl (fun ρ hρ hf e0=>TX.aD (by have hc0:=HC1 w' hC;go_simp))) (by go_frame;rfl) (by simp only[List.nil_append,List.cons_append];rfl) ?_
     refine TX.aa (TX.ah rfl) (fun w' hC hd=>TX.aj _ (.inl rfl) rfl) (by go_frame;rfl) (by simp only[List.nil_append,List.cons_append];rfl) ?_
     refine TX.aa (TX.ah rfl) (fun w' hC hd=>TX.aj _ (.inl rfl) rfl) (by go_frame;rfl) (by simp only[List.nil_append,List.cons_append];rfl) ?_
     refine TX.aa (TX.ah rfl) (fun w' hC hd=>TX.dQ 63 (.slice (some ⟨hq,0,none⟩) (k+1) (k+1)) 64 (.int .i64 (J:Int)) rfl rfl (fun ρ hρ hf e0 e1=>TX.aD (by go_simp))) (by go_frame;rfl) (by simp only[List.nil_append,List.cons_append];rfl) ?_
     refine TX.aa (TX.ah rfl) (fun w' hC hd=>TX.aB 65 (.pointer (some ⟨hq,J*2,none⟩)) rfl (fun ρ hρ hf e0=>TX.aD (by go_simp))) (by go_frame;rfl) (by simp only[List.nil_append,List.cons_append];rfl) ?_
     refine TX.aa (TX.ah rfl) (fun w' hC hd=>TX.aB 66 (.pointer (some ⟨hq,J*2,none⟩)) rfl (fun ρ hρ hf e0=>TX.aD (by have hc0:=HC2 w' hC;go_simp))) (by go_frame;rfl) (by simp only[List.nil_append,List.cons_append];rfl) ?_
     refine TX.aa (TX.ah rfl) (fun w' hC hd=>TX.dQ 62 (.slice a1 t.pt.length c1) 67 (.slice b1 t.pt.length d1) rfl rfl (fun ρ hρ hf e0 e1=>TX.cZ (f:=24) (by go_simp) (Nq KP.out HIn HR6.out hC))) (by go_frame;rfl) (by simp only[List.nil_append,List.cons_append];rfl) ?_
     refine TX.aa (TX.ah rfl) (fun w' hC hd=>TX.aB 68 (.bool true) rfl (fun ρ hρ hf e0=>TX.aD (by go_simp))) (by go_frame;rfl) (by simp only[List.nil_append,List.cons_append];rfl) ?_
     refine TX.gD (fun w2 hC hk=>hK _ _ ?_)
     have HS9:=hid (hC HR6.out)
     clear hC hk hK
     clear HC1 HC2 HIn
     go_wp2_with fail
     go_roundw
     case rel=>exact⟨j+1,by omega,by go_num,HS9.out.ro⟩
     case measure=>simp[intOf];omega
    ·have HPe:=hid ((pQ (c:=cfR k) (D:=D.rp k)).as (vi (show(D.rp k).pending=0 from show D.pending=0 from IB (D:=D) HF.out.fin.san HAv.out)) rfl)
     clear hO
     go_wp2_with fail
     refine(begun18_any _).mono ?_
     rintro e w7 ⟨rfl,hb⟩
     have HO7:=hid (HO5.out.later hb)
     clear hb
     go_wp2_with fail
     refine HO7.out.st.conf.mono ?_
     rintro e w8 ⟨rfl,hb⟩
     have HO8:=hid (HO7.out.later hb)
     clear hb
     go_wp2_with fail
     refine(HO8.out.st.does HPe.out).mono ?_
     rintro e w9 ⟨rfl,hS9,_⟩
     have HB9:=hid hS9.below
     clear hS9
     go_wp2_with fail
     go_ret
     exact⟨rfl,HB9.out⟩
set_option maxHeartbeats 1000000 in
theorem xD(n:Value)(a:Option Addr)(cap l1:Nat)(b:Option Addr)(capb l2:Nat)(w:World)(h:¬(l1≤30∧l2≤200)):
  Calls Tryz.prog 5 #[n,.slice a l1 cap,.slice b l2 capb] w fun e w'=>e=.returned (.bool true)∧Below w.heap.size w w':=by
 by_cases h1:30<(l1:Int)
 ·clear h
  go_enter Tryz.func5,Tryz.ntmps5
  go_wp2_with fail
  refine(begun18_any _).mono ?_
  rintro e w1 ⟨rfl,hb⟩
  go_wp2_with fail
  go_ret
  exact⟨rfl,hb⟩
 ·skip
  have h2:200<(l2:Int):=by omega
  clear h
  go_enter Tryz.func5,Tryz.ntmps5
  go_wp2_with fail
  refine(begun18_any _).mono ?_
  rintro e w1 ⟨rfl,hb⟩
  go_wp2_with fail
  go_ret
  exact⟨rfl,hb⟩
end Go.Proofs.YtjmifnljckmimaaGreat.Pk
