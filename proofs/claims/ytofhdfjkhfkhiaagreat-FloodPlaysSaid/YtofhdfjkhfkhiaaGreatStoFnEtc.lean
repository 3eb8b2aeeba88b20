/-
  Sto: A store in memory: a struct of a slice of words and a meter; its words in a block of their own. No program in sight.
  RefSto: The document's store.
  Store: The program's store.
  MSto: Stores whose meter goes round at 2^64: get and put, both ways, however many accesses there were.
-/
import Derived.Test.YtofhdfjkhfkhiaaGreatBaseEtc
import Derived.Laws.CopyOwn
import Derived.Laws.CopyRow
import Derived.Test.YtofhdfjkhfkhiaaGreatProg
import Derived.IntWalk
import Derived.Outline
import Derived.Laws.MakeOwn
import Derived.OwnWalk
import Derived.Laws.LoneSync
import Derived.Laws.Pointers
namespace Go.Proofs.YtofhdfjkhfkhiaaGreat.Pk
open Lib (hid)
open Go.RowKit
set_option linter.unusedVariables false
set_option linter.unusedSimpArgs false
def words(zs:List Int):Array Value:=(zs.map (Value.int .u32)).toArray
theorem KG{zs:List Int}{i:Nat}(h:i<zs.length):(words zs)[i]? =some (.int .u32 (nth zs i)):=by
 unfold words nth;simp[List.getD,h]
theorem KH(zs:List Int)(i:Nat)(v:Int):(words zs).setIfInBounds i (.int .u32 v)=words (zs.set i v):=by
 unfold words;simp[List.map_set]
structure oo (w:World) (t e:TypeId) (s g:Nat) (zs:List Int) (m:Int):Prop where
 head:Blk w s #[.slice (some ⟨g,0,none⟩) zs.length zs.length,.int .u64 m] t
 body:Blk w g (words zs) e
 apart:s≠g
def Ij(s g:Nat):Nat→Prop:=fun k=>k=s∨k=g
theorem oo.touch{X:Nat→Prop}{w w':World}{t e:TypeId}{s g:Nat}{zs:List Int}{m:Int}(h:oo w t e s g zs m)(k:Touch X w w')(hs:¬X s)(hg:¬X g):oo w' t e s g zs m:=
 ⟨h.head.touch k hs,h.body.touch k hg,h.apart⟩
theorem oo.later{w w':World}{t e:TypeId}{s g:Nat}{zs:List Int}{m:Int}(h:oo w t e s g zs m)(k:Below w.heap.size w w'):oo w' t e s g zs m:=
 ⟨h.head.later k,h.body.later k,h.apart⟩
theorem oo.slice{w:World}{t e:TypeId}{s g:Nat}{zs:List Int}{m:Int}(h:oo w t e s g zs m):w.cell? ⟨s,0,none⟩=some (.slice (some ⟨g,0,none⟩) zs.length zs.length):=h.head.cell 0 rfl
theorem oo.meter{w:World}{t e:TypeId}{s g:Nat}{zs:List Int}{m:Int}(h:oo w t e s g zs m):w.cell? ⟨s,1,none⟩=some (.int .u64 m):=h.head.cell 1 rfl
theorem oo.word{w:World}{t e:TypeId}{s g:Nat}{zs:List Int}{m:Int}(h:oo w t e s g zs m){i:Nat}(hi:i<zs.length):w.cell? ⟨g,i,none⟩=some (.int .u32 (nth zs i)):=h.body.cell i (KG hi)
theorem oo.count{w:World}{t e:TypeId}{s g:Nat}{zs:List Int}{m:Int}(h:oo w t e s g zs m)(m':Int):oo (w.setCell ⟨s,1,none⟩ (.int .u64 m')) t e s g zs m':=
 ⟨h.head.put 1 _ (by simp),h.body.other (p:=⟨s,1,none⟩) h.apart _,h.apart⟩
theorem oo.put{w:World}{t e:TypeId}{s g:Nat}{zs:List Int}{m:Int}(h:oo w t e s g zs m)(i:Nat)(v:Int):oo (w.setCell ⟨g,i,none⟩ (.int .u32 v)) t e s g (zs.set i v) m:=
 ⟨by rw[List.length_set];exact h.head.other (p:=⟨g,i,none⟩) (Ne.symm h.apart) _,h.body.put i _ (KH zs i v),h.apart⟩
theorem oo.drew{w:World}{t e:TypeId}{s g:Nat}{zs:List Int}{m:Int}(h:oo w t e s g zs m):oo w.drew t e s g zs m:=⟨h.head.drew,h.body.drew,h.apart⟩
theorem oo.alloc{w:World}{t e:TypeId}{s g:Nat}{zs:List Int}{m:Int}(h:oo w t e s g zs m)(o:Obj):oo (w.alloc o) t e s g zs m:=⟨h.head.alloc o,h.body.alloc o,h.apart⟩
def GZ(w:World)(t e:TypeId)(s g:Nat)(zs:List Int)(m:Int)(v:Value)(en:Ending)(w':World):Prop:=
 en=.returned v∧oo w' t e s g zs m∧Touch (Ij s g) w w'
theorem Gt:(Tryz.prog.info? 126).map (fun i=>(i.zero,i.size,i.bytes))=some (some (.int .u32 0),1,4):=by kernel_rfl
theorem FR(n:Nat):madeCells (Value.int .u32 0).cells (n*1)=words (List.replicate n 0):=by
 unfold words madeCells
 have e:∀x:Nat,(Value.int .u32 0).cells[x%(Value.int .u32 0).cells.size]! =Value.int .u32 0:=by
  intro x
  rw[show(Value.int .u32 0).cells= #[Value.int .u32 0] from rfl]
  simp[Nat.mod_one]
 simp only[e]
 apply Array.ext<;>simp
theorem vP(n:Nat)(hn:n≤10000000)(w:World):(Instr.makeSlice 74 (.int .i64 (n:Int)) (.int .i64 (n:Int))).run Tryz.prog w=.ok (.slice (some ⟨w.heap.size,0,none⟩) n n) (w.alloc (.cells (words (List.replicate n 0)) 126)):=by
 obtain⟨i0,hi,hz0,hz1,hz2⟩:=info_parts Gt
 have:=run_make w 74 126 i0 (.int .u32 0) Tryz.underlying74 hi hz0 .i64 .i64 (n:Int) (n:Int) (by omega) (Int.le_refl _) (by rw[hz2];omega) (by omega)
 rw[this,hz1,←FR]
 simp
theorem EE(a:Addr)(m:Int)(w:World)(hc:w.cell? a=some (.int .u64 m)):
  Calls Tryz.prog 127 #[.pointer (some a)] w fun e w'=>e=.returned (.int .u64 m)∧w=w':=by
 have hl:=run_call_load (P:=Tryz.prog) Tryz.func183 (by kernel_rfl) (by kernel_rfl) (by kernel_rfl) .u64 (by kernel_rfl) hc
 clear hc
 go_enter Tryz.func127,Tryz.ntmps127
 go_wp2
 go_ret
 exact⟨rfl,rfl⟩
theorem zZ(s g:Nat)(zs:List Int)(m:Int)(k:Nat)(w:World)(hS:oo w 161 126 s g zs m)(hk:k<zs.length):
  Calls Tryz.prog 158 #[.pointer (some ⟨s,0,none⟩),.int .i64 (k:Int)] w fun e w'=>e=.returned (.bool true)∧w=w':=by
 have c0:=hS.slice
 clear hS
 go_enter Tryz.func158,Tryz.ntmps158
 go_wp2
 go_ret
 exact⟨ax (by simp),rfl⟩
theorem Dl(s g:Nat)(zs:List Int)(m:Int)(k:Nat)(w:World)(hS:oo w 161 126 s g zs m)(hk:k<zs.length):
  Calls Tryz.prog 168 #[.pointer (some ⟨s,0,none⟩),.int .i64 (k:Int)] w fun e w'=>e=.returned (.int .u32 (nth zs k))∧w=w':=by
 have c0:=hS.slice
 have cw:=hS.word hk
 have HS:=hid hS
 clear hS
 go_enter Tryz.func168,Tryz.ntmps168
 go_wp2_with fail
 refine(zZ s g zs m k _ HS.out hk).mono ?_
 rintro e w1 ⟨rfl,rfl⟩
 go_wp2_with fail
 go_ret
 exact⟨rfl,rfl⟩
theorem JF(s g:Nat)(zs:List Int)(m:Int)(w:World)(hS:oo w 161 126 s g zs m):
  Calls Tryz.prog 67 #[.pointer (some ⟨s,0,none⟩)] w fun e w'=>e=.returned (.int .u64 m)∧w=w':=by
 have c1:=hS.meter
 clear hS
 go_enter Tryz.func67,Tryz.ntmps67
 go_wp2_with fail
 refine(EE ⟨s,1,none⟩ m _ c1).mono ?_
 rintro e w1 ⟨rfl,rfl⟩
 go_wp2_with fail
 go_ret
 exact⟨rfl,rfl⟩
def KM(w:World)(t e:TypeId)(n:Nat)(en:Ending)(w':World):Prop:=
 ∃s g,en=.returned (.tuple #[.pointer (some ⟨s,0,none⟩),.int .i64 0])∧oo w' t e s g (List.replicate n 0) 0∧w.heap.size≤s∧w.heap.size≤g∧Below w.heap.size w w'
theorem Pm(n:Nat)(w:World)(hn:n≤8388608):
  Calls Tryz.prog 91 #[.int .i64 (n:Int)] w (KM w 161 126 n):=by
 have hmk:=vP n (by omega)
 go_enter Tryz.func91,Tryz.ntmps91
 go_wp2_with fail
 go_ret2
 refine⟨w.heap.size+1,w.heap.size,rfl,⟨?_,?_,by omega⟩,by omega,by omega,(below_new w _).alloc (by simp) _⟩
 ·have:=Blk.new (w.alloc (.cells (words (List.replicate n 0)) 126)) #[.slice (some ⟨w.heap.size,0,none⟩) n n,.int .u64 0] 161
  simpa using this
 ·exact(Blk.new w _ _).alloc _
def u64m(m:Nat):Int:=(m:Int)%18446744073709551616
theorem Kq(m:Nat):IntKind.u64.wrap (u64m m+1)=u64m (m+1):=by
 unfold IntKind.wrap u64m
 simp[IntKind.signed,IntKind.bits]
theorem ED(a:Addr)(m:Nat)(w:World)(hc:w.cell? a=some (.int .u64 (u64m m)))(hz:w.frozen? a=false):
  Calls Tryz.prog 159 #[.pointer (some a),.int .u64 1] w fun e w'=>e=.returned (.int .u64 (u64m (m+1)))∧w'=w.setCell a (.int .u64 (u64m (m+1))):=by
 have hadd:=run_call_add (P:=Tryz.prog) Tryz.func198 (by kernel_rfl) (by kernel_rfl) (by kernel_rfl) .u64 (by kernel_rfl) (y:=1) (s:=u64m (m+1)) hc hz (by simp[go_sem,Kq])
 clear hc hz
 go_enter Tryz.func159,Tryz.ntmps159
 go_wp2
 go_ret
 exact⟨rfl,rfl⟩
theorem CX(s g:Nat)(zs:List Int)(m:Nat)(k:Nat)(w:World)(hS:oo w 161 126 s g zs (u64m m))(hk:k<zs.length):
  Calls Tryz.prog 104 #[.pointer (some ⟨s,0,none⟩),.int .i64 (k:Int)] w (GZ w 161 126 s g zs (u64m (m+1)) (.int .u32 (nth zs k))):=by
 have c0:=hS.slice
 have c1:=hS.meter
 have cw:=hS.word hk
 have f1:=hS.head.free 1
 have hsg:=hS.apart
 have HS:=hid hS
 clear hS
 go_enter Tryz.func104,Tryz.ntmps104
 go_wp2_with fail
 refine(zZ s g zs _ k _ HS.out hk).mono ?_
 rintro e w1 ⟨rfl,rfl⟩
 go_wp2_with fail
 refine(ED ⟨s,1,none⟩ m _ c1 f1).mono ?_
 rintro e w1 ⟨rfl,rfl⟩
 go_wp2_with fail
 go_ret
 exact⟨rfl,HS.out.count _,(Touch.refl _ _).setCell (p:=⟨s,1,none⟩) (fun _=>.inl rfl) _⟩
theorem vR(s g:Nat)(zs:List Int)(m:Nat)(v:Int)(k:Nat)(w:World)(hS:oo w 161 126 s g zs (u64m m))(hk:k<zs.length):
  Calls Tryz.prog 97 #[.pointer (some ⟨s,0,none⟩),.int .i64 (k:Int),.int .u32 v] w (GZ w 161 126 s g (zs.set k v) (u64m (m+1)) (.bool true)):=by
 have c0:=hS.slice
 have c1:=hS.meter
 have cw:=hS.word hk
 have f1:=hS.head.free 1
 have fk:=hS.body.free k
 have hsg:=hS.apart
 have hgs:¬g=s:=fun e=>hsg e.symm
 have HS:=hid hS
 clear hS
 go_enter Tryz.func97,Tryz.ntmps97
 go_wp2_with fail
 refine(zZ s g zs _ k _ HS.out hk).mono ?_
 rintro e w1 ⟨rfl,rfl⟩
 go_wp2_with fail
 refine(ED ⟨s,1,none⟩ m _ c1 f1).mono ?_
 rintro e w1 ⟨rfl,rfl⟩
 go_wp2_with fail
 go_ret
 exact⟨rfl,(HS.out.count _).put k v,((Touch.refl _ _).setCell (p:=⟨s,1,none⟩) (fun _=>.inl rfl) _).setCell (p:=⟨g,k,none⟩) (fun _=>.inr rfl) _⟩
end Go.Proofs.YtofhdfjkhfkhiaaGreat.Pk
