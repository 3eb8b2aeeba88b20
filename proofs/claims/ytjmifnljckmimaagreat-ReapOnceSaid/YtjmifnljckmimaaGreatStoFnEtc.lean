/-
  Sto: A store in memory: a struct of a slice of words and a meter; its words in a block of their own. No program in sight.
  RefSto: The document's store.
  Store: The program's store.
  MSto: Stores whose meter goes round at 2^64: get and put, both ways, however many accesses there were.
-/
import Derived.Test.YtjmifnljckmimaaGreatBaseEtc
import Derived.Laws.CopyOwn
import Derived.Laws.CopyRow
import Derived.Test.YtjmifnljckmimaaGreatProg
import Derived.IntWalk
import Derived.Outline
import Derived.Laws.MakeOwn
import Derived.OwnWalk
import Derived.Laws.LoneSync
import Derived.Laws.Pointers
namespace Go.Proofs.YtjmifnljckmimaaGreat.Pk
open Lib (hid)
open Go.RowKit
set_option linter.unusedVariables false
set_option linter.unusedSimpArgs false
def words(zs:List Int):Array Value:=(zs.map (Value.int .u32)).toArray
theorem Jj{zs:List Int}{i:Nat}(h:i<zs.length):(words zs)[i]? =some (.int .u32 (nth zs i)):=by
 unfold words nth;simp[List.getD,h]
theorem Jk(zs:List Int)(i:Nat)(v:Int):(words zs).setIfInBounds i (.int .u32 v)=words (zs.set i v):=by
 unfold words;simp[List.map_set]
structure nG (w:World) (t e:TypeId) (s g:Nat) (zs:List Int) (m:Int):Prop where
 head:Blk w s #[.slice (some ⟨g,0,none⟩) zs.length zs.length,.int .u64 m] t
 body:Blk w g (words zs) e
 apart:s≠g
def Gj(s g:Nat):Nat→Prop:=fun k=>k=s∨k=g
theorem nG.touch{X:Nat→Prop}{w w':World}{t e:TypeId}{s g:Nat}{zs:List Int}{m:Int}(h:nG w t e s g zs m)(k:Touch X w w')(hs:¬X s)(hg:¬X g):nG w' t e s g zs m:=
 ⟨h.head.touch k hs,h.body.touch k hg,h.apart⟩
theorem nG.later{w w':World}{t e:TypeId}{s g:Nat}{zs:List Int}{m:Int}(h:nG w t e s g zs m)(k:Below w.heap.size w w'):nG w' t e s g zs m:=
 ⟨h.head.later k,h.body.later k,h.apart⟩
theorem nG.slice{w:World}{t e:TypeId}{s g:Nat}{zs:List Int}{m:Int}(h:nG w t e s g zs m):w.cell? ⟨s,0,none⟩=some (.slice (some ⟨g,0,none⟩) zs.length zs.length):=h.head.cell 0 rfl
theorem nG.meter{w:World}{t e:TypeId}{s g:Nat}{zs:List Int}{m:Int}(h:nG w t e s g zs m):w.cell? ⟨s,1,none⟩=some (.int .u64 m):=h.head.cell 1 rfl
theorem nG.word{w:World}{t e:TypeId}{s g:Nat}{zs:List Int}{m:Int}(h:nG w t e s g zs m){i:Nat}(hi:i<zs.length):w.cell? ⟨g,i,none⟩=some (.int .u32 (nth zs i)):=h.body.cell i (Jj hi)
theorem nG.count{w:World}{t e:TypeId}{s g:Nat}{zs:List Int}{m:Int}(h:nG w t e s g zs m)(m':Int):nG (w.setCell ⟨s,1,none⟩ (.int .u64 m')) t e s g zs m':=
 ⟨h.head.put 1 _ (by simp),h.body.other (p:=⟨s,1,none⟩) h.apart _,h.apart⟩
theorem nG.put{w:World}{t e:TypeId}{s g:Nat}{zs:List Int}{m:Int}(h:nG w t e s g zs m)(i:Nat)(v:Int):nG (w.setCell ⟨g,i,none⟩ (.int .u32 v)) t e s g (zs.set i v) m:=
 ⟨by rw[List.length_set];exact h.head.other (p:=⟨g,i,none⟩) (Ne.symm h.apart) _,h.body.put i _ (Jk zs i v),h.apart⟩
theorem nG.row{w:World}{t e:TypeId}{s g:Nat}{zs:List Int}{m:Int}(h:nG w t e s g zs m):Row w .u32 (some ⟨g,0,none⟩) zs:=fun i hi=>
 ⟨g,0,rfl,h.body.lt,by rw[Nat.zero_add];exact h.word hi⟩
theorem nG.drew{w:World}{t e:TypeId}{s g:Nat}{zs:List Int}{m:Int}(h:nG w t e s g zs m):nG w.drew t e s g zs m:=⟨h.head.drew,h.body.drew,h.apart⟩
theorem nG.alloc{w:World}{t e:TypeId}{s g:Nat}{zs:List Int}{m:Int}(h:nG w t e s g zs m)(o:Obj):nG (w.alloc o) t e s g zs m:=⟨h.head.alloc o,h.body.alloc o,h.apart⟩
def FU(w:World)(t e:TypeId)(s g:Nat)(zs:List Int)(m:Int)(v:Value)(en:Ending)(w':World):Prop:=
 en=.returned v∧nG w' t e s g zs m∧Touch (Gj s g) w w'
theorem Fu:(Tryz.prog.info? 119).map (fun i=>(i.zero,i.size,i.bytes))=some (some (.int .u32 0),1,4):=by kernel_rfl
theorem EJ(n:Nat):madeCells (Value.int .u32 0).cells (n*1)=words (List.replicate n 0):=by
 unfold words madeCells
 have e:∀x:Nat,(Value.int .u32 0).cells[x%(Value.int .u32 0).cells.size]! =Value.int .u32 0:=by
  intro x
  rw[show(Value.int .u32 0).cells= #[Value.int .u32 0] from rfl]
  simp[Nat.mod_one]
 simp only[e]
 apply Array.ext<;>simp
theorem EK(n:Nat)(hn:n≤10000000)(w:World):(Instr.makeSlice 55 (.int .i64 (n:Int)) (.int .i64 (n:Int))).run Tryz.prog w=.ok (.slice (some ⟨w.heap.size,0,none⟩) n n) (w.alloc (.cells (words (List.replicate n 0)) 119)):=by
 obtain⟨i0,hi,hz0,hz1,hz2⟩:=info_parts Fu
 have:=run_make w 55 119 i0 (.int .u32 0) Tryz.underlying55 hi hz0 .i64 .i64 (n:Int) (n:Int) (by omega) (Int.le_refl _) (by rw[hz2];omega) (by omega)
 rw[this,hz1,←EJ]
 simp
theorem Ec(a:Addr)(m:Int)(w:World)(hc:w.cell? a=some (.int .u64 m)):
  Calls Tryz.prog 96 #[.pointer (some a)] w fun e w'=>e=.returned (.int .u64 m)∧w=w':=by
 have hl:=run_call_load (P:=Tryz.prog) Tryz.func167 (by kernel_rfl) (by kernel_rfl) (by kernel_rfl) .u64 (by kernel_rfl) hc
 clear hc
 go_enter Tryz.func96,Tryz.ntmps96
 go_wp2
 go_ret
 exact⟨rfl,rfl⟩
theorem zO(s g:Nat)(zs:List Int)(m:Int)(k:Nat)(w:World)(hS:nG w 135 119 s g zs m)(hk:k<zs.length):
  Calls Tryz.prog 186 #[.pointer (some ⟨s,0,none⟩),.int .i64 (k:Int)] w fun e w'=>e=.returned (.bool true)∧w=w':=by
 have c0:=hS.slice
 clear hS
 go_enter Tryz.func186,Tryz.ntmps186
 go_wp2
 go_ret
 exact⟨aH (by simp),rfl⟩
theorem KR(s g:Nat)(zs:List Int)(m:Int)(k:Nat)(w:World)(hS:nG w 135 119 s g zs m)(hk:k<zs.length):
  Calls Tryz.prog 150 #[.pointer (some ⟨s,0,none⟩),.int .i64 (k:Int)] w fun e w'=>e=.returned (.int .u32 (nth zs k))∧w=w':=by
 have c0:=hS.slice
 have cw:=hS.word hk
 have HS:=hid hS
 clear hS
 go_enter Tryz.func150,Tryz.ntmps150
 go_wp2_with fail
 refine(zO s g zs m k _ HS.out hk).mono ?_
 rintro e w1 ⟨rfl,rfl⟩
 go_wp2_with fail
 go_ret
 exact⟨rfl,rfl⟩
theorem Iq(s g:Nat)(zs:List Int)(m:Int)(w:World)(hS:nG w 135 119 s g zs m):
  Calls Tryz.prog 39 #[.pointer (some ⟨s,0,none⟩)] w fun e w'=>e=.returned (.int .u64 m)∧w=w':=by
 have c1:=hS.meter
 clear hS
 go_enter Tryz.func39,Tryz.ntmps39
 go_wp2_with fail
 refine(Ec ⟨s,1,none⟩ m _ c1).mono ?_
 rintro e w1 ⟨rfl,rfl⟩
 go_wp2_with fail
 go_ret
 exact⟨rfl,rfl⟩
def Jq(w:World)(t e:TypeId)(n:Nat)(en:Ending)(w':World):Prop:=
 ∃s g,en=.returned (.tuple #[.pointer (some ⟨s,0,none⟩),.int .i64 0])∧nG w' t e s g (List.replicate n 0) 0∧w.heap.size≤s∧w.heap.size≤g∧Below w.heap.size w w'
theorem Ng(n:Nat)(w:World)(hn:n≤8388608):
  Calls Tryz.prog 91 #[.int .i64 (n:Int)] w (Jq w 135 119 n):=by
 have hmk:=EK n (by omega)
 go_enter Tryz.func91,Tryz.ntmps91
 go_wp2_with fail
 go_ret2
 refine⟨w.heap.size+1,w.heap.size,rfl,⟨?_,?_,by omega⟩,by omega,by omega,(below_new w _).alloc (by simp) _⟩
 ·have:=Blk.new (w.alloc (.cells (words (List.replicate n 0)) 119)) #[.slice (some ⟨w.heap.size,0,none⟩) n n,.int .u64 0] 135
  simpa using this
 ·exact(Blk.new w _ _).alloc _
theorem mE(n:Int)(w:World)(hn:n<0∨8388608<n):
  Calls Tryz.prog 91 #[.int .i64 n] w fun e w'=>e=.returned (.tuple #[.pointer none,.int .i64 2])∧w=w':=by
 rcases hn with h|h
 ·go_enter Tryz.func91,Tryz.ntmps91
  go_wp2
  go_ret2
  exact⟨rfl,rfl⟩
 ·have h0:¬n<0:=by omega
  go_enter Tryz.func91,Tryz.ntmps91
  go_wp2
  go_ret2
  exact⟨rfl,rfl⟩
def u64m(m:Nat):Int:=(m:Int)%18446744073709551616
theorem Jg(m:Nat):IntKind.u64.wrap (u64m m+1)=u64m (m+1):=by
 unfold IntKind.wrap u64m
 simp[IntKind.signed,IntKind.bits]
theorem Eb(a:Addr)(m:Nat)(w:World)(hc:w.cell? a=some (.int .u64 (u64m m)))(hz:w.frozen? a=false):
  Calls Tryz.prog 187 #[.pointer (some a),.int .u64 1] w fun e w'=>e=.returned (.int .u64 (u64m (m+1)))∧w'=w.setCell a (.int .u64 (u64m (m+1))):=by
 have hadd:=run_call_add (P:=Tryz.prog) Tryz.func217 (by kernel_rfl) (by kernel_rfl) (by kernel_rfl) .u64 (by kernel_rfl) (y:=1) (s:=u64m (m+1)) hc hz (by simp[go_sem,Jg])
 clear hc hz
 go_enter Tryz.func187,Tryz.ntmps187
 go_wp2
 go_ret
 exact⟨rfl,rfl⟩
theorem Ct(s g:Nat)(zs:List Int)(m:Nat)(k:Nat)(w:World)(hS:nG w 135 119 s g zs (u64m m))(hk:k<zs.length):
  Calls Tryz.prog 155 #[.pointer (some ⟨s,0,none⟩),.int .i64 (k:Int)] w (FU w 135 119 s g zs (u64m (m+1)) (.int .u32 (nth zs k))):=by
 have c0:=hS.slice
 have c1:=hS.meter
 have cw:=hS.word hk
 have f1:=hS.head.free 1
 have hsg:=hS.apart
 have HS:=hid hS
 clear hS
 go_enter Tryz.func155,Tryz.ntmps155
 go_wp2_with fail
 refine(zO s g zs _ k _ HS.out hk).mono ?_
 rintro e w1 ⟨rfl,rfl⟩
 go_wp2_with fail
 refine(Eb ⟨s,1,none⟩ m _ c1 f1).mono ?_
 rintro e w1 ⟨rfl,rfl⟩
 go_wp2_with fail
 go_ret
 exact⟨rfl,HS.out.count _,(Touch.refl _ _).setCell (p:=⟨s,1,none⟩) (fun _=>.inl rfl) _⟩
theorem vI(s g:Nat)(zs:List Int)(m:Nat)(v:Int)(k:Nat)(w:World)(hS:nG w 135 119 s g zs (u64m m))(hk:k<zs.length):
  Calls Tryz.prog 143 #[.pointer (some ⟨s,0,none⟩),.int .i64 (k:Int),.int .u32 v] w (FU w 135 119 s g (zs.set k v) (u64m (m+1)) (.bool true)):=by
 have c0:=hS.slice
 have c1:=hS.meter
 have cw:=hS.word hk
 have f1:=hS.head.free 1
 have fk:=hS.body.free k
 have hsg:=hS.apart
 have hgs:¬g=s:=fun e=>hsg e.symm
 have HS:=hid hS
 clear hS
 go_enter Tryz.func143,Tryz.ntmps143
 go_wp2_with fail
 refine(zO s g zs _ k _ HS.out hk).mono ?_
 rintro e w1 ⟨rfl,rfl⟩
 go_wp2_with fail
 refine(Eb ⟨s,1,none⟩ m _ c1 f1).mono ?_
 rintro e w1 ⟨rfl,rfl⟩
 go_wp2_with fail
 go_ret
 exact⟨rfl,(HS.out.count _).put k v,((Touch.refl _ _).setCell (p:=⟨s,1,none⟩) (fun _=>.inl rfl) _).setCell (p:=⟨g,k,none⟩) (fun _=>.inr rfl) _⟩
end Go.Proofs.YtjmifnljckmimaaGreat.Pk
