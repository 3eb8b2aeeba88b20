/-
  Texts laid together: RingDo, RingDo2.
-/
import Derived.Test.YtjmifnljckmimaaGreatChAEtc
import Derived.Deep.RegionHeld3
import Derived.BigQuiet
namespace Go.Proofs.YtjmifnljckmimaaGreat.Pk
open Lib (hid)
open Go.RowKit
set_option linter.unusedVariables false
set_option linter.unusedSimpArgs false
theorem ug{zs:List Int}{b:Int}{k:Nat}(hk:k<zs.length)(h:nth zs k≠b):(zs.take (k+1)).filter (fun x=>x !=b)=(zs.take k).filter (fun x=>x !=b)++[nth zs k]:=by
 rw[sG hk,List.filter_append]
 simp[h]
theorem uV{zs:List Int}{b:Int}{k:Nat}(hk:k<zs.length)(h:nth zs k=b):(zs.take (k+1)).filter (fun x=>x !=b)=(zs.take k).filter (fun x=>x !=b):=by
 rw[sG hk,List.filter_append]
 simp[h]
set_option maxHeartbeats 2000000 in
theorem xC(a:Option Addr)(cap:Nat)(zs:List Int)(b:Int)(w:World)(hr:Row w .i64 a zs)(hl:zs.length≤10000):
  Calls Tryz.prog 115 #[.slice a zs.length cap,.int .i64 b] w (fq w (zs.filter (fun x=>x !=b))):=by
 obtain⟨i0,hi,hz0,hz1,hz2⟩:=info_parts kF
 go_enter Tryz.func115,Tryz.ntmps115
 go_wp2
 go_loopw [5,6] (fun v i wr=>∃k:Nat,k≤zs.length∧i=.int .i64 k∧∃m,m≤k∧jN w v m ((zs.take k).filter (fun x=>x !=b)) wr) (fun _ i _=>zs.length-(intOf i).toNat)
 case atStart=>exact⟨0,Nat.zero_le _,rfl,0,Nat.le_refl _,World.ownsRow_nil _ _ _ _,Below.refl _ _⟩
 case round=>
  obtain⟨k,hk,rfl,m,hm,hown,hbel⟩:=hrel
  by_cases hlt:k<zs.length
  ·obtain⟨g,off,rfl,hb,hcw⟩:=hr k hlt
   have hc:=(hbel.cell (p:=⟨g,off+k,none⟩) hb).trans hcw
   have hsz:=hbel.size
   by_cases he:nth zs k=b
   ·have HT:=hid (uV hlt he)
    have hn:(nth zs k !=b)=false:=by simp[he]
    have HG:Hid (jN w u5 m ((zs.take (k+1)).filter (fun x=>x !=b)) wr):=hid (by rw[HT.out];exact⟨hown,hbel⟩)
    clear hcw hown hbel he
    go_wp2
    go_roundw
    case rel=>exact⟨k+1,by omega,by go_num,m,by omega,HG.out⟩
    case measure=>simp[intOf];omega
   ·have HT:=hid (ug hlt he)
    have hn:(nth zs k !=b)=true:=by simp[he]
    have HW:=hid hcw
    clear hcw he
    go_wp2_with (at_builtin;refine wpList_append_own _ rfl _ _ 45 rfl w.heap.size 3 i0 (.int .i64 0) 1 8 Tryz.underlying45 hi hz0 hz1 hz2 rfl (by decide) _ _ _ rfl (hown.alloc _) ⟨wr.heap.size,0,none⟩ 1 1 [.int .i64 (nth zs k)] rfl rfl ?c1 ?c2 ?c3 ?c4 ?c5 ?c6)
    case c1=>exact cell_one_new wr _ _
    case c2=>intro u hu;simp at hu;subst hu;rfl
    case c3=>unfold maxLen;omega
    case c4=>omega
    case c5=>simp;omega
    case c6=>
     intro v' w1 hown' hgrow _
     have hbel1:Below w.heap.size w w1:=(hbel.alloc hsz _).grown hgrow (by simp;omega) (aI hown)
     have HG:Hid (jN w v' (m+1) ((zs.take (k+1)).filter (fun x=>x !=b)) w1):=by
      refine⟨?_,hbel1⟩
      rw[HT.out]
      simpa using hown'
     clear hown' hgrow hbel1 hown hbel hc hn
     go_wp2
     go_roundw
     case rel=>exact⟨k+1,by omega,by go_num,m+1,by omega,HG.out⟩
     case measure=>simp[intOf];omega
  ·have e:k=zs.length:=by omega
   have HO:Hid (fq w (zs.filter (fun x=>x !=b)) (.returned u5) wr):=by
    have h1:jN w u5 m (zs.filter (fun x=>x !=b)) wr:=by
     have:=(⟨hown,hbel⟩:jN w u5 m ((zs.take k).filter (fun x=>x !=b)) wr)
     rwa[e,List.take_length] at this
    have hm2:m=(zs.filter (fun x=>x !=b)).length:=by
     have:=h1.1.1
     simp at this
     omega
    exact fq.mk hm2 h1
   clear e hown hbel
   go_wp2
   go_ret
   exact HO.out
theorem ints_filter(l:List Nat)(b:Nat):(ints l).filter (fun x=>x !=(b:Int))=ints (l.filter (fun x=>x !=b)):=by
 induction l with
 |nil=>rfl
 |cons x t ih=>
  show(((x:Int)::ints t).filter _)=ints (List.filter _ (x::t))
  by_cases h:x=b
  ·subst h;simp[ih]
  ·have h1:((x:Int)!=(b:Int))=true:=by simp;omega
   have h2:(x !=b)=true:=by simp[h]
   rw[List.filter_cons_of_pos (p:=fun x=>x !=(b:Int)) h1,List.filter_cons_of_pos (p:=fun x=>x !=b) h2,ih];rfl
theorem rWithout(a:Option Addr)(cap:Nat)(l l':List Nat)(b:Int)(w:World)(hr:Row w .i64 a (ints l))(hl:l.length≤9000)(hf:(ints l).filter (fun x=>x !=b)=ints l'):
  Calls Tryz.prog 115 #[.slice a l.length cap,.int .i64 b] w (ow l' w):=by
 have:=xC a cap (ints l) b w hr (by rw[ints_length];omega)
 rw[ints_length] at this
 exact this.mono (fun e w' h=>h.Nf hf)
end Go.Proofs.YtjmifnljckmimaaGreat.Pk
