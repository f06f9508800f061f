import Derived.Test.YtncmdfdppmfeeaaGreatDoorChecked
import Derived.Test.YtncmdfdppmfeeaaGreatDoorGJ
namespace Go.Eng
open Go.RowKit
set_option linter.unusedVariables false
set_option linter.unusedSimpArgs false
def ro0 (sp:Obj):Obj:=fun args h=>match h with
 | (0,.cells t l)::r=>(sp args ((0,.ro t l)::r)).bind fun x=>if j7 ((0,.ro t l)::r) x.1 x.2=true/\look x.2 0=none then .ret (x.1,(0,.cells t l)::x.2) else .fail
 | _=>.fail
theorem nG (b:Blk) (r:Heap):look ((0,b)::r) 0=some b:=rfl
theorem ub (b b':Blk) (r:Heap) {i:Nat} (h:i≠0):look ((0,b)::r) i=look ((0,b')::r) i:=by
 unfold look
 rw [if_neg (by simpa using fun e=>h e.symm),if_neg (by simpa using fun e=>h e.symm)]
theorem lX (b:Blk) (r:Heap) {i:Nat} (h:i≠0):look ((0,b)::r) i=look r i:=by
 show (if (0==i)=true then some b else look r i)=look r i
 rw [if_neg (by simpa using fun e=>h e.symm)]
theorem ObjOk.ro0 {P:Program} {f:Nat} {sp:Obj} (h:ObjOk P f sp):ObjOk P f (ro0 sp):=by
 refine ⟨h.body,fun args hp v h'' ν w hG hF ha hb hr hv hout => ?_⟩
 unfold Eng.ro0 at hv
 split at hv
 ·rename_i t l r
  obtain ⟨⟨v0,h'⟩,h1,h2⟩:=T.eval_bind_some hv
  simp only at h2
  split at h2
  ·rename_i hc
   obtain ⟨ho,hn⟩:=hc
   simp only [T.eval,Option.some.injEq,Prod.mk.injEq] at h2
   obtain ⟨rfl,rfl⟩:=h2
   obtain ⟨d1,d2,d3⟩:=hr.den 0 _ (nG (.cells t l) r)
   have hin:inH ((0,.ro t l)::r)=inH ((0,.cells t l)::r):=by
    funext i
    unfold inH
    by_cases e:i=0
    ·subst e;rfl
    ·rw [ub (.ro t l) (.cells t l) r e]
   have fpo:∀ k,dF ν ((0,.ro t l)::r) k->∃ j b,j≠0/\look ((0,.cells t l)::r) j=some b/\b.owned=true/\(ν j).fp k:=by
    rintro k ⟨j,b,hj,hb,hk⟩
    by_cases e:j=0
    ·subst e
     rw [nG] at hj
     cases hj;cases hb
    ·exact ⟨j,b,e,by rw [ub (.cells t l) (.ro t l) r e];exact hj,hb,hk⟩
   have fpm:∀ k,dF ν ((0,.ro t l)::r) k->dF ν ((0,.cells t l)::r) k:=fun k hk=>by
    obtain ⟨j,b,_,x,y,z⟩:=fpo k hk
    exact ⟨j,b,x,y,z⟩
   have nfp:∀ k,(ν 0).fp k->¬ dF ν ((0,.ro t l)::r) k:=fun k hk q=>by
    obtain ⟨j,b,e,x,y,z⟩:=fpo k q
    exact hr.dis j 0 b _ e x (nG _ _) y k z hk
   have hrel:Rel ν (look ((0,.ro t l)::r)) w:=by
    refine ⟨fun i b e => ?_,fun i j bi bj ne ei ej hoi => ?_⟩
    ·by_cases q:i=0
     ·subst q
      rw [nG] at e
      cases e
      exact ⟨d1,d2,d3⟩
     ·exact hr.den i b (by rw [ub (.cells t l) (.ro t l) r q];exact e)
    ·have qi:i≠0:=fun q=>by
      subst q
      rw [nG] at ei
      cases ei;cases hoi
     by_cases qj:j=0
     ·subst qj
      exact hr.dis i 0 bi _ ne (by rw [ub (.cells t l) (.ro t l) r qi];exact ei) (nG _ _) hoi
     ·exact hr.dis i j bi bj ne (by rw [ub (.cells t l) (.ro t l) r qi];exact ei) (by rw [ub (.cells t l) (.ro t l) r qj];exact ej) hoi
   have hok:∀ i b,look ((0,.ro t l)::r) i=some b->b.ok (inH ((0,.ro t l)::r))=true/\i<((0,Blk.ro t l)::r).length:=by
    intro i b e
    rw [hin]
    by_cases q:i=0
    ·subst q
     rw [nG] at e
     cases e
     have:=hb 0 _ (nG (.cells t l) r)
     exact ⟨this.1,this.2⟩
    ·exact hb i b (by rw [ub (.cells t l) (.ro t l) r q];exact e)
   refine (h.calls args _ v0 h' ν w hG (fun k hk=>hF k (fpm k hk)) (by rw [hin];exact ha) hok hrel h1 ho).mono ?_
   rintro e w' ⟨ν',e1,e2,e3,e4,e5⟩
   have c0:(ν' 0).core=(ν 0).core:=e2 0 rfl
   refine ⟨fun i=>if i=0 then ⟨(ν' 0).core,(ν 0).fp⟩ else ν' i,?_,?_,⟨?_,?_⟩,?_,e5.trans (Prog.refl w' fun _=>False) fpm (fun _ _ q=>q.elim)⟩
   ·rw [e1]
    congr 1
    refine V.den_congr (p:=fun _=>true) (fun i _ => ?_) v0 (V.ok_mono (fun _ _=>rfl) v0 (by
     unfold j7 at ho
     simp only [Bool.and_eq_true] at ho
     exact ho.1))
    by_cases q:i=0
    ·subst q;rfl
    ·simp only [if_neg q]
   ·intro i hi
    by_cases q:i=0
    ·subst q;exact c0
    ·simp only [if_neg q]
     exact e2 i (by rw [hin];exact hi)
   ·intro i b hi
    by_cases q:i=0
    ·subst q
     rw [nG] at hi
     cases hi
     simp only [if_true]
     have hbk:(ν 0).core.blk<w.heap.size:=(Array.getElem?_eq_some_iff.1 d3).1
     refine ⟨by rw [c0];exact d1,fun k=>by rw [c0];exact d2 k,?_⟩
     rw [c0,e5.block _ hbk (nfp _ ((d2 _).2 rfl)),d3]
     have hl:okL (inH ((0,.cells t l)::r)) l=true:=(hb 0 _ (nG (.cells t l) r)).1
     rw [bQ (ν:=ν) (ν':=fun i=>if i=0 then ⟨(ν' 0).core,(ν 0).fp⟩ else ν' i) (p:=inH ((0,.cells t l)::r)) (fun i hi=>by
      by_cases q:i=0
      ·subst q;exact c0.symm
      ·simp only [if_neg q]
       exact (e2 i (by rw [hin];exact hi)).symm) l hl,c0]
    ·rw [lX _ _ q] at hi
     simp only [if_neg q]
     have hd:=e3.den i b hi
     refine Blk.den_congr (p:=fun _=>true) (fun j _ => ?_) rfl rfl (Blk.ok_mono (fun _ _=>rfl) (by
      have:=List.all_eq_true.1 (by unfold j7 at ho;simp only [Bool.and_eq_true] at ho;exact ho.2) (i,b) (ao hi)
      simp only [Bool.and_eq_true] at this
      exact this.1.2)) hd
     by_cases qj:j=0
     ·subst qj;rfl
     ·simp only [if_neg qj]
   ·intro i j bi bj ne hi hj hoi k
    by_cases qi:i=0
    ·subst qi
     have qj:j≠0:=fun e=>ne e.symm
     rw [lX _ _ qj] at hj
     simp only [if_true,if_neg qj]
     intro hk hk2
     rcases e4 j bj hj k hk2 with q | q
     ·exact nfp k hk q
     ·have:=(d2 k).1 hk
      have hbk:(ν 0).core.blk<w.heap.size:=(Array.getElem?_eq_some_iff.1 d3).1
      omega
    ·rw [lX _ _ qi] at hi
     simp only [if_neg qi]
     by_cases qj:j=0
     ·subst qj
      simp only [if_true]
      intro hk2 hk
      rcases e4 i bi hi k hk2 with q | q
      ·exact nfp k hk q
      ·have:=(d2 k).1 hk
       have hbk:(ν 0).core.blk<w.heap.size:=(Array.getElem?_eq_some_iff.1 d3).1
       omega
     ·rw [lX _ _ qj] at hj
      simp only [if_neg qj]
      exact e3.dis i j bi bj ne hi hj hoi k
   ·intro i b hi k hk
    by_cases q:i=0
    ·subst q
     simp only [if_true] at hk
     exact .inl ⟨0,_,nG (.cells t l) r,rfl,hk⟩
    ·rw [lX _ _ q] at hi
     simp only [if_neg q] at hk
     exact (e4 i b hi k hk).imp (fpm k) id
  ·cases h2
 ·cases hv
end Go.Eng
namespace Go.Proofs.YtncmdfdppmfeeaaGreatDoor.Sub
open Go.Eng Go.RowKit
set_option linter.unusedVariables false
set_option linter.unusedSimpArgs false
set_option maxRecDepth 100000
theorem mixed:Tryz.prog.follows .mixedOrders=true:=Checked.mixed Tryz.checked
noncomputable def B0:Cfg:=⟨Tryz.prog,lookG [],[],0⟩
theorem XS:B0.Ok:=Cfg.ok trivial trivial
theorem gA {α:Type} {c:Bool} {x:T α} {r:α} (h:(T.ite none c x .fail).eval=some r):c=true/\x.eval=some r:=ak h
theorem Y5 {α:Type} {c:Prop} [Decidable c] {x:T α} {r:α} (h:(if c then x else .fail:T α).eval=some r):c/\x.eval=some r:=by
 split at h
 ·exact ⟨by assumption,h⟩
 ·cases h
noncomputable def clX:Eng.Spec:=aC B0 aa 187
theorem xd:SpecOk Tryz.prog 187 clX:=af XS mixed Tryz.func187 (by kernel_rfl) (by kernel_rfl)
def rI (l:List Int):V:=.orow 3 [.int .i64] l
theorem Tv (l:List Int):T.path [true,true,true] (T.anon (clX [rI l]))=some ([(decide (0<l.length),true),(decide (0+l.length<=l.length)&&(decide (0<=([]:List Int).length)&&decide (0+((l.drop 0).take l.length).length<=1000000)),true),(decide (0+((l.drop 0).take l.length).length=(([]:List Int).take 0++(l.drop 0).take l.length).length),true)],rI ((l.drop 0).take l.length)):=by kernel_rfl
theorem Pk (a:Addr) (c:Nat):T.path [true,true] (T.anon (clX [.raw (.slice (some a) 0 c)]))=some ([(true&&(decide (0<=([]:List Int).length)&&decide (0+([]:List Int).length<=1000000)),true),(decide (0+([]:List Int).length=(([]:List Int).take 0++[]).length),true)],rI []):=by kernel_rfl
theorem MG:T.path [true] (T.anon (clX [.raw (.slice none 0 0)]))=some ([(decide (0=([]:List Int).length),true)],rI []):=by kernel_rfl
theorem UA {l:List Int} (h:¬ 0<l.length):l=[]:=List.eq_nil_of_length_eq_zero (by omega)
theorem Tx {l:List Int} (h0:0<l.length) (h1:l.length<=1000000):(clX [rI l]).eval=some (rI l):=by
 rw [<- T.eval_anon (t:=clX _)]
 have way:=Tv l
 have e:(l.drop 0).take l.length=l:=by rw [List.drop_zero,List.take_length]
 rw [e] at way
 refine T.path_eval way ⟨decide_eq_true h0,?_,decide_eq_true ?_,trivial⟩
 ·rw [decide_eq_true (show 0+l.length<=l.length by omega),decide_eq_true (show 0+l.length<=1000000 by omega)];rfl
 ·rw [List.take_zero,List.nil_append];omega
def clS:Eng.Spec
 | [.orow t [.int .i64] l]=>if t=3 then .ite none (decide (List.length l<=1000000)) (.ret (.orow 3 [.int .i64] l)) .fail else .fail
 | _=>.fail
theorem QP:SpecOk Tryz.prog 187 clS:=by
 refine ⟨xd.body,fun args v xs w hG hrow hv hrv hh => ?_⟩
 unfold clS at hv
 split at hv
 ·rename_i t l
  obtain ⟨q1,e1⟩:=Y5 hv
  obtain ⟨hl,e2⟩:=gA e1
  obtain rfl:=Option.some.inj e2
  clear hv e1 e2
  subst q1
  have hl:List.length (α:=Int) l<=1000000:=of_decide_eq_true hl
  obtain ⟨x,rfl,hx⟩:∃ x,xs=[x]/\iU 0 w (rI l) x:=by
   match xs,hh with
   | [],hh=>exact hh.elim
   | [x],hh=>exact ⟨x,rfl,hh.1⟩
   | _::_::_,hh=>exact hh.2.elim
  by_cases h0:0<List.length (α:=Int) l
  ·refine xd.calls [rI l] (rI l) [x] w hG hrow ?_ hrv ⟨hx,trivial⟩
   exact Tx h0 hl
  ·have e0:l=[]:=UA h0
   subst e0
   obtain ⟨at_,cap,rfl,hc,hr⟩:=hx
   cases at_ with
   | none =>
    have hc0:cap=0:=hc.2 rfl
    subst hc0
    exact xd.calls [.raw (.slice none 0 0)] (rI []) [.slice none 0 0] w hG rfl ((T.eval_anon (t:=clX _)).symm.trans (T.path_eval MG ⟨rfl,trivial⟩)) hrv ⟨rfl,trivial⟩
   | some a =>
    exact xd.calls [.raw (.slice (some a) 0 cap)] (rI []) [.slice (some a) 0 cap] w hG rfl ((T.eval_anon (t:=clX _)).symm.trans (T.path_eval (Pk a cap) ⟨rfl,rfl,trivial⟩)) hrv ⟨rfl,trivial⟩
 ·cases hv
noncomputable def O5:Cfg:=⟨Tryz.prog,lookG [(187,.val clS)],[],0⟩
theorem W9:O5.Ok:=Cfg.ok ⟨QP,trivial⟩ trivial
noncomputable def ofY:Eng.Spec:=aC O5 aa 166
theorem T3:SpecOk Tryz.prog 166 ofY:=af W9 mixed Tryz.func166 (by kernel_rfl) (by kernel_rfl)
def cO (ids:List Int) (m:Int):Bool:=bif decide (m<1) then true else decide ((ids.length:Int)<=m)
def tI (l:List Int):List Int:=(l.drop 0).take l.length
theorem of_c (ids:List Int) (m:Int):T.path [true,true,true,true] (T.anon (ofY [rI ids,iv m]))=some ([(cO ids m,true),(decide (0+ids.length<=ids.length),true),(decide ((tI ids).length<=1000000),true),(decide ((tI ids).length=(tI ids).length),true)],rI (tI ids)):=by kernel_rfl
def okM (m:Int):Bool:=decide (m<1)
def ofV (ids:List Int) (m:Int):List Int:=ids
theorem Rs {ids:List Int} {m:Int} (h:m<1):ofV ids m=ids:=rfl
theorem Eh {l:List Int} (h:l.Nodup) (m:Int):∃ p:Int->Bool,ofV l m=l.filter p:=⟨fun _=>true,(List.filter_eq_self.2 fun _ _=>rfl).symm⟩
theorem L8 {ids:List Int} (h:ids.length<=1000000) {m:Int} (hm:m<1):(ofY [rI ids,iv m]).eval=some (rI ids):=by
 rw [<- T.eval_anon (t:=ofY _)]
 have ht:tI ids=ids:=by unfold tI;rw [List.drop_zero,List.take_length]
 have way:=of_c ids m
 rw [ht] at way
 exact T.path_eval way ⟨by unfold cO;rw [decide_eq_true hm];rfl,decide_eq_true (by omega),decide_eq_true h,decide_eq_true rfl,trivial⟩
def ofI:Eng.Spec
 | [.orow t [.int .i64] ids,.s (.int .i64 m)]=>if t=3 then .ite none (decide (List.length ids<=1000000)&&okM m) (.ret (.orow 3 [.int .i64] (ofV ids m))) .fail else .fail
 | _=>.fail
theorem H6:SpecOk Tryz.prog 166 ofI:=T3.of_eval fun args v h=>by
 unfold ofI at h
 split at h
 ·rename_i t ids m
  split at h
  ·rename_i ht
   subst ht
   obtain ⟨hb,h2⟩:=gA h
   obtain rfl:=Option.some.inj h2
   rw [Bool.and_eq_true] at hb
   exact L8 (of_decide_eq_true hb.1) (of_decide_eq_true hb.2)
  ·cases h
 ·cases h
end Go.Proofs.YtncmdfdppmfeeaaGreatDoor.Sub
namespace Go.Proofs.YtncmdfdppmfeeaaGreatDoor.Que
open Go.Eng Go.RowKit
set_option linter.unusedVariables false
set_option linter.unusedSimpArgs false
theorem mixed:Tryz.prog.follows .mixedOrders=true:=Checked.mixed Tryz.checked
def iv (n:Int):V:=.s (.int .i64 n)
abbrev KW:List K:=[.int .i64,.int .i64]
theorem eQ:EOk Tryz.prog [SY]:=⟨⟨by kernel_rfl,by kernel_rfl⟩,trivial⟩
noncomputable def J0:Cfg:=⟨Tryz.prog,lookG [],[],0⟩
theorem gq:J0.Ok:=Cfg.ok trivial trivial
noncomputable def aaZ:Eng.Spec:=aC J0 aa 53
theorem MA:SpecOk Tryz.prog 53 aaZ:=af gq mixed Tryz.func53 (by kernel_rfl) (by kernel_rfl)
noncomputable def I5:Eng.Spec:=aC J0 aa 158
theorem zC:SpecOk Tryz.prog 158 I5:=af gq mixed Tryz.func158 (by kernel_rfl) (by kernel_rfl)
noncomputable def IH:Eng.Obj:=ay J0 aa 157
theorem CE:ObjOk Tryz.prog 157 IH:=ae gq mixed Tryz.func157 (by kernel_rfl) (by kernel_rfl)
noncomputable def J1:Cfg:=⟨Tryz.prog,lookG [(53,.val aaZ),(158,.val I5),(157,.obj IH)],[SY],0⟩
theorem vl:J1.Ok:=Cfg.ok ⟨MA,zC,CE,trivial⟩ eQ
noncomputable def TU:Eng.Obj:=ay J1 aa 24
theorem Ev:ObjOk Tryz.prog 24 TU:=ae vl mixed Tryz.func24 (by kernel_rfl) (by kernel_rfl)
noncomputable def abu:Eng.Obj:=ay J1 aa 102
theorem NB:ObjOk Tryz.prog 102 abu:=ae vl mixed Tryz.func102 (by kernel_rfl) (by kernel_rfl)
noncomputable def MR:Eng.Obj:=ay J1 aa 139
theorem xi:ObjOk Tryz.prog 139 MR:=ae vl mixed Tryz.func139 (by kernel_rfl) (by kernel_rfl)
noncomputable def Im:Eng.Obj:=ay J1 aa 109
theorem Ar:ObjOk Tryz.prog 109 Im:=ae vl mixed Tryz.func109 (by kernel_rfl) (by kernel_rfl)
def JW:Option Int->V
 | none=>.nilIface
 | some t=>.iface 2 (iv t)
noncomputable def aaB:Eng.Obj:=fun args h=>(TU args h).bind (ng 16 2 222 KW h)
theorem Mb:ObjOk Tryz.prog 24 aaB:=Ev.adopt 16 2 222 KW
noncomputable def QB:Eng.Obj:=ay J1 (rounds J1 6 1) 131
theorem Fq:ObjOk Tryz.prog 131 QB:=aH vl mixed 6 1 Tryz.func131 (by kernel_rfl) (by kernel_rfl)
structure PA where (d:Int) (u:Option Int) (n:Nat) (l:List (Int × Int)) (k:Nat) (c:Int)
structure AA where (W:List Int) (j:Nat) (i:Int)
def rWt (l:List (Int × Int)):Blk:=.lst true 222 KW l
def D5:List V->List Blk->Option (PA × AA)
 | [.ptr 0 0,.sub 1000 1 0 j,.sub 1 2 0 k,.s (.int .i64 c),.s (.int .i64 i)],[.cells t0 [.s (.int .i64 d),.nilIface,.sub 1 2 0 n],.lst true t1 [.int .i64,.int .i64] l,.lst true t2 [.int .i64] W] =>
  if t0=108 then if t1=222 then if t2=3 then some (⟨d,none,n,l,k,c⟩,⟨W,j,i⟩) else none else none else none
 | [.ptr 0 0,.sub 1000 1 0 j,.sub 1 2 0 k,.s (.int .i64 c),.s (.int .i64 i)],[.cells t0 [.s (.int .i64 d),.iface ti (.s (.int .i64 u)),.sub 1 2 0 n],.lst true t1 [.int .i64,.int .i64] l,.lst true t2 [.int .i64] W] =>
  if ti=2 then if t0=108 then if t1=222 then if t2=3 then some (⟨d,some u,n,l,k,c⟩,⟨W,j,i⟩) else none else none else none else none
 | _,_=>none
def idR {α:Type} (g:List α) (k:Nat) (i:Int):Bool:=decide (0<=i)&&(decide (i<(k:Int))&&decide (0+i.toNat<g.length))
def ldR {α:Type} (g:List α) (i:Int):Bool:=decide (0+i.toNat<g.length)
def qK (K:Nat) (d:Int) (u:Option Int) (n:Nat):Blk:=.cells 108 [iv d,JW u,.sub K 2 0 n]
structure PL where (d:Int) (u:Option Int) (now age:Int)
structure AL where (n:Nat) (l:List (Int × Int)) (W:List Int) (j:Nat)
def bsL (p:PL) (a:AL):List Blk:=[qK 1000 p.d p.u a.n,rWt a.l,.lst true 3 [.int .i64] a.W]
noncomputable def XL (p:PL) (a:AL):St:=bO [6] [0,1000,1001] 1002 41 [.sub 1001 1 0 a.j] (bsL p a)
def okL (p:PL) (a:AL):Prop:=a.n=a.l.length/\a.j=a.W.length/\a.l.length+a.W.length<=1000
noncomputable def zh (p:PL) (a:AL):T (Ex × St):=.ret (.ret,XL p a)
end Go.Proofs.YtncmdfdppmfeeaaGreatDoor.Que
namespace Go.Proofs.YtncmdfdppmfeeaaGreatDoor.Lod
open Go.Eng Go.RowKit Go.Flt
set_option linter.unusedVariables false
set_option linter.unusedSimpArgs false
theorem mixed:Tryz.prog.follows .mixedOrders=true:=Checked.mixed Tryz.checked
def iv (n:Int):V:=.s (.int .i64 n)
def cx (x y:Nat):V:=.s (.cx .f64 x y)
noncomputable def P0:Cfg:=⟨Tryz.prog,lookG [],[],0⟩
theorem mO:P0.Ok:=Cfg.ok trivial trivial
noncomputable def Bf:Eng.Spec:=aC P0 aa 226
theorem yr:SpecOk Tryz.prog 226 Bf:=af mO mixed Tryz.func226 (by kernel_rfl) (by kernel_rfl)
noncomputable def z8:Eng.Spec:=aC P0 aa 222
theorem Bk:SpecOk Tryz.prog 222 z8:=af mO mixed Tryz.func222 (by kernel_rfl) (by kernel_rfl)
def dP (x:Nat):Int:=(floatToIntVal .f64 x .i64).getD 0
def isW (x:Nat):Bool:=decide (0<=dP x)&&decide (dP x<=1099511627776)&&decide (x=fI (dP x).toNat)
theorem zv {n:Nat} (h:n<=1099511627776):dP (fI n)=n:=by unfold dP;rw [Hx (by omega)];rfl
theorem S4 {n:Nat} (h:n<=1099511627776):isW (fI n)=true:=by
 unfold isW
 rw [zv h]
 simp only [Bool.and_eq_true,decide_eq_true_eq]
 exact ⟨⟨by omega,by omega⟩,by rw [Int.toNat_natCast]⟩
theorem Ej {x:Nat} (h:isW x=true):∃ n:Nat,n<=1099511627776/\x=fI n/\dP x=n:=by
 unfold isW at h
 simp only [Bool.and_eq_true,decide_eq_true_eq] at h
 exact ⟨(dP x).toNat,by omega,h.2,by omega⟩
theorem Oi {n:Int} (h0:0<=n) (h:n<=1099511627776):floatOfInt .f64 n=fI n.toNat:=by
 obtain ⟨m,rfl⟩:=Int.eq_ofNat_of_zero_le h0
 rw [Int.toNat_natCast]
 exact yA (by omega)
def wi (n:Int):Int:=if 1099511627776<(if 0>n then 0 else n) then 1099511627776 else if 0>n then 0 else n
theorem pw (n:Int):0<=wi n/\wi n<=1099511627776:=by
 unfold wi;repeat' split
 all_goals omega
theorem Mj {n:Int} (h0:0<=n) (h:n<=1099511627776):wi n=n:=by
 unfold wi;repeat' split
 all_goals omega
def fW (n:Int):Nat:=fI (wi n).toNat
theorem OA (n:Int):dP (fW n)=wi n:=by
 have:=pw n
 unfold fW;rw [zv (by omega)];omega
theorem HR (n:Int):isW (fW n)=true:=S4 (by have:=pw n;omega)
theorem aF {c:Bool} {x:T V} {v:V} (h:(T.ite none c x .fail).eval=some v):c=true/\x.eval=some v:=by
 cases c
 ·cases h
 ·exact ⟨rfl,h⟩
theorem aV {i:Option Nat} {c:Bool} {x y:T V} {v:V} (h1:c=true->x.eval=some v) (h2:c=false->y.eval=some v):(T.ite i c x y).eval=some v:=by
 cases c
 ·exact h2 rfl
 ·exact h1 rfl
def qk:Eng.Spec
 | [.s (.int .i64 n)]=>.ret (iv (wi n))
 | _=>.fail
theorem o0:SpecOk Tryz.prog 226 qk:=by
 refine yr.of_den fun args v hfl h => ?_
 clear hfl
 unfold qk at h
 split at h
 ·rename_i n
  obtain rfl:=Option.some.inj h
  have e:T.anon (Bf [iv n])=.ret (iv (wi n)):=by kernel_rfl
  exact ⟨_,by rw [<- T.eval_anon];exact congrArg T.eval e,⟨rfl,rfl⟩,rfl⟩
 ·cases h
def Dy:Eng.Spec
 | [.s (.float .f64 x)]=>.ite none (isW x) (.ret (iv (dP x))) .fail
 | _=>.fail
theorem Gj:(4787326403894837248:Nat)=fI 1099511627776:=by decide +kernel
theorem F7:(0:Nat)=fI 0:=by decide +kernel
theorem DB (x:Nat):T.anon (z8 [.s (.float .f64 x)])=T.ite none (FloatKind.f64.format.order x 4787326403894837248==some .gt||FloatKind.f64.format.order x 4787326403894837248==some .eq) (.ret (iv 1099511627776))
  (T.ite none (FloatKind.f64.format.order x 0==some .gt) (T.ite none (floatToIntVal .f64 x .i64).isSome (.ret (iv ((floatToIntVal .f64 x .i64).getD 0))) .fail) (.ret (iv 0))):=by kernel_rfl
theorem Ix {a b:Int}:(some (compare a b)==some Ordering.gt)=decide (b<a):=by
 simp only [compare,compareOfLessAndEq]
 split
 ·rw [decide_eq_false (by omega)];rfl
 ·split
  ·rw [decide_eq_false (by omega)];rfl
  ·rw [decide_eq_true (by omega)];rfl
theorem cmp_eq {a b:Int}:(some (compare a b)==some Ordering.eq)=decide (a=b):=by
 simp only [compare,compareOfLessAndEq]
 split
 ·rw [decide_eq_false (by omega)];rfl
 ·split
  ·rename_i h;rw [decide_eq_true h];rfl
  ·rename_i h;rw [decide_eq_false h];rfl
theorem yp {x:Nat} (h:isW x=true):(z8 [.s (.float .f64 x)]).eval=some (iv (dP x)):=by
 obtain ⟨n,hn,rfl,hv⟩:=Ej h
 rw [hv,<- T.eval_anon,DB,Gj,F7,vW (by omega) (by omega),vW (by omega) (by decide),Ix,cmp_eq,Ix,Hx (by omega)]
 refine aV (fun h => ?_) fun h=>aV (fun h2 => ?_) fun h2 => ?_
 ·simp only [Bool.or_eq_true,decide_eq_true_eq] at h
  rw [show (n:Int)=1099511627776 by omega];rfl
 ·exact aA rfl rfl
 ·simp only [decide_eq_false_iff_not] at h2
  rw [show (n:Int)=0 by omega];rfl
theorem DN:SpecOk Tryz.prog 222 Dy:=by
 refine Bk.of_den fun args v hfl h => ?_
 clear hfl
 unfold Dy at h
 split at h
 ·rename_i x
  obtain ⟨hk,h⟩:=aF h
  obtain rfl:=Option.some.inj h
  exact ⟨_,yp hk,⟨rfl,rfl⟩,rfl⟩
 ·cases h
noncomputable def Q1:Cfg:=⟨Tryz.prog,lookG [(226,.val qk),(222,.val Dy)],[],0⟩
theorem lz:Q1.Ok:=Cfg.ok ⟨o0,DN,trivial⟩ trivial
theorem oI (n:Int):floatOfInt .f64 (wi n)=fW n:=by
 have:=pw n
 exact Oi this.1 this.2
def ofC:Eng.Spec
 | [.s (.int .i64 a),.s (.int .i64 b)]=>.ret (cx (fW a) (fW b))
 | _=>.fail
theorem HS:SpecOk Tryz.prog 197 ofC:=by
 refine (af lz mixed Tryz.func197 (by kernel_rfl) (by kernel_rfl)).of_den fun args v hfl h => ?_
 clear hfl
 unfold ofC at h
 split at h
 ·rename_i a b
  obtain rfl:=Option.some.inj h
  have e:T.anon (aC Q1 aa 197 [iv a,iv b])=.ret (cx (floatOfInt .f64 (wi a)) (floatOfInt .f64 (wi b))):=by kernel_rfl
  refine ⟨cx (fW a) (fW b),?_,⟨rfl,rfl⟩,rfl⟩
  rw [<- T.eval_anon]
  refine Eq.trans (congrArg T.eval e) ?_
  rw [oI,oI];rfl
 ·cases h
def G8:Eng.Spec
 | [.s (.cx .f64 x y)]=>.ite none (isW x) (.ret (iv (dP x))) .fail
 | _=>.fail
theorem wO:SpecOk Tryz.prog 194 G8:=by
 refine (af lz mixed Tryz.func194 (by kernel_rfl) (by kernel_rfl)).of_den fun args v hfl h => ?_
 clear hfl
 unfold G8 at h
 split at h
 ·rename_i x y
  obtain ⟨hk,h⟩:=aF h
  obtain rfl:=Option.some.inj h
  have e:T.anon (aC Q1 aa 194 [cx x y])=.ite none (isW x) (.ret (iv (dP x))) .fail:=by kernel_rfl
  refine ⟨iv (dP x),?_,⟨rfl,rfl⟩,rfl⟩
  rw [<- T.eval_anon]
  exact (congrArg T.eval e).trans (aA hk rfl)
 ·cases h
def NS:Eng.Spec
 | [.s (.cx .f64 x y)]=>.ite none (isW y) (.ret (iv (dP y))) .fail
 | _=>.fail
theorem GA:SpecOk Tryz.prog 223 NS:=by
 refine (af lz mixed Tryz.func223 (by kernel_rfl) (by kernel_rfl)).of_den fun args v hfl h => ?_
 clear hfl
 unfold NS at h
 split at h
 ·rename_i x y
  obtain ⟨hk,h⟩:=aF h
  obtain rfl:=Option.some.inj h
  have e:T.anon (aC Q1 aa 223 [cx x y])=.ite none (isW y) (.ret (iv (dP y))) .fail:=by kernel_rfl
  refine ⟨iv (dP y),?_,⟨rfl,rfl⟩,rfl⟩
  rw [<- T.eval_anon]
  exact (congrArg T.eval e).trans (aA hk rfl)
 ·cases h
noncomputable def Q2:Cfg:=⟨Tryz.prog,lookG [(226,.val qk),(197,.val ofC),(194,.val G8),(223,.val NS)],[],0⟩
theorem vc:Q2.Ok:=Cfg.ok ⟨o0,HS,wO,GA,trivial⟩ trivial
noncomputable def TG:Eng.Spec:=aC Q2 aa 195
theorem FX:SpecOk Tryz.prog 195 TG:=af vc mixed Tryz.func195 (by kernel_rfl) (by kernel_rfl)
def mvB (b w n:Int):Bool:=decide (w<n)||decide (n < -b)||decide (1099511627776 - b<n)||decide (n<w - 1099511627776)
def moveC:Eng.Spec
 | [.s (.cx .f64 x y),.s (.int .i64 n)]=>.ite none (isW x&&isW y) (.ite none (mvB (dP x) (dP y) n) (.ret (.tup [cx (fW (dP x)) (fW (dP y)),iv 5])) (.ret (.tup [cx (fW (dP x+n)) (fW (dP y - n)),iv 0]))) .fail
 | _=>.fail
def lessB (b w b' w':Int):Bool:=if b=b' then decide (w<w') else decide (b<b')
def Vd (x y x' y':Nat):Bool:=isW x&&isW y&&isW x'&&isW y'
def NX:Eng.Spec
 | [.s (.cx .f64 x y),.s (.cx .f64 x' y')]=>.ite none (Vd x y x' y') (.ret (.s (.bool (lessB (dP x) (dP y) (dP x') (dP y'))))) .fail
 | _=>.fail
theorem FP (x y x' y':Nat):T.anon (TG [cx x y,cx x' y'])=T.ite none (isW x) (T.ite none (isW x') (T.ite none (dP x != dP x') (T.ite none (isW x) (T.ite none (isW x') (.ret (.s (.bool (decide (dP x<dP x'))))) .fail) .fail)
  (T.ite none (isW y) (T.ite none (isW y') (.ret (.s (.bool (decide (dP y<dP y'))))) .fail) .fail)) .fail) .fail:=by kernel_rfl
theorem E7:SpecOk Tryz.prog 195 NX:=by
 refine FX.of_den fun args v hfl h => ?_
 clear hfl
 unfold NX at h
 split at h
 ·rename_i x y x' y'
  obtain ⟨hk,h⟩:=aF h
  obtain rfl:=Option.some.inj h
  simp only [Vd,Bool.and_eq_true] at hk
  refine ⟨.s (.bool (lessB (dP x) (dP y) (dP x') (dP y'))),?_,⟨rfl,rfl⟩,rfl⟩
  rw [<- T.eval_anon]
  refine Eq.trans (congrArg T.eval (FP x y x' y')) (aA hk.1.1.1 (aA hk.1.2 ?_))
  unfold lessB
  by_cases q:dP x=dP x'
  ·rw [if_pos q]
   exact tev_else (by rw [q];simp) (aA hk.1.1.2 (aA hk.2 rfl))
  ·rw [if_neg q]
   exact aA (by simpa using q) (aA hk.1.1.1 (aA hk.1.2 rfl))
 ·cases h
end Go.Proofs.YtncmdfdppmfeeaaGreatDoor.Lod
namespace Go.Proofs.YtncmdfdppmfeeaaGreatDoor.Brk
open Go.Eng Go.RowKit Go.Flt Lod
set_option linter.unusedVariables false
set_option linter.unusedSimpArgs false
structure PF where (n d L D:Int)
structure AF where (x y:Nat) (i:Int)
set_option maxRecDepth 100000
def bIn (n i:Int):Int:=if i<n then i else n
def wIn (n i:Int):Int:=if i<n then 0 else i - n
def Wy (p:PF) (a:AF):Bool:=decide (p.L=p.n)&&decide (p.D=p.d)&&decide (1<=p.n)&&decide (p.n<=20)&&decide (0<=p.d)&&decide (p.d<=20)&&decide (0<=a.i)&&decide (a.i<=p.n+p.d)&&isW a.x&&isW a.y&&decide (dP a.x=bIn p.n a.i)&&decide (dP a.y=wIn p.n a.i)
def okH (n d:Int) (x y:Nat) (c:Int):Prop:=isW x=true/\isW y=true/\0<=dP x/\dP x<=20/\0<=dP y/\dP y<=d/\(0<dP y->n<=dP x)/\c=dP x+dP y/\0<=n/\n<=20/\0<=d/\d<=20
instance (n d:Int) (x y:Nat) (c:Int):Decidable (okH n d x y c):=inferInstanceAs (Decidable (_/\_))
end Go.Proofs.YtncmdfdppmfeeaaGreatDoor.Brk
namespace Go.Proofs.YtncmdfdppmfeeaaGreatDoor.Pic
open Go.Eng Go.RowKit Go.Flt Lod Brk
set_option linter.unusedVariables false
set_option linter.unusedSimpArgs false
abbrev CX:List K:=[.cx .f64]
def g1 (l:List (Nat × Nat)) (i:Int):Nat × Nat:=l.getD (0+i.toNat) (0,0)
noncomputable def C1:Cfg:=⟨Tryz.prog,lookG [(194,.val G8),(195,.val NX)],[],0⟩
theorem zA:C1.Ok:=Cfg.ok ⟨wO,E7,trivial⟩ trivial
noncomputable def lpA:Code:=cm Tryz.prog 167 0
structure PA where (g:List (Nat × Nat)) (k k':Nat) (m c:Int)
structure AA where (b i:Int)
abbrev S1:List (Nat × Src):=[(0,.same)]
def bsA (p:PA):List Blk:=[.lst false 298 CX p.g]
def vsA (p:PA) (a:AA):List V:=[.sub 0 1 0 p.k,Lod.iv p.m,Lod.iv a.b,.sub 0 1 0 p.k',Lod.iv p.c,Lod.iv a.i]
noncomputable def FA (p:PA) (a:AA):St:=bO [0,1,5,8,9,10] [0] 1000 34 (vsA p a) (bsA p)
noncomputable def rdA (p:PA) (a:AA):T (Ex × St):=T.anon (bg C1 aa lpA [0,1,5,8,9,10] S1 1000 1000 (bO [0,1,5,8,9,10] (aG S1) 1000 34 (vsA p a) (bsA p)))
def bz (g:List (Nat × Nat)) (j:Int):Int:=dP (g1 g j).1
def wt (g:List (Nat × Nat)) (j:Int):Int:=dP (g1 g j).2
def ls (g:List (Nat × Nat)) (i j:Int):Bool:=lessB (bz g i) (wt g i) (bz g j) (wt g j)
def idA (g:List (Nat × Nat)) (k:Nat) (i:Int):Bool:=decide (0<=i)&&(decide (i<(k:Int))&&decide (0+i.toNat<g.length))
def ldA (g:List (Nat × Nat)) (i:Int):Bool:=decide (0+i.toNat<g.length)
def gdA (p:PA) (a:AA):Bool:=decide (bz p.g a.i<p.m)==true&&((a.b == -1)==false&&true)
def tkA (p:PA) (a:AA):Bool:=bif decide (bz p.g a.i<p.m) then bif a.b == -1 then true else ls p.g a.i a.b else false
theorem wayA (p:PA) (a:AA) (e:Bool):T.path [true,true,true,true,true,true,true,e] (rdA p a)=some ([(decide (a.i<p.c),true),(idA p.g p.k' a.i,true),(ldA p.g a.i,true),(isW (g1 p.g a.i).1,true),
 (bif gdA p a then idA p.g p.k a.b else true,true),(bif gdA p a then ldA p.g a.b else true,true),(bif gdA p a then Vd (g1 p.g a.i).1 (g1 p.g a.i).2 (g1 p.g a.b).1 (g1 p.g a.b).2 else true,true),(tkA p a,e)],(.normal,FA p ⟨bif e then a.i else a.b,IntKind.wrap .i64 (a.i+1)⟩)):=by cases e<;>kernel_rfl
theorem Pd (p:PA) (a:AA):T.path [false] (rdA p a)=some ([(decide (a.i<p.c),false)],(.exit 0,FA p a)):=by kernel_rfl
def okG (p:PA):Prop:=p.k=p.g.length/\p.k'=p.g.length/\p.c=p.g.length/\p.g.length<=1000/\∀ j:Int,isW (g1 p.g j).1=true/\isW (g1 p.g j).2=true
def Jg (g:List (Nat × Nat)) (m i b:Int):Prop:=(b = -1/\∀ j,0<=j->j<i->¬ bz g j<m)\/(0<=b/\b<i/\bz g b<m/\∀ j,0<=j->j<i->bz g j<m->ls g j b=false/\(j<b->ls g b j=true))
def okA (p:PA) (a:AA):Prop:=okG p/\0<=a.i/\a.i<=p.c/\Jg p.g p.m a.i a.b
def goA (p:PA) (a:AA):Bool:=decide (a.i<p.c)
def muA (p:PA) (a:AA):Nat:=(p.c - a.i).toNat
theorem Jo {g:List (Nat × Nat)} {k:Nat} {i:Int} (h:k=g.length) (h0:0<=i) (h1:i<k):idA g k i=true/\ldA g i=true:=by
 unfold idA ldA
 rw [decide_eq_true h0,decide_eq_true h1,decide_eq_true (show 0+i.toNat<g.length by omega)]
 exact ⟨rfl,rfl⟩
theorem vk {g:List (Nat × Nat)} {i j:Int}:ls g i j=true↔bz g i<bz g j\/(bz g i=bz g j/\wt g i<wt g j):=by
 unfold ls lessB
 by_cases h:bz g i=bz g j
 ·simp [h]
 ·simp [h]
theorem qV {g:List (Nat × Nat)} {i j:Int}:ls g i j=false↔¬ (bz g i<bz g j\/(bz g i=bz g j/\wt g i<wt g j)):=by
 rw [<- vk];simp
theorem UC (p:PA) (a:AA) (h:okA p a) (hg:goA p a=true):∃ b,dx okA rdA FA muA p a b:=by
 obtain ⟨⟨h1,h2,h3,h4,h5⟩,h6,h7,h8⟩:=id h
 have hi:a.i<p.c:=of_decide_eq_true hg
 have hw:IntKind.wrap .i64 (a.i+1)=a.i+1:=wrap64_in (by omega) (by omega)
 obtain ⟨x1,x2⟩:=Jo (g:=p.g) (k:=p.k') (i:=a.i) h2 h6 (by omega)
 have g1':(bif gdA p a then idA p.g p.k a.b else true)=true/\(bif gdA p a then ldA p.g a.b else true)=true/\(bif gdA p a then Vd (g1 p.g a.i).1 (g1 p.g a.i).2 (g1 p.g a.b).1 (g1 p.g a.b).2 else true)=true:=by
  cases q:gdA p a
  ·exact ⟨rfl,rfl,rfl⟩
  ·have hb:0<=a.b/\a.b<a.i:=by
    rcases h8 with h8 | h8
    ·unfold gdA at q
     rw [h8.1] at q
     simp at q
    ·exact ⟨h8.1,h8.2.1⟩
   obtain ⟨y1,y2⟩:=Jo (g:=p.g) (k:=p.k) (i:=a.b) h1 hb.1 (by omega)
   exact ⟨y1,y2,by unfold Vd;rw [(h5 a.i).1,(h5 a.i).2,(h5 a.b).1,(h5 a.b).2];rfl⟩
 refine ⟨_,T.path_eval (wayA p a (tkA p a)) ⟨hg,x1,x2,(h5 _).1,g1'.1,g1'.2.1,g1'.2.2,rfl,trivial⟩,⟨⟨h1,h2,h3,h4,h5⟩,?_,?_,?_⟩,?_⟩
 ·show 0<=IntKind.wrap .i64 (a.i+1);rw [hw];omega
 ·show IntKind.wrap .i64 (a.i+1)<=p.c;rw [hw];omega
 ·show Jg p.g p.m (IntKind.wrap .i64 (a.i+1)) (bif tkA p a then a.i else a.b)
  rw [hw]
  cases q:tkA p a
  ·show Jg p.g p.m (a.i+1) a.b
   rcases h8 with h8 | h8
   ·refine .inl ⟨h8.1,fun j j0 j1 => ?_⟩
    by_cases e:j=a.i
    ·subst e
     intro hm
     unfold tkA at q
     rw [decide_eq_true hm,h8.1] at q
     cases q
    ·exact h8.2 j j0 (by omega)
   ·refine .inr ⟨h8.1,by omega,h8.2.2.1,fun j j0 j1 hm => ?_⟩
    by_cases e:j=a.i
    ·subst e
     unfold tkA at q
     rw [decide_eq_true hm,show (a.b == -1)=false by rw [beq_eq_false_iff_ne];omega] at q
     exact ⟨q,fun hj=>by omega⟩
    ·exact h8.2.2.2 j j0 (by omega) hm
  ·show Jg p.g p.m (a.i+1) a.i
   unfold tkA at q
   by_cases hm:bz p.g a.i<p.m
   ·rw [decide_eq_true hm] at q
    refine .inr ⟨h6,by omega,hm,fun j j0 j1 hj => ?_⟩
    by_cases e:j=a.i
    ·subst e
     exact ⟨qV.2 (by omega),fun h=>by omega⟩
    ·rcases h8 with h8 | h8
     ·exact absurd hj (h8.2 j j0 (by omega))
     ·rw [show (a.b == -1)=false by rw [beq_eq_false_iff_ne];omega] at q
      have q':ls p.g a.i a.b=true:=q
      rw [vk] at q'
      have h9:=(h8.2.2.2 j j0 (by omega) hj).1
      rw [qV] at h9
      exact ⟨qV.2 (by omega),fun _=>vk.2 (by omega)⟩
   ·rw [decide_eq_false hm] at q;cases q
 ·show (p.c - IntKind.wrap .i64 (a.i+1)).toNat<(p.c - a.i).toNat
  rw [hw];omega
theorem exA (p:PA) (a:AA) (h:okA p a) (hg:goA p a=false):(rdA p a).eval=some (.exit 0,FA p a):=T.path_eval (Pd p a) ⟨hg,trivial⟩
def D5:List V->List Blk->Option (PA × AA)
 | [.sub 0 1 0 k,.s (.int .i64 m),.s (.int .i64 b),.sub 0 1 0 k',.s (.int .i64 c),.s (.int .i64 i)],[.lst false t [.cx .f64] g]=>if t=298 then some (⟨g,k,k',m,c⟩,⟨b,i⟩) else none
 | _,_=>none
theorem uC (l:List V) (b:List Blk) (d:PA × AA) (h:D5 l b=some d):l=vsA d.1 d.2/\b=bsA d.1:=by
 unfold D5 at h
 split at h
 ·split at h
  ·rename_i ht
   subst ht
   cases h
   exact ⟨rfl,rfl⟩
  ·cases h
 ·cases h
noncomputable def abJ:bG:=tZ [0,1,5,8,9,10] S1 1000 1000 34 D5 okA goA rdA FA muA (.exit 0)
theorem zn:LoopOk C1 lpA abJ:=da (vs:=vsA) (bs:=fun p _=>bsA p) zA mixed (az _) uC (by simp) (fun _ _=>rfl) (fun _ _=>rfl) UC exA
noncomputable def uk:List (Nat × bG):=[(3,abJ)]
theorem Zo:au lpA=some 3:=by kernel_rfl
theorem cN {c:Code} {n:Nat} {sp:bG} {C:Cfg} {f:Nat} (e:cd (codeOf Tryz.prog f)=[c]) (hr:au c=some n) (h:LoopOk C c sp):∀ a∈cd (codeOf Tryz.prog f),∀ s,cJ [(n,sp)] a=some s->LoopOk C a s:=by
 rw [e]
 intro a ha
 rcases List.mem_cons.1 ha with q | ha
 ·rw [q];exact fy hr (by simp [findL]) h
 ·cases ha
noncomputable def B7:Eng.Spec:=aC C1 (cJ uk) 167
theorem BX:SpecOk Tryz.prog 167 B7:=et zA mixed Tryz.func167 (by kernel_rfl) (by kernel_rfl) (cN (c:=lpA) (by kernel_rfl) Zo zn)
def pA (l:List (Nat × Nat)) (m:Int):PA:=⟨l,l.length,l.length,m,l.length⟩
noncomputable def eA (l:List (Nat × Nat)) (m:Int):AA:=df (ga okA goA rdA FA muA (pA l m)) ⟨-1,0⟩
theorem CQ (l:List (Nat × Nat)) (m:Int):T.anon (B7 [.orow 298 CX l,Lod.iv m])=.ite none (de okA (pA l m) ⟨-1,0⟩) (.ret (Lod.iv (eA l m).b)) .fail:=by kernel_rfl
noncomputable def Iq:Eng.Spec:=aC C1 (rounds C1 6 1) 167
theorem DF:SpecOk Tryz.prog 167 Iq:=bC zA mixed 6 1 Tryz.func167 (by kernel_rfl) (by kernel_rfl)
def okL (l:List (Nat × Nat)):Prop:=l.length<=1000/\∀ j:Int,isW (g1 l j).1=true/\isW (g1 l j).2=true
theorem Qm {l:List (Nat × Nat)} (h:okL l) (m:Int):okG (pA l m):=⟨rfl,rfl,rfl,h.1,h.2⟩
theorem lB {l:List (Nat × Nat)} (h:okL l) (m:Int):de okA (pA l m) ⟨-1,0⟩=true/\Jg l m l.length (eA l m).b:=by
 have h0:okA (pA l m) ⟨-1,0⟩:=⟨Qm h m,Int.le_refl 0,by show (0:Int)<=(l.length:Int);omega,.inl ⟨rfl,fun j j0 j1=>by dsimp only at j1;omega⟩⟩
 refine ⟨aN h0,?_⟩
 obtain ⟨⟨-,e1,e2,e3⟩,e4⟩:=xb UC h0
 have e5:¬ (eA l m).i<(l.length:Int):=of_decide_eq_false e4
 have e6:(eA l m).i<=(l.length:Int):=e2
 have e7:Jg l m (eA l m).i (eA l m).b:=e3
 rw [show (eA l m).i=(l.length:Int) by omega] at e7
 exact e7
end Go.Proofs.YtncmdfdppmfeeaaGreatDoor.Pic
namespace Go.Proofs.YtncmdfdppmfeeaaGreatDoor.Sam
open Go.Eng Go.RowKit
set_option linter.unusedVariables false
set_option linter.unusedSimpArgs false
theorem mixed:Tryz.prog.follows .mixedOrders=true:=Checked.mixed Tryz.checked
def iv (n:Int):V:=.s (.int .i64 n)
noncomputable def P0:Cfg:=⟨Tryz.prog,lookG [],[],0⟩
theorem mO:P0.Ok:=Cfg.ok trivial trivial
noncomputable def Fc:Eng.Spec:=aC P0 aa 201
theorem Fx:SpecOk Tryz.prog 201 Fc:=af mO mixed Tryz.func201 (by kernel_rfl) (by kernel_rfl)
def cP (n:Int):Int:=if n<=3 then (if 0>n then 0 else n) else if 208<n then 16 else 16 - 208 / (n+13)
def kG:Eng.Spec
 | [.s (.int .i64 n)]=>.ret (iv (cP n))
 | _=>.fail
theorem aV {i:Option Nat} {c:Bool} {x y:T V} {v:V} (h1:c=true->x.eval=some v) (h2:c=false->y.eval=some v):(T.ite i c x y).eval=some v:=by
 cases c
 ·exact h2 rfl
 ·exact h1 rfl
theorem F2 (n:Int):T.anon (Fc [iv n])=T.ite none (decide (n<=3)) (T.ret (iv (if 0>n then 0 else n))) (T.ite none (decide (208<n)) (T.ret (iv 16)) (T.ite none (IntKind.wrap .i64 (n+13)==0) T.fail (T.ret (iv (IntKind.wrap .i64 (16 - IntKind.wrap .i64 (Int.tdiv 208 (IntKind.wrap .i64 (n+13))))))))):=by kernel_rfl
theorem eM:SpecOk Tryz.prog 201 kG:=by
 refine Fx.of_den fun args v hfl h => ?_
 clear hfl
 unfold kG at h
 split at h
 ·rename_i n
  obtain rfl:=Option.some.inj h
  refine ⟨iv (cP n),?_,⟨rfl,rfl⟩,rfl⟩
  rw [<- T.eval_anon,show Fc [V.s (.int .i64 n)]=Fc [iv n] from rfl,F2]
  unfold cP
  refine aV (fun h => ?_) fun h=>aV (fun h5 => ?_) fun h5 => ?_<;>simp only [decide_eq_true_eq,decide_eq_false_iff_not] at *
  ·rw [if_pos h];rfl
  ·rw [if_neg h,if_pos h5];rfl
  ·rw [if_neg h,if_neg h5]
   have e1:IntKind.wrap .i64 (n+13)=n+13:=wrap64_in (by omega) (by omega)
   rw [e1]
   have e2:Int.tdiv 208 (n+13)=208 / (n+13):=Int.tdiv_eq_ediv_of_nonneg (by decide)
   have h6:0<=208 / (n+13):=Int.ediv_nonneg (by decide) (by omega)
   have h7:208 / (n+13)<=208:=Int.ediv_le_self _ (by decide)
   rw [e2,wrap64_in (n:=208 / (n+13)) (by omega) (by omega),wrap64_in (n:=16 - 208 / (n+13)) (by omega) (by omega)]
   refine aV (fun h => ?_) fun h => ?_
   ·simp only [beq_iff_eq] at h;omega
   ·rfl
 ·cases h
theorem Bl:∀ n:Nat,n<210->cP n<=16/\cP n<=n/\(n<3\/3<=cP n)/\cP n<=cP (n+1)/\(0<n->0<cP n)/\0<=cP n:=by decide +kernel
theorem rS {n:Int} (h:208<n):cP n=16:=by unfold cP;rw [if_neg (by omega),if_pos h]
theorem yN {n:Int} (h:0<=n):cP n<=16/\cP n<=n/\(n<3\/3<=cP n)/\cP n<=cP (n+1)/\(0<n->0<cP n)/\0<=cP n:=by
 by_cases q:n<=208
 ·obtain ⟨m,rfl⟩:=Int.eq_ofNat_of_zero_le h
  obtain ⟨h1,h2,h3,h4,h5,h6⟩:=Bl m (by omega)
  exact ⟨h1,h2,by omega,h4,fun h=>h5 (by omega),h6⟩
 ·rw [rS (by omega),rS (n:=n+1) (by omega)];omega
noncomputable def P6:Cfg:=⟨Tryz.prog,lookG [(201,.val kG)],[],0⟩
theorem XW:P6.Ok:=Cfg.ok ⟨eM,trivial⟩ trivial
noncomputable def vR:Eng.Spec:=aC P6 aa 174
theorem zy:SpecOk Tryz.prog 174 vR:=af XW mixed Tryz.func174 (by kernel_rfl) (by kernel_rfl)
def ori (l:List Int):V:=.orow 3 [.int .i64] l
def lenF (n most:Int):Int:=if 0<most then (if most<cP n then most else cP n) else cP n
def mx0 (r:Int):Int:=if 0>r then 0 else r
def mX (n most r:Int):Int:=(mx0 r % n*lenF n most) % n
def DC:Eng.Spec
 | [.s (.int .i64 n),.s (.int .i64 m),.s (.int .i64 r)]=>.ite none (decide (0<=n)&&decide (n<=1000)&&decide (r<=9223372036854775807)) (.ite none (n==0) (.ret (.iface 305 (.agg []))) (.ret (.iface 266 (.agg [iv (mX n m r),iv (lenF n m)])))) .fail
 | _=>.fail
theorem zt (n m r:Int):T.anon (vR [iv n,iv m,iv r])=T.ite none (n==0) (.ret (.iface 305 (.agg []))) (T.ite none (decide (0<m))
  (T.ite none (n==0) .fail (T.ite none (n==0) .fail (.ret (.iface 266 (.agg [iv (Int.tmod (IntKind.wrap .i64 (Int.tmod (mx0 r) n*(if m<cP n then m else cP n))) n),iv (if m<cP n then m else cP n)])))))
  (T.ite none (n==0) .fail (T.ite none (n==0) .fail (.ret (.iface 266 (.agg [iv (Int.tmod (IntKind.wrap .i64 (Int.tmod (mx0 r) n*cP n)) n),iv (cP n)])))))):=by kernel_rfl
theorem oR {n:Int} (hn:0<n) (m:Int):0<lenF n m/\lenF n m<=16/\lenF n m<=n:=by
 obtain ⟨h1,h2,-,-,h5,-⟩:=yN (n:=n) (by omega)
 have:=h5 hn
 unfold lenF
 split
 ·split<;>omega
 ·omega
theorem start_eq {n L x:Int} (hn:0<n) (h2:n<=1000) (h3:0<L) (h4:L<=16) (hx:0<=x):Int.tmod (IntKind.wrap .i64 (Int.tmod x n*L)) n=(x % n*L) % n:=by
 rw [Int.tmod_eq_emod_of_nonneg hx]
 have a1:=Int.emod_nonneg x (b:=n) (by omega)
 have a2:=Int.emod_lt_of_pos x hn
 have a3:0<=x % n*L:=Int.mul_nonneg a1 (by omega)
 have a4:x % n*L<=1000*16:=Int.mul_le_mul (by omega) h4 (by omega) (by omega)
 rw [wrap64_in (by omega) (by omega),Int.tmod_eq_emod_of_nonneg a3]
theorem Dq:SpecOk Tryz.prog 174 DC:=by
 refine zy.of_den fun args v hfl h => ?_
 clear hfl
 unfold DC at h
 split at h
 ·rename_i n m r
  cases hk:(decide (0<=n)&&decide (n<=1000)&&decide (r<=9223372036854775807))
  ·rw [hk] at h;cases h
  ·rw [hk] at h
   simp only [Bool.and_eq_true,decide_eq_true_eq] at hk
   have h:(T.ite none (n==0) (.ret (.iface 305 (.agg []))) (.ret (.iface 266 (.agg [iv (mX n m r),iv (lenF n m)]))):T V).eval=some v:=h
   refine ⟨v,?_,?_,rfl⟩
   ·rw [<- T.eval_anon,show vR [V.s (.int .i64 n),V.s (.int .i64 m),V.s (.int .i64 r)]=vR [iv n,iv m,iv r] from rfl,zt]
    by_cases q:n=0
    ·subst q;exact h
    ·have q2:(n==0)=false:=by simpa using q
     rw [q2] at h
     obtain rfl:=Option.some.inj h
     have hx:0<=mx0 r:=by unfold mx0;split<;>omega
     obtain ⟨l1,l2,l3⟩:=oR (n:=n) (by omega) m
     refine tev_else q2 ?_
     have hs:mX n m r=(mx0 r % n*lenF n m) % n:=rfl
     by_cases hm:0<m
     ·have e:lenF n m=if m<cP n then m else cP n:=by unfold lenF;rw [if_pos hm]
      rw [<- e]
      refine aA (decide_eq_true hm) (tev_else q2 (tev_else q2 ?_))
      rw [start_eq (by omega) hk.1.2 l1 l2 hx];rfl
     ·have e:lenF n m=cP n:=by unfold lenF;rw [if_neg hm]
      rw [<- e]
      refine tev_else (decide_eq_false hm) (tev_else q2 (tev_else q2 ?_))
      rw [start_eq (by omega) hk.1.2 l1 l2 hx];rfl
   ·cases q:n==0<;>rw [q] at h<;>(obtain rfl:=Option.some.inj h;exact ⟨rfl,rfl⟩)
 ·cases h
noncomputable def P7:Cfg:=⟨Tryz.prog,lookG [(174,.val DC)],[],0⟩
theorem UB:P7.Ok:=Cfg.ok ⟨Dq,trivial⟩ trivial
noncomputable def wh1:Code:=cm Tryz.prog 159 0
def rI (own:Bool) (l:List Int):Blk:=.lst own 3 [.int .i64] l
abbrev SH:List (Nat × Src):=[(0,.same),(9,.same),(1000,.tmp 9)]
structure PH where (g:List Int) (k:Nat) (st ln:Int) (j:Nat) (n:Int)
structure AH where (l:List Int) (i:Int)
def vsH (p:PH) (a:AH):List V:=[.sub 0 1 0 p.k,.ptr 9 0,.sub 1000 1 0 p.j,iv p.n,iv a.i]
def bsH (p:PH) (a:AH):List Blk:=[rI false p.g,.cells 266 [iv p.st,iv p.ln],rI true a.l]
noncomputable def FH (p:PH) (a:AH):St:=bO [0,7,9,26,27] [0,9,1000] 1001 45 (vsH p a) (bsH p a)
noncomputable def rtH (g:List Int) (k:Nat) (st ln:Int) (j:Nat) (n:Int) (l:List Int) (i:Int):T (Ex × St) :=
 T.ite none (decide (i<n)) (T.ite none ((k:Int)==0) T.fail (T.ite none (decide (0<=Int.tmod (IntKind.wrap .i64 (st+i)) (k:Int))&&(decide (Int.tmod (IntKind.wrap .i64 (st+i)) (k:Int)<(k:Int))&&decide (0+Int.toNat (Int.tmod (IntKind.wrap .i64 (st+i)) (k:Int))<g.length)))
  (T.ite none (decide (0+Int.toNat (Int.tmod (IntKind.wrap .i64 (st+i)) (k:Int))<g.length)) (T.ite none (decide (0<=i)&&(decide (i<(j:Int))&&decide (0+Int.toNat i<l.length))) (T.ite none (decide (0+Int.toNat i<l.length))
   (T.ret (.normal,FH ⟨g,k,st,ln,j,n⟩ ⟨l.set (0+i.toNat) (gI g (Int.tmod (IntKind.wrap .i64 (st+i)) (k:Int))),IntKind.wrap .i64 (i+1)⟩)) T.fail) T.fail) T.fail) T.fail)) (T.ret (.exit 0,FH ⟨g,k,st,ln,j,n⟩ ⟨l,i⟩))
def Pv:List V->List Blk->Option (PH × AH)
 | [.sub 0 1 0 k,.ptr 9 0,.sub 1000 1 0 j,.s (.int .i64 n),.s (.int .i64 i)],[.lst false t1 [.int .i64] g,.cells t2 [.s (.int .i64 st),.s (.int .i64 ln)],.lst true t3 [.int .i64] l] =>
  if t1=3/\t2=266/\t3=3 then some (⟨g,k,st,ln,j,n⟩,⟨l,i⟩) else none
 | _,_=>none
theorem ON (l:List V) (b:List Blk) (d:PH × AH) (h:Pv l b=some d):l=vsH d.1 d.2/\b=bsH d.1 d.2:=by
 unfold Pv at h
 split at h
 ·split at h
  ·rename_i ht
   obtain ⟨rfl,rfl,rfl⟩:=ht
   cases h
   exact ⟨rfl,rfl⟩
  ·cases h
 ·cases h
def zg (p:PH) (a:AH):Bool:=decide (p.k=p.g.length)&&decide (0<p.k)&&decide (p.k<=1000)&&decide (p.j=a.l.length)&&decide (p.n=(p.j:Int))&&decide (p.j<=1000)&&decide (0<=a.i)&&decide (a.i<=p.n)&&decide (0<=p.st)&&decide (p.st<p.k)
def elH (p:PH) (i:Int):Int:=gI p.g ((p.st+i) % p.k)
def zk (p:PH) (a:AH):Option AH:=if a.i<p.n then some ⟨a.l.set (0+a.i.toNat) (elH p a.i),a.i+1⟩ else none
noncomputable def WI (p:PH) (a:AH):T (Ex × St):=.ret (.exit 0,FH p a)
theorem stH (p:PH) (a b:AH) (h:zg p a=true) (e:zk p a=some b):zg p b=true/\(p.n - b.i).toNat<(p.n - a.i).toNat:=by
 obtain ⟨l,i⟩:=a
 unfold zk at e
 split at e
 ·rename_i hc
  obtain rfl:=Option.some.inj e
  simp only [zg,Bool.and_eq_true,decide_eq_true_eq,List.length_set] at h hc ⊢
  omega
 ·cases e
theorem Tc:LoopOk P7 wh1 (kg [0,7,9,26,27] SH 1000 1001 45 Pv zg zk WI):=by
 refine eS (vs:=vsH) (bs:=bsH) UB mixed (az _) ON (fun p a=>(p.n - a.i).toNat) stH fun ⟨g,k,st,ln,j,n⟩ ⟨l,i⟩ h => ?_
 have e:T.anon (bg P7 aa wh1 [0,7,9,26,27] SH 1000 1001 (bO [0,7,9,26,27] (aG SH) 1001 45 (vsH ⟨g,k,st,ln,j,n⟩ ⟨l,i⟩) (bsH ⟨g,k,st,ln,j,n⟩ ⟨l,i⟩)))=rtH g k st ln j n l i:=by kernel_rfl
 rw [<- T.eval_anon (t:=bg _ _ _ _ _ _ _ _),e]
 clear e
 simp only [zg,Bool.and_eq_true,decide_eq_true_eq] at h
 obtain ⟨⟨⟨⟨⟨⟨⟨⟨⟨rfl,h1⟩,h2⟩,rfl⟩,rfl⟩,h3⟩,h4⟩,h5⟩,h6⟩,h7⟩:=h
 simp only [zk,WI,elH]
 unfold rtH
 by_cases hc:i<l.length
 ·rw [if_pos hc]
  refine ⟨fun b hb => ?_,fun h=>by cases h⟩
  obtain rfl:=Option.some.inj hb
  have e1:Int.tmod (IntKind.wrap .i64 (st+i)) (g.length:Int)=(st+i) % (g.length:Int):=by
   rw [wrap64_in (n:=st+i) (by omega) (by omega),Int.tmod_eq_emod_of_nonneg (by omega)]
  rw [e1,wrap64_in (n:=i+1) (by omega) (by omega)]
  have q1:=Int.emod_nonneg (st+i) (b:=(g.length:Int)) (by omega)
  have q2:=Int.emod_lt_of_pos (st+i) (b:=(g.length:Int)) (by omega)
  exact aA (decide_eq_true hc) (tev_else (by rw [beq_eq_false_iff_ne];omega) (aA (by simp only [Bool.and_eq_true,decide_eq_true_eq];omega) (aA (by simp only [decide_eq_true_eq];omega) (aA (by (first | with_reducible rfl | assumption | (simp only [fF,ef,Bool.and_eq_true,Bool.or_eq_true,Bool.and_eq_false_iff,Bool.or_eq_false_iff,decide_eq_true_eq,decide_eq_false_iff_not,beq_iff_eq,bne_iff_ne,beq_eq_false_iff_ne,bne_eq_false_iff_eq,Bool.not_eq_true',Bool.not_eq_false',ne_eq,Bool.true_and,Bool.and_true,Bool.false_and,Bool.and_false,Bool.true_or,Bool.or_true,Bool.not_true,Bool.not_false,Bool.cond_true,Bool.cond_false,true_and,and_true];first | done | omega))) (aA (by (first | with_reducible rfl | assumption | (simp only [fF,ef,Bool.and_eq_true,Bool.or_eq_true,Bool.and_eq_false_iff,Bool.or_eq_false_iff,decide_eq_true_eq,decide_eq_false_iff_not,beq_iff_eq,bne_iff_ne,beq_eq_false_iff_ne,bne_eq_false_iff_eq,Bool.not_eq_true',Bool.not_eq_false',ne_eq,Bool.true_and,Bool.and_true,Bool.false_and,Bool.and_false,Bool.true_or,Bool.or_true,Bool.not_true,Bool.not_false,Bool.cond_true,Bool.cond_false,true_and,and_true];first | done | omega))) rfl)))))
 ·rw [if_neg hc]
  refine ⟨fun b hb=>(by cases hb),fun _ r hr => ?_⟩
  obtain rfl:=Option.some.inj hr
  exact ⟨by simp,tev_else (decide_eq_false hc) rfl⟩
noncomputable def En:List (Nat × bG):=[(6,kg [0,7,9,26,27] SH 1000 1001 45 Pv zg zk WI)]
theorem Ye:findL En 6=some (kg [0,7,9,26,27] SH 1000 1001 45 Pv zg zk WI):=rfl
theorem hreg:au wh1=some 6:=by kernel_rfl
theorem MW:∀ a∈cd (codeOf Tryz.prog 159),∀ sp,cJ En a=some sp->LoopOk P7 a sp:=by
 have e:cd (codeOf Tryz.prog 159)=[wh1]:=by kernel_rfl
 rw [e]
 intro a ha
 rcases List.mem_cons.1 ha with h | ha
 ·rw [h];exact fy hreg Ye Tc
 ·cases ha
def whL (g:List Int) (st:Int) (n:Nat):List Int:=(List.range n).map fun (q:Nat)=>gI g ((st+q) % g.length)
theorem oJ (g:List Int) (st:Int) (n:Nat):(whL g st n).length=n:=by simp [whL]
theorem M7 (g:List Int) (st:Int) (n q:Nat) (h:q<n):(whL g st n)[q]?=some (gI g ((st+q) % g.length)):=by simp [whL,h]
theorem endH {p:PH} {l:List Int} (h:zg p ⟨l,0⟩=true):df (zk p) ⟨l,0⟩=⟨whL p.g p.st p.j,p.n⟩:=by
 obtain ⟨h1,h2,h3⟩:=dz (stH p) h
 have h4:=h3 (fun a=>∀ q:Nat,(q:Int)<a.i->a.l[q]?=some (elH p q)) (fun q hq=>by dsimp only at hq;omega) fun a b hi hq e=>by
  obtain ⟨m,i⟩:=a
  simp only [zg,Bool.and_eq_true,decide_eq_true_eq] at hi
  unfold zk at e
  split at e
  ·rename_i hc
   obtain rfl:=Option.some.inj e
   dsimp only at hc hq ⊢
   intro q hq'
   by_cases hqi:(q:Int)=i
   ·subst hqi
    rw [Nat.zero_add,Int.toNat_natCast,List.getElem?_set_self (by omega)]
   ·rw [List.getElem?_set_ne (by omega)]
    exact hq q (by omega)
  ·cases e
 generalize df (zk p) ⟨l,0⟩=E at *
 obtain ⟨m,i⟩:=E
 simp only [zg,Bool.and_eq_true,decide_eq_true_eq] at h1
 unfold zk at h2
 split at h2
 ·cases h2
 ·rename_i hc
  dsimp only at hc h4
  have hi:i=p.n:=by omega
  subst hi
  congr 1
  apply List.ext_getElem?
  intro q
  by_cases hq:q<p.j
  ·rw [h4 q (by omega),M7 _ _ _ _ hq]
   unfold elH
   rw [show (p.k:Int)=p.g.length by omega]
  ·rw [List.getElem?_eq_none (by omega),List.getElem?_eq_none (by rw [oJ];omega)]
def qB {α:Type} (args:List V) (f:List Int->Int->Int->T α):T α :=
 match args with
 | [.orow t [.int .i64] l,.s (.int .i64 m),.s (.int .i64 r)]=>if t=3 then f l m r else .fail
 | _=>.fail
theorem ka {α:Type} {args:List V} {f:List Int->Int->Int->T α} {r:α} (e:(qB args f).eval=some r):∃ l m z,args=[ori l,iv m,iv z]/\(f l m z).eval=some r:=by
 unfold qB at e
 split at e
 ·split at e
  ·rename_i ht;subst ht;exact ⟨_,_,_,rfl,e⟩
  ·cases e
 ·cases e
def Ie:Eng.Spec:=fun args=>qB args fun l m r=>.ite none (decide (l.length<=1000)&&decide (r<=9223372036854775807)) (.ret (ori (whL l (mX l.length m r) (lenF l.length m).toNat))) .fail
noncomputable def pH (l:List Int) (m r:Int):PH:=⟨l,l.length,mX l.length m r,lenF l.length m,(lenF l.length m).toNat,((lenF l.length m).toNat:Nat)⟩
theorem DH (l:List Int) (m r:Int):T.anon (aC P7 (cJ En) 159 [ori l,iv m,iv r])=T.ite none (decide (0<=(l.length:Int))&&decide ((l.length:Int)<=1000)&&decide (r<=9223372036854775807)) (T.ite none ((l.length:Int)==0) (T.ite none (decide ((0:Nat)=([]:List Int).length)) (.ret (ori [])) .fail)
  (T.ite none (decide (0<=lenF l.length m)&&(decide (lenF l.length m<=lenF l.length m)&&decide (lenF l.length m<=1000000))) (T.ite none (zg (pH l m r) ⟨List.replicate (lenF l.length m).toNat 0,0⟩)
   (T.ite none (decide ((lenF l.length m).toNat=(df (zk (pH l m r)) ⟨List.replicate (lenF l.length m).toNat 0,0⟩).l.length)) (.ret (ori (df (zk (pH l m r)) ⟨List.replicate (lenF l.length m).toNat 0,0⟩).l)) .fail) .fail) .fail)) .fail:=by kernel_rfl
theorem aF {c:Bool} {x:T V} {v:V} (h:(T.ite none c x .fail).eval=some v):c=true/\x.eval=some v:=by
 cases c
 ·cases h
 ·exact ⟨rfl,h⟩
theorem DV:SpecOk Tryz.prog 159 Ie:=by
 refine (et (Λ:=cJ En) UB mixed Tryz.func159 (by kernel_rfl) (by kernel_rfl) MW).of_eval fun args v h => ?_
 obtain ⟨l,m,r,rfl,h1⟩:=ka (show (qB args _).eval=some v from h)
 clear h
 obtain ⟨hk,h⟩:=aF h1
 obtain rfl:=Option.some.inj h
 simp only [Bool.and_eq_true,decide_eq_true_eq] at hk
 rw [<- T.eval_anon,DH]
 refine aA (by simp only [Bool.and_eq_true,decide_eq_true_eq];omega) ?_
 by_cases q:l.length=0
 ·have hl:l=[]:=List.length_eq_zero_iff.1 q
  subst hl
  have e:(lenF (([]:List Int).length:Int) m).toNat=0:=by
   unfold lenF
   have:cP (([]:List Int).length:Int)=0:=rfl
   rw [this]
   split
   ·split<;>omega
   ·rfl
  rw [e]
  exact aA rfl (aA rfl rfl)
 ·obtain ⟨b1,b2,b3⟩:=oR (n:=(l.length:Int)) (by omega) m
  have c1:0<=mX l.length m r:=Int.emod_nonneg _ (by omega)
  have c2:mX l.length m r<l.length:=Int.emod_lt_of_pos _ (by omega)
  have hi:zg (pH l m r) ⟨List.replicate (lenF l.length m).toNat 0,0⟩=true:=by
   unfold pH
   simp only [zg,Bool.and_eq_true,decide_eq_true_eq,List.length_replicate]
   exact ⟨⟨⟨⟨⟨⟨⟨⟨⟨trivial,by omega⟩,by omega⟩,trivial⟩,trivial⟩,by omega⟩,by omega⟩,by omega⟩,c1⟩,c2⟩
  refine tev_else (by rw [beq_eq_false_iff_ne];omega) (aA (by simp only [Bool.and_eq_true,decide_eq_true_eq];omega) (aA hi ?_))
  rw [endH hi]
  refine aA ?_ rfl
  simp only [decide_eq_true_eq]
  rw [oJ];rfl
end Go.Proofs.YtncmdfdppmfeeaaGreatDoor.Sam
