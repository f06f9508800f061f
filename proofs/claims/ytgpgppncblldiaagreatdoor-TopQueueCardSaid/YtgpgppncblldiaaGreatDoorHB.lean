import Derived.Test.YtgpgppncblldiaaGreatDoorChecked
import Derived.Test.YtgpgppncblldiaaGreatDoorGJ
set_option linter.unusedVariables false
set_option linter.unusedSimpArgs false
set_option maxRecDepth 100000
noncomputable section
namespace Go.Eng
open Go.RowKit
def ro0 (sp:Obj):Obj:=fun args h=>match h with
 | (0,.cells t l)::r=>(sp args ((0,.ro t l)::r)).bind fun x=>if iX ((0,.ro t l)::r) x.1 x.2=true/\look x.2 0=none then .ret (x.1,(0,.cells t l)::x.2) else .fail
 | _=>.fail
theorem ny (b:Blk) (r:Heap):look ((0,b)::r) 0=some b:=rfl
theorem wu (b b':Blk) (r:Heap) {i:Nat} (h:i≠0):look ((0,b)::r) i=look ((0,b')::r) i:=by
 unfold look;rw [if_neg (by simpa using fun e=>h e.symm),if_neg (by simpa using fun e=>h e.symm)]
theorem na (b:Blk) (r:Heap) {i:Nat} (h:i≠0):look ((0,b)::r) i=look r i:=by
 show (if (0==i)=true then some b else look r i)=look r i;rw [if_neg (by simpa using fun e=>h e.symm)]
theorem au.ro0 {P:Program} {f:Nat} {sp:Obj} (h:au P f sp):au P f (ro0 sp):=by
 refine ⟨h.body,fun args hp v h'' ν w hG hF ha hb hr hv hout => ?_⟩;unfold Eng.ro0 at hv;split at hv
 ·rename_i t l r;obtain ⟨⟨v0,h'⟩,h1,h2⟩:=T.aes hv;simp only at h2;split at h2
  ·rename_i hc;obtain ⟨ho,hn⟩:=hc;simp only [T.eval,c9,IT] at h2;obtain ⟨rfl,rfl⟩:=h2;obtain ⟨d1,d2,d3⟩:=hr.den 0 _ (ny (.cells t l) r);have hin:inH ((0,.ro t l)::r)=inH ((0,.cells t l)::r):=by
    funext i;unfold inH;by_cases e:i=0
    ·subst e;rfl
    ·rw [wu (.ro t l) (.cells t l) r e]
   have fpo:∀ k,gN ν ((0,.ro t l)::r) k->∃ j b,j≠0/\look ((0,.cells t l)::r) j=some b/\b.owned=true/\(ν j).fp k:=by
    rintro k ⟨j,b,hj,hb,hk⟩;by_cases e:j=0
    ·subst e;rw [ny] at hj;cases hj;cases hb
    ·exact ⟨j,b,e,by rw [wu (.cells t l) (.ro t l) r e];exact hj,hb,hk⟩
   have fpm:∀ k,gN ν ((0,.ro t l)::r) k->gN ν ((0,.cells t l)::r) k:=fun k hk=>by
    obtain ⟨j,b,_,x,y,z⟩:=fpo k hk;exact ⟨j,b,x,y,z⟩
   have nfp:∀ k,(ν 0).fp k->¬ gN ν ((0,.ro t l)::r) k:=fun k hk q=>by
    obtain ⟨j,b,e,x,y,z⟩:=fpo k q;exact hr.dis j 0 b _ e x (ny _ _) y k z hk
   have hrel:Rel ν (look ((0,.ro t l)::r)) w:=by
    refine ⟨fun i b e => ?_,fun i j bi bj ne ei ej hoi => ?_⟩
    ·by_cases q:i=0
     ·subst q;rw [ny] at e;cases e;exact ⟨d1,d2,d3⟩
     ·exact hr.den i b (by rw [wu (.cells t l) (.ro t l) r q];exact e)
    ·have qi:i≠0:=fun q=>by
      subst q;rw [ny] at ei;cases ei;cases hoi
     by_cases qj:j=0
     ·subst qj;exact hr.dis i 0 bi _ ne (by rw [wu (.cells t l) (.ro t l) r qi];exact ei) (ny _ _) hoi
     ·exact hr.dis i j bi bj ne (by rw [wu (.cells t l) (.ro t l) r qi];exact ei) (by rw [wu (.cells t l) (.ro t l) r qj];exact ej) hoi
   have hok:∀ i b,look ((0,.ro t l)::r) i=some b->b.ok (inH ((0,.ro t l)::r))=true/\i<((0,Blk.ro t l)::r).length:=by
    intro i b e;rw [hin];by_cases q:i=0
    ·subst q;rw [ny] at e;cases e;have:=hb 0 _ (ny (.cells t l) r);exact ⟨this.1,this.2⟩
    ·exact hb i b (by rw [wu (.cells t l) (.ro t l) r q];exact e)
   refine (h.calls args _ v0 h' ν w hG (fun k hk=>hF k (fpm k hk)) (by rw [hin];exact ha) hok hrel h1 ho).mono ?_;rintro e w' ⟨ν',e1,e2,e3,e4,e5⟩;have c0:(ν' 0).core=(ν 0).core:=e2 0 rfl;refine ⟨fun i=>if i=0 then ⟨(ν' 0).core,(ν 0).fp⟩ else ν' i,?_,?_,⟨?_,?_⟩,?_,e5.trans (Prog.refl w' fun _=>False) fpm (fun _ _ q=>q.elim)⟩
   ·rw [e1];congr 1;refine V.aev (p:=fun _=>true) (fun i _ => ?_) v0 (V.aeA (fun _ _=>rfl) v0 (by
     unfold iX at ho;simp only [AS] at ho;exact ho.1))
    by_cases q:i=0
    ·subst q;rfl
    ·simp only [if_neg q]
   ·intro i hi;by_cases q:i=0
    ·subst q;exact c0
    ·simp only [if_neg q];exact e2 i (by rw [hin];exact hi)
   ·intro i b hi;by_cases q:i=0
    ·subst q;rw [ny] at hi;cases hi;simp only [if_true];have hbk:(ν 0).core.blk<w.heap.size:=(Array.getElem?_eq_some_iff.1 d3).1;refine ⟨by rw [c0];exact d1,fun k=>by rw [c0];exact d2 k,?_⟩;rw [c0,e5.block _ hbk (nfp _ ((d2 _).2 rfl)),d3];have hl:okL (inH ((0,.cells t l)::r)) l=true:=(hb 0 _ (ny (.cells t l) r)).1;rw [cg (ν:=ν) (ν':=fun i=>if i=0 then ⟨(ν' 0).core,(ν 0).fp⟩ else ν' i) (p:=inH ((0,.cells t l)::r)) (fun i hi=>by
      by_cases q:i=0
      ·subst q;exact c0.symm
      ·simp only [if_neg q];exact (e2 i (by rw [hin];exact hi)).symm) l hl,c0]
    ·rw [na _ _ q] at hi;simp only [if_neg q];have hd:=e3.den i b hi;refine Blk.aev (p:=fun _=>true) (fun j _ => ?_) rfl rfl (Blk.aeA (fun _ _=>rfl) (by
      have:=ae9.1 (by unfold iX at ho;simp only [AS] at ho;exact ho.2) (i,b) (aq hi);simp only [AS] at this;exact this.1.2)) hd
     by_cases qj:j=0
     ·subst qj;rfl
     ·simp only [if_neg qj]
   ·intro i j bi bj ne hi hj hoi k;by_cases qi:i=0
    ·subst qi;have qj:j≠0:=fun e=>ne e.symm;rw [na _ _ qj] at hj;simp only [if_true,if_neg qj];intro hk hk2;rcases e4 j bj hj k hk2 with q | q
     ·exact nfp k hk q
     ·have:=(d2 k).1 hk;have hbk:(ν 0).core.blk<w.heap.size:=(Array.getElem?_eq_some_iff.1 d3).1;omega
    ·rw [na _ _ qi] at hi;simp only [if_neg qi];by_cases qj:j=0
     ·subst qj;simp only [if_true];intro hk2 hk;rcases e4 i bi hi k hk2 with q | q
      ·exact nfp k hk q
      ·have:=(d2 k).1 hk;have hbk:(ν 0).core.blk<w.heap.size:=(Array.getElem?_eq_some_iff.1 d3).1;omega
     ·rw [na _ _ qj] at hj;simp only [if_neg qj];exact e3.dis i j bi bj ne hi hj hoi k
   ·intro i b hi k hk;by_cases q:i=0
    ·subst q;simp only [if_true] at hk;exact .inl ⟨0,_,ny (.cells t l) r,rfl,hk⟩
    ·rw [na _ _ q] at hi;simp only [if_neg q] at hk;exact (e4 i b hi k hk).imp (fpm k) id
  ·cases h2
 ·cases hv
end Go.Eng
namespace Go.Proofs.YtgpgppncblldiaaGreatDoor.Sub
open Go.Eng Go.RowKit
theorem mixed:Tryz.prog.follows .mixedOrders=true:=Checked.mixed Tryz.checked
def B0:Cfg:=⟨Tryz.prog,lookG [],[],0⟩
theorem acz:B0.Ok:=Cfg.ok trivial trivial
theorem Kw {α:Type} {c:Bool} {x:T α} {r:α} (h:(T.ite none c x .fail).eval=some r):c=true/\x.eval=some r:=ao h
theorem abq {α:Type} {c:Prop} [Decidable c] {x:T α} {r:α} (h:(if c then x else .fail:T α).eval=some r):c/\x.eval=some r:=by
 split at h
 ·exact ⟨by assumption,h⟩
 ·cases h
def clX:Eng.Spec:=aK B0 ab 128
theorem ya:an Tryz.prog 128 clX:=af acz mixed Tryz.func128 (by kernel_rfl) (by kernel_rfl)
def rI (l:List Int):V:=.orow 3 [.int .i64] l
theorem Xh (l:List Int):T.path [true,true,true] (T.anon (clX [rI l]))=some ([(decide (0<l.length),true),(decide (0+l.length<=l.length)&&(decide (0<=([]:List Int).length)&&decide (0+((l.drop 0).take l.length).length<=1000000)),true),(decide (0+((l.drop 0).take l.length).length=(([]:List Int).take 0++(l.drop 0).take l.length).length),true)],rI ((l.drop 0).take l.length)):=by kernel_rfl
theorem Mk (a:Addr) (c:Nat):T.path [true,true] (T.anon (clX [.raw (.slice (some a) 0 c)]))=some ([(true&&(decide (0<=([]:List Int).length)&&decide (0+([]:List Int).length<=1000000)),true),(decide (0+([]:List Int).length=(([]:List Int).take 0++[]).length),true)],rI []):=by kernel_rfl
theorem Mt:T.path [true] (T.anon (clX [.raw (.slice none 0 0)]))=some ([(decide (0=([]:List Int).length),true)],rI []):=by kernel_rfl
theorem UF {l:List Int} (h:¬ 0<l.length):l=[]:=List.eq_nil_of_length_eq_zero (by omega)
theorem UI {l:List Int} (h0:0<l.length) (h1:l.length<=1000000):(clX [rI l]).eval=some (rI l):=by
 rw [<- T.aer (t:=clX _)];have way:=Xh l;have e:(l.drop 0).take l.length=l:=by rw [List.drop_zero,List.take_length]
 rw [e] at way;refine T.aeq way ⟨sh h0,?_,sh ?_,trivial⟩
 ·rw [sh (show 0+l.length<=l.length by omega),sh (show 0+l.length<=1000000 by omega)];rfl
 ·rw [List.take_zero,List.nil_append];omega
def clS:Eng.Spec
 | [.orow t [.int .i64] l]=>if t=3 then .ite none (decide (List.length l<=1000000)) (.ret (.orow 3 [.int .i64] l)) .fail else .fail
 | _=>.fail
theorem Xw:an Tryz.prog 128 clS:=by
 refine ⟨ya.body,fun args v xs w hG hrow hv hrv hh => ?_⟩;unfold clS at hv;split at hv
 ·rename_i t l;obtain ⟨q1,e1⟩:=abq hv;obtain ⟨hl,e2⟩:=Kw e1;obtain rfl:=AI e2;clear hv e1 e2;subst q1;have hl:List.length (α:=Int) l<=1000000:=IS hl;obtain ⟨x,rfl,hx⟩:∃ x,xs=[x]/\iu 0 w (rI l) x:=by
   match xs,hh with
   | [],hh=>exact hh.elim
   | [x],hh=>exact ⟨x,rfl,hh.1⟩
   | _::_::_,hh=>exact hh.2.elim
  by_cases h0:0<List.length (α:=Int) l
  ·refine ya.calls [rI l] (rI l) [x] w hG hrow ?_ hrv ⟨hx,trivial⟩;exact UI h0 hl
  ·have e0:l=[]:=UF h0;subst e0;obtain ⟨at_,cap,rfl,hc,hr⟩:=hx;cases at_ with
   | none =>
    have hc0:cap=0:=hc.2 rfl;subst hc0;exact ya.calls [.raw (.slice none 0 0)] (rI []) [.slice none 0 0] w hG rfl ((T.aer (t:=clX _)).symm.trans (T.aeq Mt ⟨rfl,trivial⟩)) hrv ⟨rfl,trivial⟩
   | some a =>
    exact ya.calls [.raw (.slice (some a) 0 cap)] (rI []) [.slice (some a) 0 cap] w hG rfl ((T.aer (t:=clX _)).symm.trans (T.aeq (Mk a cap) ⟨rfl,rfl,trivial⟩)) hrv ⟨rfl,trivial⟩
 ·cases hv
def O5:Cfg:=⟨Tryz.prog,lookG [(128,.val clS)],[],0⟩
theorem acX:O5.Ok:=Cfg.ok ⟨Xw,trivial⟩ trivial
def ofY:Eng.Spec:=aK O5 ab 98
theorem WE:an Tryz.prog 98 ofY:=af acX mixed Tryz.func98 (by kernel_rfl) (by kernel_rfl)
def cO (ids:List Int) (m:Int):Bool:=bif decide (m<1) then true else decide ((ids.length:Int)<=m)
def tI (l:List Int):List Int:=(l.drop 0).take l.length
theorem of_c (ids:List Int) (m:Int):T.path [true,true,true,true] (T.anon (ofY [rI ids,iv m]))=some ([(cO ids m,true),(decide (0+ids.length<=ids.length),true),(decide ((tI ids).length<=1000000),true),(decide ((tI ids).length=(tI ids).length),true)],rI (tI ids)):=by kernel_rfl
def okM (m:Int):Bool:=decide (m<1)
def ofV (ids:List Int) (m:Int):List Int:=ids
theorem th {ids:List Int} {m:Int} (h:m<1):ofV ids m=ids:=rfl
theorem Gm {l:List Int} (h:l.Nodup) (m:Int):∃ p:Int->Bool,ofV l m=l.filter p:=⟨fun _=>true,(List.filter_eq_self.2 fun _ _=>rfl).symm⟩
theorem MK {ids:List Int} (h:ids.length<=1000000) {m:Int} (hm:m<1):(ofY [rI ids,iv m]).eval=some (rI ids):=by
 rw [<- T.aer (t:=ofY _)];have ht:tI ids=ids:=by unfold tI;rw [List.drop_zero,List.take_length]
 have way:=of_c ids m;rw [ht] at way;exact T.aeq way ⟨by unfold cO;rw [sh hm];rfl,sh (by omega),sh h,sh rfl,trivial⟩
def ofI:Eng.Spec
 | [.orow t [.int .i64] ids,.s (.int .i64 m)]=>if t=3 then .ite none (decide (List.length ids<=1000000)&&okM m) (.ret (.orow 3 [.int .i64] (ofV ids m))) .fail else .fail
 | _=>.fail
theorem TR:an Tryz.prog 98 ofI:=WE.aeu fun args v h=>by
 unfold ofI at h;split at h
 ·rename_i t ids m;split at h
  ·rename_i ht;subst ht;obtain ⟨hb,h2⟩:=Kw h;obtain rfl:=AI h2;rw [AS] at hb;exact MK (IS hb.1) (IS hb.2)
  ·cases h
 ·cases h
end Go.Proofs.YtgpgppncblldiaaGreatDoor.Sub
namespace Go.Proofs.YtgpgppncblldiaaGreatDoor.Que
open Go.Eng Go.RowKit
theorem mixed:Tryz.prog.follows .mixedOrders=true:=Checked.mixed Tryz.checked
def iv (n:Int):V:=.s (.int .i64 n)
abbrev KW:List K:=[.int .i64,.int .i64]
theorem eQ:EOk Tryz.prog [Mw]:=⟨⟨by kernel_rfl,by kernel_rfl⟩,trivial⟩
def J0:Cfg:=⟨Tryz.prog,lookG [],[],0⟩
theorem j7:J0.Ok:=Cfg.ok trivial trivial
def ade:Eng.Spec:=aK J0 ab 38
theorem Qo:an Tryz.prog 38 ade:=af j7 mixed Tryz.func38 (by kernel_rfl) (by kernel_rfl)
def K5:Eng.Spec:=aK J0 ab 90
theorem DV:an Tryz.prog 90 K5:=af j7 mixed Tryz.func90 (by kernel_rfl) (by kernel_rfl)
def KF:Eng.Obj:=aM J0 ab 89
theorem Dz:au Tryz.prog 89 KF:=ak j7 mixed Tryz.func89 (by kernel_rfl) (by kernel_rfl)
def J1:Cfg:=⟨Tryz.prog,lookG [(38,.val ade),(90,.val K5),(89,.obj KF)],[Mw],0⟩
theorem vD:J1.Ok:=Cfg.ok ⟨Qo,DV,Dz,trivial⟩ eQ
def Ss:Eng.Obj:=aM J1 ab 18
theorem GP:au Tryz.prog 18 Ss:=ak vD mixed Tryz.func18 (by kernel_rfl) (by kernel_rfl)
def aej:Eng.Obj:=aM J1 ab 49
theorem MS:au Tryz.prog 49 aej:=ak vD mixed Tryz.func49 (by kernel_rfl) (by kernel_rfl)
def UK:Eng.Obj:=aM J1 ab 76
theorem Il:au Tryz.prog 76 UK:=ak vD mixed Tryz.func76 (by kernel_rfl) (by kernel_rfl)
def zL:Option Int->V
 | none=>.nilIface
 | some t=>.iface 2 (iv t)
def adn:Eng.Obj:=fun args h=>(Ss args h).bind (oh 16 2 143 KW h)
theorem Qz:au Tryz.prog 18 adn:=GP.ae4 16 2 143 KW
structure PA where (d:Int) (u:Option Int) (n:Nat) (l:List (Int × Int)) (k:Nat) (c:Int)
structure AA where (W:List Int) (j:Nat) (i:Int)
def rWt (l:List (Int × Int)):Blk:=.lst true 143 KW l
def FK:List V->List Blk->Option (PA × AA)
 | [.ptr 0 0,.sub 1000 1 0 j,.sub 1 2 0 k,.s (.int .i64 c),.s (.int .i64 i)],[.cells t0 [.s (.int .i64 d),.nilIface,.sub 1 2 0 n],.lst true t1 [.int .i64,.int .i64] l,.lst true t2 [.int .i64] W] =>
  if t0=86 then if t1=143 then if t2=3 then some (⟨d,none,n,l,k,c⟩,⟨W,j,i⟩) else none else none else none
 | [.ptr 0 0,.sub 1000 1 0 j,.sub 1 2 0 k,.s (.int .i64 c),.s (.int .i64 i)],[.cells t0 [.s (.int .i64 d),.iface ti (.s (.int .i64 u)),.sub 1 2 0 n],.lst true t1 [.int .i64,.int .i64] l,.lst true t2 [.int .i64] W] =>
  if ti=2 then if t0=86 then if t1=143 then if t2=3 then some (⟨d,some u,n,l,k,c⟩,⟨W,j,i⟩) else none else none else none else none
 | _,_=>none
def g2w (l:List (Int × Int)) (i:Int):Int × Int:=l.getD (0+i.toNat) (0,0)
def idR {α:Type} (g:List α) (k:Nat) (i:Int):Bool:=decide (0<=i)&&(decide (i<(k:Int))&&decide (0+i.toNat<g.length))
def ldR {α:Type} (g:List α) (i:Int):Bool:=decide (0+i.toNat<g.length)
theorem ct {c:Code} {n:Nat} {sp:bC} {C:Cfg} {f:Nat} (e:bI (codeOf Tryz.prog f)=[c]) (hr:ar c=some n) (h:aI C c sp):∀ a∈bI (codeOf Tryz.prog f),∀ s,bW [(n,sp)] a=some s->aI C a s:=by
 rw [e];intro a ha;rcases afd.1 ha with q | ha
 ·rw [q];exact dP hr (by simp [findL]) h
 ·cases ha
def qK (K:Nat) (d:Int) (u:Option Int) (n:Nat):Blk:=.cells 86 [iv d,zL u,.sub K 2 0 n]
def lqL:Code:=bY Tryz.prog 68 0
structure PL where (d:Int) (u:Option Int) (now age:Int)
structure AL where (n:Nat) (l:List (Int × Int)) (W:List Int) (j:Nat)
abbrev SL0:List (Nat × Src):=[(0,.same),(1000,.cell 0 2),(1001,.tmp 7)]
abbrev SL1:List (Nat × Src):=[(0,.same),(1000,.cell 0 2),(1001,.tmp 6)]
def vsL (p:PL) (a:AL):List V:=[.ptr 0 0,iv p.now,iv p.age,.sub 1001 1 0 a.j]
def bsL (p:PL) (a:AL):List Blk:=[qK 1000 p.d p.u a.n,rWt a.l,.lst true 3 [.int .i64] a.W]
def FL (p:PL) (a:AL):St:=bK [0,1,2,7] [0,1000,1001] 1002 41 (vsL p a) (bsL p a)
def XL (p:PL) (a:AL):St:=bK [6] [0,1000,1001] 1002 41 [.sub 1001 1 0 a.j] (bsL p a)
def rdL (p:PL) (a:AL):T (Ex × St):=T.anon (jR J1 ab lqL [0,1,2,7] SL0 [6] SL1 1000 1002 (bK [0,1,2,7] (aF SL0) 1002 41 (vsL p a) (bsL p a)))
def wB (t now age:Int):Bool:=bif decide (t<=now) then decide (IntKind.wrap .u64 (if 0>age then 0 else age)<=IntKind.wrap .u64 (IntKind.wrap .u64 now - IntKind.wrap .u64 t)) else false
def bL (p:PL) (a:AL):AL:=⟨Int.toNat (a.n:Int) - Int.toNat 1,(a.l.drop (Int.toNat 1)).take (Int.toNat (a.n:Int) - Int.toNat 1),List.take a.j a.W++[(g2w a.l 0).1],a.j+[(g2w a.l 0).1].length⟩
theorem wayL (p:PL) (a:AL):T.path [false,true,true,false,true,true] (rdL p a)=some ([((a.n:Int)==0,false),(decide ((0:Int)<=0)&&(decide ((0:Int)<(a.n:Int))&&decide (0+Int.toNat 0<a.l.length)),true),(decide (0+Int.toNat 0<a.l.length),true),(!(wB (g2w a.l 0).2 p.now p.age),false),
 (decide ((0:Int)<=1)&&(decide ((1:Int)<=(a.n:Int))&&(decide ((a.n:Int)<=(a.n:Int))&&decide (a.n<=a.l.length))),true),(true&&(decide (a.j<=a.W.length)&&decide (a.j+[(g2w a.l 0).1].length<=1000000)),true)],(.normal,FL p (bL p a))):=by
 obtain ⟨d,u,now,age⟩:=p;cases u<;>kernel_rfl
theorem Nb (p:PL) (a:AL):T.path [true] (rdL p a)=some ([((a.n:Int)==0,true)],(.ret,XL p a)):=by
 obtain ⟨d,u,now,age⟩:=p;cases u<;>kernel_rfl
theorem Rs (p:PL) (a:AL):T.path [false,true,true,true] (rdL p a)=some ([((a.n:Int)==0,false),(decide ((0:Int)<=0)&&(decide ((0:Int)<(a.n:Int))&&decide (0+Int.toNat 0<a.l.length)),true),(decide (0+Int.toNat 0<a.l.length),true),(!(wB (g2w a.l 0).2 p.now p.age),true)],(.ret,XL p a)):=by
 obtain ⟨d,u,now,age⟩:=p;cases u<;>kernel_rfl
def okL (p:PL) (a:AL):Prop:=a.n=a.l.length/\a.j=a.W.length/\a.l.length+a.W.length<=1000
def goL (p:PL) (a:AL):Bool := !((a.n:Int)==0)&&wB (g2w a.l 0).2 p.now p.age
def Bn (p:PL) (a:AL):Option AL:=if goL p a=true then some (bL p a) else none
def muL (p:PL) (a:AL):Nat:=a.l.length
def ad0 (p:PL) (a:AL):T (Ex × St):=.ret (.ret,XL p a)
theorem Ek {a:AL} (h:a.n=a.l.length) (h2:a.j=a.W.length) (p:PL):bL p a=⟨a.l.length - 1,a.l.tail,a.W++[(g2w a.l 0).1],a.W.length+1⟩:=by
 unfold bL;have e1:Int.toNat 1=1:=rfl;have e2:Int.toNat (a.n:Int)=a.n:=Int.toNat_natCast _;rw [e1,e2,h,h2,List.take_length,List.drop_one,afm (by rw [List.length_tail];exact afh _)];rfl
theorem stL (p:PL) (a b:AL) (h:bR okL p a=true) (e:Bn p a=some b):bR okL p b=true/\muL p b<muL p a:=by
 obtain ⟨h1,h2,h3⟩:=aY h;unfold Bn at e;split at e
 ·rename_i hg;obtain rfl:=AI e;unfold goL at hg;simp only [AS,Bool.not_eq_true',afb] at hg;have hl:0<a.l.length:=by omega
  rw [Ek h1 h2];refine ⟨aC ⟨?_,?_,?_⟩,?_⟩
  ·show a.l.length - 1=a.l.tail.length;rw [List.length_tail]
  ·show a.W.length+1=(a.W++[(g2w a.l 0).1]).length;simp
  ·show a.l.tail.length+(a.W++[(g2w a.l 0).1]).length<=1000;rw [List.length_tail,IN,List.length_singleton];omega
  ·show a.l.tail.length<a.l.length;rw [List.length_tail];omega
 ·cases e
theorem hrL (p:PL) (a:AL) (h:bR okL p a=true):(∀ b,Bn p a=some b->(rdL p a).eval=some (.normal,FL p b))/\(Bn p a=none->∀ r,(ad0 p a).eval=some r->r.1≠.normal/\(rdL p a).eval=some r):=by
 obtain ⟨h1,h2,h3⟩:=aY h;have cs:(a.n:Int)≠0->(decide ((0:Int)<=0)&&(decide ((0:Int)<(a.n:Int))&&decide (0+Int.toNat 0<a.l.length)))=true/\decide (0+Int.toNat 0<a.l.length)=true:=by
  intro hn;have:0+Int.toNat 0<a.l.length:=by show 0+0<a.l.length;omega
  rw [sh (show (0:Int)<(a.n:Int) by omega),sh this];exact ⟨rfl,rfl⟩
 refine ⟨fun b hb => ?_,fun hn r hr => ?_⟩
 ·unfold Bn at hb;split at hb
  ·rename_i hg;obtain rfl:=AI hb;unfold goL at hg;simp only [AS,Bool.not_eq_true'] at hg;have hn:(a.n:Int)≠0:=afb.1 hg.1;refine T.aeq (wayL p a) ⟨hg.1,(cs hn).1,(cs hn).2,by rw [hg.2];rfl,?_,?_,trivial⟩
   ·rw [sh (show (1:Int)<=(a.n:Int) by omega),sh (afa (a.n:Int)),sh (show a.n<=a.l.length by omega)];rfl
   ·rw [sh (show a.j<=a.W.length by omega),sh (show a.j+[(g2w a.l 0).1].length<=1000000 by simp;omega)];rfl
  ·cases hb
 ·obtain rfl:=AI hr;refine ⟨by simp,?_⟩;unfold Bn at hn;split at hn
  ·cases hn
  ·rename_i hg;unfold goL at hg;cases q:((a.n:Int)==0)
   ·rw [q] at hg;have hw:wB (g2w a.l 0).2 p.now p.age=false:=by simpa using hg
    have hn:(a.n:Int)≠0:=afb.1 q;exact T.aeq (Rs p a) ⟨q,(cs hn).1,(cs hn).2,by rw [hw];rfl,trivial⟩
   ·exact T.aeq (Nb p a) ⟨q,trivial⟩
def Zu:List V->List Blk->Option (PL × AL)
 | [.ptr 0 0,.s (.int .i64 now),.s (.int .i64 age),.sub 1001 1 0 j],[.cells t0 [.s (.int .i64 d),.nilIface,.sub 1000 2 0 n],.lst true t1 [.int .i64,.int .i64] l,.lst true t2 [.int .i64] W] =>
  if t0=86 then if t1=143 then if t2=3 then some (⟨d,none,now,age⟩,⟨n,l,W,j⟩) else none else none else none
 | [.ptr 0 0,.s (.int .i64 now),.s (.int .i64 age),.sub 1001 1 0 j],[.cells t0 [.s (.int .i64 d),.iface ti (.s (.int .i64 u)),.sub 1000 2 0 n],.lst true t1 [.int .i64,.int .i64] l,.lst true t2 [.int .i64] W] =>
  if ti=2 then if t0=86 then if t1=143 then if t2=3 then some (⟨d,some u,now,age⟩,⟨n,l,W,j⟩) else none else none else none else none
 | _,_=>none
theorem Ox (l:List V) (b:List Blk) (d:PL × AL) (h:Zu l b=some d):l=vsL d.1 d.2/\b=bsL d.1 d.2:=by
 unfold Zu at h;split at h
 ·split at h
  ·rename_i ht0;split at h
   ·rename_i ht1;split at h
    ·rename_i ht2;subst ht0 ht1 ht2;cases h;exact ⟨rfl,rfl⟩
    ·cases h
   ·cases h
  ·cases h
 ·split at h
  ·rename_i hti;split at h
   ·rename_i ht0;split at h
    ·rename_i ht1;split at h
     ·rename_i ht2;subst hti ht0 ht1 ht2;cases h;exact ⟨rfl,rfl⟩
     ·cases h
    ·cases h
   ·cases h
  ·cases h
 ·cases h
def W7:bC:=OM [0,1,2,7] SL0 SL1 1000 1002 41 Zu (bR okL) Bn ad0
theorem UW:aI J1 lqL W7:=yU (T1:=[6]) (vs:=vsL) (bs:=bsL) vD mixed (az _) Ox muL stL fun p a h=>by
 have e:(jR J1 ab lqL [0,1,2,7] SL0 [6] SL1 1000 1002 (bK [0,1,2,7] (aF SL0) 1002 41 (vsL p a) (bsL p a))).eval=(rdL p a).eval:=by unfold rdL;rw [T.aer]
 rw [e];exact hrL p a h
def qllist:List (Nat × bC):=[(4,W7)]
theorem ZK:ar lqL=some 4:=by kernel_rfl
def QE:Eng.Obj:=aM J1 (bW qllist) 68
theorem Ig:au Tryz.prog 68 QE:=aG vD mixed Tryz.func68 (by kernel_rfl) (by kernel_rfl) (ct (c:=lqL) (by kernel_rfl) ZK UW)
def eL (p:PL) (n:Nat) (l:List (Int × Int)):AL:=bQ (Bn p) ⟨n,l,[],0⟩
def late (p:PL) (x:Int × Int):Bool:=wB x.2 p.now p.age
theorem aay {p:PL} {n:Nat} {l:List (Int × Int)} (hn:n=l.length) (hl:l.length<=1000):bR okL p ⟨n,l,[],0⟩=true/\∃ k:Nat,k<=l.length/\(eL p n l).l=l.drop k/\(eL p n l).W=(l.take k).map (·.1)/\(eL p n l).n=l.length - k/\(eL p n l).j=k /\
  (∀ j:Nat,(h:j<k)->(hj:j<l.length)->late p l[j]=true)/\((hk:k<l.length)->late p l[k]=false):=by
 have h0:okL p ⟨n,l,[],0⟩:=⟨hn,rfl,by show l.length+0<=1000;omega⟩
 refine ⟨aC h0,?_⟩;obtain ⟨e1,e2,e3⟩:=bP (nxt:=Bn p) (I:=fun a=>bR okL p a=true) (μ:=muL p) (fun a b h e=>stL p a b h e) (aC h0);have e1':okL p (eL p n l):=aY e1;have e2':Bn p (eL p n l)=none:=e2;have e3':=e3 (fun a=>a.W.length<=l.length/\a.l=l.drop a.W.length/\a.W=(l.take a.W.length).map (·.1)/\∀ j:Nat,(h:j<a.W.length)->(hj:j<l.length)->late p l[j]=true) ⟨Nat.zero_le _,rfl,rfl,fun j h=>absurd h (Nat.not_lt_zero j)⟩ (by
  rintro a b hi ⟨q1,q2,q3,q4⟩ hb;obtain ⟨o1,o2,o3⟩:=aY hi;unfold Bn at hb;split at hb
  ·rename_i hg;obtain rfl:=AI hb;unfold goL at hg;simp only [AS,Bool.not_eq_true',afb] at hg;have hlen:a.l.length=l.length - a.W.length:=by rw [q2,afl]
   have hlt:a.W.length<l.length:=by omega
   have hg0:g2w a.l 0=l[a.W.length]:=by
    unfold g2w;rw [ae7,show 0+Int.toNat 0=0 from rfl,q2,List.getElem?_drop,Nat.add_zero,OF hlt];rfl
   rw [Ek o1 o2];refine ⟨?_,?_,?_,?_⟩
   ·show (a.W++[(g2w a.l 0).1]).length<=l.length;simp;omega
   ·show a.l.tail=l.drop (a.W++[(g2w a.l 0).1]).length;rw [IN,List.length_singleton,q2,List.tail_drop]
   ·show a.W++[(g2w a.l 0).1]=(l.take (a.W++[(g2w a.l 0).1]).length).map (·.1);rw [IN,List.length_singleton,List.take_add_one,List.map_append,<- q3,OF hlt,hg0];rfl
   ·show ∀ j:Nat,(h:j<(a.W++[(g2w a.l 0).1]).length)->_;intro j h hj;rw [IN,List.length_singleton] at h;by_cases e:j<a.W.length
    ·exact q4 j e hj
    ·have:j=a.W.length:=by omega
     subst this;unfold late;rw [<- hg0];exact hg.2
  ·cases hb)
 obtain ⟨q1,q2,q3,q4⟩:=(show _/\_/\_/\_ from e3')
 obtain ⟨o1,o2,o3⟩:=e1';have hlen:(eL p n l).l.length=l.length - (eL p n l).W.length:=by rw [show (eL p n l).l=l.drop (eL p n l).W.length from q2,afl]
 refine ⟨(eL p n l).W.length,q1,q2,q3,by rw [o1,hlen],o2,q4,fun hk => ?_⟩;have hg0:g2w (eL p n l).l 0=l[(eL p n l).W.length]:=by
  unfold g2w;rw [ae7,show 0+Int.toNat 0=0 from rfl,show (eL p n l).l=l.drop (eL p n l).W.length from q2,List.getElem?_drop,Nat.add_zero,OF hk];rfl
 unfold Bn at e2';split at e2'
 ·cases e2'
 ·rename_i hg;unfold goL at hg;have hn0:(((eL p n l).n:Int)==0)=false:=by rw [afb];omega
  rw [hn0,hg0] at hg;unfold late;simpa using hg
end Go.Proofs.YtgpgppncblldiaaGreatDoor.Que
namespace Go.Proofs.YtgpgppncblldiaaGreatDoor.Lod
open Go.Eng Go.RowKit Go.Flt
theorem mixed:Tryz.prog.follows .mixedOrders=true:=Checked.mixed Tryz.checked
def iv (n:Int):V:=.s (.int .i64 n)
def cx (x y:Nat):V:=.s (.cx .f64 x y)
def P0:Cfg:=⟨Tryz.prog,lookG [],[],0⟩
theorem o7:P0.Ok:=Cfg.ok trivial trivial
def Ch:Eng.Spec:=aK P0 ab 173
theorem A6:an Tryz.prog 173 Ch:=af o7 mixed Tryz.func173 (by kernel_rfl) (by kernel_rfl)
def Ff:Eng.Spec:=aK P0 ab 169
theorem Cl:an Tryz.prog 169 Ff:=af o7 mixed Tryz.func169 (by kernel_rfl) (by kernel_rfl)
def dY (x:Nat):Int:=(floatToIntVal .f64 x .i64).getD 0
def isW (x:Nat):Bool:=decide (0<=dY x)&&decide (dY x<=1099511627776)&&decide (x=fI (dY x).toNat)
theorem EY {n:Nat} (h:n<=1099511627776):dY (fI n)=n:=by unfold dY;rw [Lu (by omega)];rfl
theorem WK {n:Nat} (h:n<=1099511627776):isW (fI n)=true:=by
 unfold isW;rw [EY h];simp only [AS,AT];exact ⟨⟨by omega,by omega⟩,by rw [Int.toNat_natCast]⟩
theorem Iw {x:Nat} (h:isW x=true):∃ n:Nat,n<=1099511627776/\x=fI n/\dY x=n:=by
 unfold isW at h;simp only [AS,AT] at h;exact ⟨(dY x).toNat,by omega,h.2,by omega⟩
theorem QH {n:Int} (h0:0<=n) (h:n<=1099511627776):floatOfInt .f64 n=fI n.toNat:=by
 obtain ⟨m,rfl⟩:=Int.eq_ofNat_of_zero_le h0;rw [Int.toNat_natCast];exact AO (by omega)
def wi (n:Int):Int:=if 1099511627776<(if 0>n then 0 else n) then 1099511627776 else if 0>n then 0 else n
theorem qD (n:Int):0<=wi n/\wi n<=1099511627776:=by
 unfold wi;repeat' split
 all_goals omega
theorem HB {n:Int} (h0:0<=n) (h:n<=1099511627776):wi n=n:=by
 unfold wi;repeat' split
 all_goals omega
def fW (n:Int):Nat:=fI (wi n).toNat
theorem BL (n:Int):dY (fW n)=wi n:=by
 have:=qD n;unfold fW;rw [EY (by omega)];omega
theorem Ki (n:Int):isW (fW n)=true:=WK (by have:=qD n;omega)
theorem aJ {c:Bool} {x:T V} {v:V} (h:(T.ite none c x .fail).eval=some v):c=true/\x.eval=some v:=by
 cases c
 ·cases h
 ·exact ⟨rfl,h⟩
theorem bu {i:Option Nat} {c:Bool} {x y:T V} {v:V} (h1:c=true->x.eval=some v) (h2:c=false->y.eval=some v):(T.ite i c x y).eval=some v:=by
 cases c
 ·exact h2 rfl
 ·exact h1 rfl
def q8:Eng.Spec
 | [.s (.int .i64 n)]=>.ret (iv (wi n))
 | _=>.fail
theorem pN:an Tryz.prog 173 q8:=by
 refine A6.aex fun args v hfl h => ?_;clear hfl;unfold q8 at h;split at h
 ·rename_i n;obtain rfl:=AI h;have e:T.anon (Ch [iv n])=.ret (iv (wi n)):=by kernel_rfl
  exact ⟨_,by rw [<- T.aer];exact congrArg T.eval e,⟨rfl,rfl⟩,rfl⟩
 ·cases h
def DK:Eng.Spec
 | [.s (.float .f64 x)]=>.ite none (isW x) (.ret (iv (dY x))) .fail
 | _=>.fail
theorem Hh:(4787326403894837248:Nat)=fI 1099511627776:=by decide +kernel
theorem Hl:(0:Nat)=fI 0:=by decide +kernel
theorem Dn (x:Nat):T.anon (Ff [.s (.float .f64 x)])=T.ite none (FloatKind.f64.format.order x 4787326403894837248==some .gt||FloatKind.f64.format.order x 4787326403894837248==some .eq) (.ret (iv 1099511627776))
  (T.ite none (FloatKind.f64.format.order x 0==some .gt) (T.ite none (floatToIntVal .f64 x .i64).isSome (.ret (iv ((floatToIntVal .f64 x .i64).getD 0))) .fail) (.ret (iv 0))):=by kernel_rfl
theorem Lp {a b:Int}:(some (compare a b)==some Ordering.gt)=decide (b<a):=by
 simp only [compare,compareOfLessAndEq];split
 ·rw [By (by omega)];rfl
 ·split
  ·rw [By (by omega)];rfl
  ·rw [sh (by omega)];rfl
theorem Tl {a b:Int}:(some (compare a b)==some Ordering.eq)=decide (a=b):=by
 simp only [compare,compareOfLessAndEq];split
 ·rw [By (by omega)];rfl
 ·split
  ·rename_i h;rw [sh h];rfl
  ·rename_i h;rw [By h];rfl
theorem AP {x:Nat} (h:isW x=true):(Ff [.s (.float .f64 x)]).eval=some (iv (dY x)):=by
 obtain ⟨n,hn,rfl,hv⟩:=Iw h;rw [hv,<- T.aer,Dn,Hh,Hl,yj (by omega) (by omega),yj (by omega) (by decide),Lp,Tl,Lp,Lu (by omega)];refine bu (fun h => ?_) fun h=>bu (fun h2 => ?_) fun h2 => ?_
 ·simp only [afp,AT] at h;rw [show (n:Int)=1099511627776 by omega];rfl
 ·exact aA rfl rfl
 ·simp only [afi] at h2;rw [show (n:Int)=0 by omega];rfl
theorem DJ:an Tryz.prog 169 DK:=by
 refine Cl.aex fun args v hfl h => ?_;clear hfl;unfold DK at h;split at h
 ·rename_i x;obtain ⟨hk,h⟩:=aJ h;obtain rfl:=AI h;exact ⟨_,AP hk,⟨rfl,rfl⟩,rfl⟩
 ·cases h
def Q1:Cfg:=⟨Tryz.prog,lookG [(173,.val q8),(169,.val DK)],[],0⟩
theorem pf:Q1.Ok:=Cfg.ok ⟨pN,DJ,trivial⟩ trivial
theorem qq (n:Int):floatOfInt .f64 (wi n)=fW n:=by
 have:=qD n;exact QH this.1 this.2
def ofC:Eng.Spec
 | [.s (.int .i64 a),.s (.int .i64 b)]=>.ret (cx (fW a) (fW b))
 | _=>.fail
theorem KE:an Tryz.prog 138 ofC:=by
 refine (af pf mixed Tryz.func138 (by kernel_rfl) (by kernel_rfl)).aex fun args v hfl h => ?_;clear hfl;unfold ofC at h;split at h
 ·rename_i a b;obtain rfl:=AI h;have e:T.anon (aK Q1 ab 138 [iv a,iv b])=.ret (cx (floatOfInt .f64 (wi a)) (floatOfInt .f64 (wi b))):=by kernel_rfl
  refine ⟨cx (fW a) (fW b),?_,⟨rfl,rfl⟩,rfl⟩;rw [<- T.aer];refine Eq.trans (congrArg T.eval e) ?_;rw [qq,qq];rfl
 ·cases h
def Hr:Eng.Spec
 | [.s (.cx .f64 x y)]=>.ite none (isW x) (.ret (iv (dY x))) .fail
 | _=>.fail
theorem ye:an Tryz.prog 135 Hr:=by
 refine (af pf mixed Tryz.func135 (by kernel_rfl) (by kernel_rfl)).aex fun args v hfl h => ?_;clear hfl;unfold Hr at h;split at h
 ·rename_i x y;obtain ⟨hk,h⟩:=aJ h;obtain rfl:=AI h;have e:T.anon (aK Q1 ab 135 [cx x y])=.ite none (isW x) (.ret (iv (dY x))) .fail:=by kernel_rfl
  refine ⟨iv (dY x),?_,⟨rfl,rfl⟩,rfl⟩;rw [<- T.aer];exact (congrArg T.eval e).trans (aA hk rfl)
 ·cases h
def Qk:Eng.Spec
 | [.s (.cx .f64 x y)]=>.ite none (isW y) (.ret (iv (dY y))) .fail
 | _=>.fail
theorem Gp:an Tryz.prog 170 Qk:=by
 refine (af pf mixed Tryz.func170 (by kernel_rfl) (by kernel_rfl)).aex fun args v hfl h => ?_;clear hfl;unfold Qk at h;split at h
 ·rename_i x y;obtain ⟨hk,h⟩:=aJ h;obtain rfl:=AI h;have e:T.anon (aK Q1 ab 170 [cx x y])=.ite none (isW y) (.ret (iv (dY y))) .fail:=by kernel_rfl
  refine ⟨iv (dY y),?_,⟨rfl,rfl⟩,rfl⟩;rw [<- T.aer];exact (congrArg T.eval e).trans (aA hk rfl)
 ·cases h
def Q2:Cfg:=⟨Tryz.prog,lookG [(173,.val q8),(138,.val ofC),(135,.val Hr),(170,.val Qk)],[],0⟩
theorem BF:Q2.Ok:=Cfg.ok ⟨pN,KE,ye,Gp,trivial⟩ trivial
def Th:Eng.Spec:=aK Q2 ab 136
theorem IQ:an Tryz.prog 136 Th:=af BF mixed Tryz.func136 (by kernel_rfl) (by kernel_rfl)
def mvB (b w n:Int):Bool:=decide (w<n)||decide (n < -b)||decide (1099511627776 - b<n)||decide (n<w - 1099511627776)
def moveC:Eng.Spec
 | [.s (.cx .f64 x y),.s (.int .i64 n)]=>.ite none (isW x&&isW y) (.ite none (mvB (dY x) (dY y) n) (.ret (.tup [cx (fW (dY x)) (fW (dY y)),iv 5])) (.ret (.tup [cx (fW (dY x+n)) (fW (dY y - n)),iv 0]))) .fail
 | _=>.fail
def lessB (b w b' w':Int):Bool:=if b=b' then decide (w<w') else decide (b<b')
def Wd (x y x' y':Nat):Bool:=isW x&&isW y&&isW x'&&isW y'
def QL:Eng.Spec
 | [.s (.cx .f64 x y),.s (.cx .f64 x' y')]=>.ite none (Wd x y x' y') (.ret (.s (.bool (lessB (dY x) (dY y) (dY x') (dY y'))))) .fail
 | _=>.fail
theorem JD (x y x' y':Nat):T.anon (Th [cx x y,cx x' y'])=T.ite none (isW x) (T.ite none (isW x') (T.ite none (dY x != dY x') (T.ite none (isW x) (T.ite none (isW x') (.ret (.s (.bool (decide (dY x<dY x'))))) .fail) .fail)
  (T.ite none (isW y) (T.ite none (isW y') (.ret (.s (.bool (decide (dY y<dY y'))))) .fail) .fail)) .fail) .fail:=by kernel_rfl
theorem Hq:an Tryz.prog 136 QL:=by
 refine IQ.aex fun args v hfl h => ?_;clear hfl;unfold QL at h;split at h
 ·rename_i x y x' y';obtain ⟨hk,h⟩:=aJ h;obtain rfl:=AI h;simp only [Wd,AS] at hk;refine ⟨.s (.bool (lessB (dY x) (dY y) (dY x') (dY y'))),?_,⟨rfl,rfl⟩,rfl⟩;rw [<- T.aer];refine Eq.trans (congrArg T.eval (JD x y x' y')) (aA hk.1.1.1 (aA hk.1.2 ?_));unfold lessB;by_cases q:dY x=dY x'
  ·rw [if_pos q];exact tev_else (by rw [q];simp) (aA hk.1.1.2 (aA hk.2 rfl))
  ·rw [if_neg q];exact aA (by simpa using q) (aA hk.1.1.1 (aA hk.1.2 rfl))
 ·cases h
end Go.Proofs.YtgpgppncblldiaaGreatDoor.Lod
namespace Go.Proofs.YtgpgppncblldiaaGreatDoor.Brk
open Go.Eng Go.RowKit Go.Flt Lod
structure PF where (n d L D:Int)
structure AF where (x y:Nat) (i:Int)
def bIn (n i:Int):Int:=if i<n then i else n
def wIn (n i:Int):Int:=if i<n then 0 else i - n
def XG (p:PF) (a:AF):Bool:=decide (p.L=p.n)&&decide (p.D=p.d)&&decide (1<=p.n)&&decide (p.n<=20)&&decide (0<=p.d)&&decide (p.d<=20)&&decide (0<=a.i)&&decide (a.i<=p.n+p.d)&&isW a.x&&isW a.y&&decide (dY a.x=bIn p.n a.i)&&decide (dY a.y=wIn p.n a.i)
def mH (g:List (Int × Int)) (i:Int):Int:=IntKind.wrap .i64 (Int.tmod (IntKind.wrap .u64 (g2 g i).2) 21)
def okH (n d:Int) (x y:Nat) (c:Int):Prop:=isW x=true/\isW y=true/\0<=dY x/\dY x<=20/\0<=dY y/\dY y<=d/\(0<dY y->n<=dY x)/\c=dY x+dY y/\0<=n/\n<=20/\0<=d/\d<=20
instance (n d:Int) (x y:Nat) (c:Int):Decidable (okH n d x y c):=inferInstanceAs (Decidable (_/\_))
end Go.Proofs.YtgpgppncblldiaaGreatDoor.Brk
namespace Go.Proofs.YtgpgppncblldiaaGreatDoor.Pic
open Go.Eng Go.RowKit Go.Flt Lod Brk
abbrev CX:List K:=[.cx .f64]
def g1 (l:List (Nat × Nat)) (i:Int):Nat × Nat:=l.getD (0+i.toNat) (0,0)
def C1:Cfg:=⟨Tryz.prog,lookG [(135,.val Hr),(136,.val QL)],[],0⟩
theorem JC:C1.Ok:=Cfg.ok ⟨ye,Hq,trivial⟩ trivial
def lpA:Code:=bY Tryz.prog 99 0
structure PA where (g:List (Nat × Nat)) (k k':Nat) (m c:Int)
structure AA where (b i:Int)
abbrev S1:List (Nat × Src):=[(0,.same)]
def bsA (p:PA):List Blk:=[.lst false 237 CX p.g]
def vsA (p:PA) (a:AA):List V:=[.sub 0 1 0 p.k,Lod.iv p.m,Lod.iv a.b,.sub 0 1 0 p.k',Lod.iv p.c,Lod.iv a.i]
def FA (p:PA) (a:AA):St:=bK [0,1,5,8,9,10] [0] 1000 34 (vsA p a) (bsA p)
def rdA (p:PA) (a:AA):T (Ex × St):=T.anon (aZ C1 ab lpA [0,1,5,8,9,10] S1 1000 1000 (bK [0,1,5,8,9,10] (aF S1) 1000 34 (vsA p a) (bsA p)))
def bz (g:List (Nat × Nat)) (j:Int):Int:=dY (g1 g j).1
def wt (g:List (Nat × Nat)) (j:Int):Int:=dY (g1 g j).2
def ls (g:List (Nat × Nat)) (i j:Int):Bool:=lessB (bz g i) (wt g i) (bz g j) (wt g j)
def idA (g:List (Nat × Nat)) (k:Nat) (i:Int):Bool:=decide (0<=i)&&(decide (i<(k:Int))&&decide (0+i.toNat<g.length))
def ldA (g:List (Nat × Nat)) (i:Int):Bool:=decide (0+i.toNat<g.length)
def gdA (p:PA) (a:AA):Bool:=decide (bz p.g a.i<p.m)==true&&((a.b == -1)==false&&true)
def tkA (p:PA) (a:AA):Bool:=bif decide (bz p.g a.i<p.m) then bif a.b == -1 then true else ls p.g a.i a.b else false
theorem wayA (p:PA) (a:AA) (e:Bool):T.path [true,true,true,true,true,true,true,e] (rdA p a)=some ([(decide (a.i<p.c),true),(idA p.g p.k' a.i,true),(ldA p.g a.i,true),(isW (g1 p.g a.i).1,true),
 (bif gdA p a then idA p.g p.k a.b else true,true),(bif gdA p a then ldA p.g a.b else true,true),(bif gdA p a then Wd (g1 p.g a.i).1 (g1 p.g a.i).2 (g1 p.g a.b).1 (g1 p.g a.b).2 else true,true),(tkA p a,e)],(.normal,FA p ⟨bif e then a.i else a.b,IntKind.wrap .i64 (a.i+1)⟩)):=by cases e<;>kernel_rfl
theorem Pn (p:PA) (a:AA):T.path [false] (rdA p a)=some ([(decide (a.i<p.c),false)],(.exit 0,FA p a)):=by kernel_rfl
def okG (p:PA):Prop:=p.k=p.g.length/\p.k'=p.g.length/\p.c=p.g.length/\p.g.length<=1000/\∀ j:Int,isW (g1 p.g j).1=true/\isW (g1 p.g j).2=true
def HW (g:List (Nat × Nat)) (m i b:Int):Prop:=(b = -1/\∀ j,0<=j->j<i->¬ bz g j<m)\/(0<=b/\b<i/\bz g b<m/\∀ j,0<=j->j<i->bz g j<m->ls g j b=false/\(j<b->ls g b j=true))
def okA (p:PA) (a:AA):Prop:=okG p/\0<=a.i/\a.i<=p.c/\HW p.g p.m a.i a.b
def goA (p:PA) (a:AA):Bool:=decide (a.i<p.c)
def muA (p:PA) (a:AA):Nat:=(p.c - a.i).toNat
theorem J9 {g:List (Nat × Nat)} {k:Nat} {i:Int} (h:k=g.length) (h0:0<=i) (h1:i<k):idA g k i=true/\ldA g i=true:=by
 unfold idA ldA;rw [sh h0,sh h1,sh (show 0+i.toNat<g.length by omega)];exact ⟨rfl,rfl⟩
theorem nk {g:List (Nat × Nat)} {i j:Int}:ls g i j=true↔bz g i<bz g j\/(bz g i=bz g j/\wt g i<wt g j):=by
 unfold ls lessB;by_cases h:bz g i=bz g j
 ·simp [h]
 ·simp [h]
theorem rY {g:List (Nat × Nat)} {i j:Int}:ls g i j=false↔¬ (bz g i<bz g j\/(bz g i=bz g j/\wt g i<wt g j)):=by
 rw [<- nk];simp
theorem Su (p:PA) (a:AA) (h:okA p a) (hg:goA p a=true):∃ b,dE okA rdA FA muA p a b:=by
 obtain ⟨⟨h1,h2,h3,h4,h5⟩,h6,h7,h8⟩:=id h;have hi:a.i<p.c:=IS hg;have hw:IntKind.wrap .i64 (a.i+1)=a.i+1:=wrap64_in (by omega) (by omega);obtain ⟨x1,x2⟩:=J9 (g:=p.g) (k:=p.k') (i:=a.i) h2 h6 (by omega);have g1':(bif gdA p a then idA p.g p.k a.b else true)=true/\(bif gdA p a then ldA p.g a.b else true)=true/\(bif gdA p a then Wd (g1 p.g a.i).1 (g1 p.g a.i).2 (g1 p.g a.b).1 (g1 p.g a.b).2 else true)=true:=by
  cases q:gdA p a
  ·exact ⟨rfl,rfl,rfl⟩
  ·have hb:0<=a.b/\a.b<a.i:=by
    rcases h8 with h8 | h8
    ·unfold gdA at q;rw [h8.1] at q;simp at q
    ·exact ⟨h8.1,h8.2.1⟩
   obtain ⟨y1,y2⟩:=J9 (g:=p.g) (k:=p.k) (i:=a.b) h1 hb.1 (by omega);exact ⟨y1,y2,by unfold Wd;rw [(h5 a.i).1,(h5 a.i).2,(h5 a.b).1,(h5 a.b).2];rfl⟩
 refine ⟨_,T.aeq (wayA p a (tkA p a)) ⟨hg,x1,x2,(h5 _).1,g1'.1,g1'.2.1,g1'.2.2,rfl,trivial⟩,⟨⟨h1,h2,h3,h4,h5⟩,?_,?_,?_⟩,?_⟩
 ·show 0<=IntKind.wrap .i64 (a.i+1);rw [hw];omega
 ·show IntKind.wrap .i64 (a.i+1)<=p.c;rw [hw];omega
 ·show HW p.g p.m (IntKind.wrap .i64 (a.i+1)) (bif tkA p a then a.i else a.b);rw [hw];cases q:tkA p a
  ·show HW p.g p.m (a.i+1) a.b;rcases h8 with h8 | h8
   ·refine .inl ⟨h8.1,fun j j0 j1 => ?_⟩;by_cases e:j=a.i
    ·subst e;intro hm;unfold tkA at q;rw [sh hm,h8.1] at q;cases q
    ·exact h8.2 j j0 (by omega)
   ·refine .inr ⟨h8.1,by omega,h8.2.2.1,fun j j0 j1 hm => ?_⟩;by_cases e:j=a.i
    ·subst e;unfold tkA at q;rw [sh hm,show (a.b == -1)=false by rw [afb];omega] at q;exact ⟨q,fun hj=>by omega⟩
    ·exact h8.2.2.2 j j0 (by omega) hm
  ·show HW p.g p.m (a.i+1) a.i;unfold tkA at q;by_cases hm:bz p.g a.i<p.m
   ·rw [sh hm] at q;refine .inr ⟨h6,by omega,hm,fun j j0 j1 hj => ?_⟩;by_cases e:j=a.i
    ·subst e;exact ⟨rY.2 (by omega),fun h=>by omega⟩
    ·rcases h8 with h8 | h8
     ·exact absurd hj (h8.2 j j0 (by omega))
     ·rw [show (a.b == -1)=false by rw [afb];omega] at q;have q':ls p.g a.i a.b=true:=q;rw [nk] at q';have h9:=(h8.2.2.2 j j0 (by omega) hj).1;rw [rY] at h9;exact ⟨rY.2 (by omega),fun _=>nk.2 (by omega)⟩
   ·rw [By hm] at q;cases q
 ·show (p.c - IntKind.wrap .i64 (a.i+1)).toNat<(p.c - a.i).toNat;rw [hw];omega
theorem exA (p:PA) (a:AA) (h:okA p a) (hg:goA p a=false):(rdA p a).eval=some (.exit 0,FA p a):=T.aeq (Pn p a) ⟨hg,trivial⟩
def FK:List V->List Blk->Option (PA × AA)
 | [.sub 0 1 0 k,.s (.int .i64 m),.s (.int .i64 b),.sub 0 1 0 k',.s (.int .i64 c),.s (.int .i64 i)],[.lst false t [.cx .f64] g]=>if t=237 then some (⟨g,k,k',m,c⟩,⟨b,i⟩) else none
 | _,_=>none
theorem wR (l:List V) (b:List Blk) (d:PA × AA) (h:FK l b=some d):l=vsA d.1 d.2/\b=bsA d.1:=by
 unfold FK at h;split at h
 ·split at h
  ·rename_i ht;subst ht;cases h;exact ⟨rfl,rfl⟩
  ·cases h
 ·cases h
def aek:bC:=vW [0,1,5,8,9,10] S1 1000 1000 34 FK okA goA rdA FA muA (.exit 0)
theorem Cq:aI C1 lpA aek:=di (vs:=vsA) (bs:=fun p _=>bsA p) JC mixed (az _) wR (by simp) (fun _ _=>rfl) (fun _ _=>rfl) Su exA
def wy:List (Nat × bC):=[(3,aek)]
theorem ZR:ar lpA=some 3:=by kernel_rfl
theorem ct {c:Code} {n:Nat} {sp:bC} {C:Cfg} {f:Nat} (e:bI (codeOf Tryz.prog f)=[c]) (hr:ar c=some n) (h:aI C c sp):∀ a∈bI (codeOf Tryz.prog f),∀ s,bW [(n,sp)] a=some s->aI C a s:=by
 rw [e];intro a ha;rcases afd.1 ha with q | ha
 ·rw [q];exact dP hr (by simp [findL]) h
 ·cases ha
def Fu:Eng.Spec:=aK C1 (bW wy) 99
theorem CU:an Tryz.prog 99 Fu:=eV JC mixed Tryz.func99 (by kernel_rfl) (by kernel_rfl) (ct (c:=lpA) (by kernel_rfl) ZR Cq)
def pA (l:List (Nat × Nat)) (m:Int):PA:=⟨l,l.length,l.length,m,l.length⟩
def eA (l:List (Nat × Nat)) (m:Int):AA:=bQ (gP okA goA rdA FA muA (pA l m)) ⟨-1,0⟩
theorem Fc (l:List (Nat × Nat)) (m:Int):T.anon (Fu [.orow 237 CX l,Lod.iv m])=.ite none (bR okA (pA l m) ⟨-1,0⟩) (.ret (Lod.iv (eA l m).b)) .fail:=by kernel_rfl
def okL (l:List (Nat × Nat)):Prop:=l.length<=1000/\∀ j:Int,isW (g1 l j).1=true/\isW (g1 l j).2=true
theorem Tj {l:List (Nat × Nat)} (h:okL l) (m:Int):okG (pA l m):=⟨rfl,rfl,rfl,h.1,h.2⟩
theorem lv {l:List (Nat × Nat)} (h:okL l) (m:Int):bR okA (pA l m) ⟨-1,0⟩=true/\HW l m l.length (eA l m).b:=by
 have h0:okA (pA l m) ⟨-1,0⟩:=⟨Tj h m,afa 0,by show (0:Int)<=(l.length:Int);omega,.inl ⟨rfl,fun j j0 j1=>by dsimp only at j1;omega⟩⟩
 refine ⟨aC h0,?_⟩;obtain ⟨⟨-,e1,e2,e3⟩,e4⟩:=zu Su h0;have e5:¬ (eA l m).i<(l.length:Int):=afg e4;have e6:(eA l m).i<=(l.length:Int):=e2;have e7:HW l m (eA l m).i (eA l m).b:=e3;rw [show (eA l m).i=(l.length:Int) by omega] at e7;exact e7
end Go.Proofs.YtgpgppncblldiaaGreatDoor.Pic
namespace Go.Proofs.YtgpgppncblldiaaGreatDoor.Sam
open Go.Eng Go.RowKit
theorem mixed:Tryz.prog.follows .mixedOrders=true:=Checked.mixed Tryz.checked
def iv (n:Int):V:=.s (.int .i64 n)
def P0:Cfg:=⟨Tryz.prog,lookG [],[],0⟩
theorem o7:P0.Ok:=Cfg.ok trivial trivial
def Hx:Eng.Spec:=aK P0 ab 148
theorem Iz:an Tryz.prog 148 Hx:=af o7 mixed Tryz.func148 (by kernel_rfl) (by kernel_rfl)
def cU (n:Int):Int:=if n<=3 then (if 0>n then 0 else n) else if 208<n then 16 else 16 - 208 / (n+13)
def nB:Eng.Spec
 | [.s (.int .i64 n)]=>.ret (iv (cU n))
 | _=>.fail
theorem bu {i:Option Nat} {c:Bool} {x y:T V} {v:V} (h1:c=true->x.eval=some v) (h2:c=false->y.eval=some v):(T.ite i c x y).eval=some v:=by
 cases c
 ·exact h2 rfl
 ·exact h1 rfl
theorem F8 (n:Int):T.anon (Hx [iv n])=T.ite none (decide (n<=3)) (T.ret (iv (if 0>n then 0 else n))) (T.ite none (decide (208<n)) (T.ret (iv 16)) (T.ite none (IntKind.wrap .i64 (n+13)==0) T.fail (T.ret (iv (IntKind.wrap .i64 (16 - IntKind.wrap .i64 (Int.tdiv 208 (IntKind.wrap .i64 (n+13))))))))):=by kernel_rfl
theorem jg:an Tryz.prog 148 nB:=by
 refine Iz.aex fun args v hfl h => ?_;clear hfl;unfold nB at h;split at h
 ·rename_i n;obtain rfl:=AI h;refine ⟨iv (cU n),?_,⟨rfl,rfl⟩,rfl⟩;rw [<- T.aer,show Hx [V.s (.int .i64 n)]=Hx [iv n] from rfl,F8];unfold cU;refine bu (fun h => ?_) fun h=>bu (fun h5 => ?_) fun h5 => ?_<;>simp only [AT,afi] at *
  ·rw [if_pos h];rfl
  ·rw [if_neg h,if_pos h5];rfl
  ·rw [if_neg h,if_neg h5];have e1:IntKind.wrap .i64 (n+13)=n+13:=wrap64_in (by omega) (by omega);rw [e1];have e2:Int.tdiv 208 (n+13)=208 / (n+13):=Int.tdiv_eq_ediv_of_nonneg (by decide);have h6:0<=208 / (n+13):=Int.ediv_nonneg (by decide) (by omega);have h7:208 / (n+13)<=208:=Int.ediv_le_self _ (by decide);rw [e2,wrap64_in (n:=208 / (n+13)) (by omega) (by omega),wrap64_in (n:=16 - 208 / (n+13)) (by omega) (by omega)];refine bu (fun h => ?_) fun h => ?_
   ·simp only [beq_iff_eq] at h;omega
   ·rfl
 ·cases h
theorem Cv:∀ n:Nat,n<210->cU n<=16/\cU n<=n/\(n<3\/3<=cU n)/\cU n<=cU (n+1)/\(0<n->0<cU n)/\0<=cU n:=by decide +kernel
theorem tu {n:Int} (h:208<n):cU n=16:=by unfold cU;rw [if_neg (by omega),if_pos h]
theorem zW {n:Int} (h:0<=n):cU n<=16/\cU n<=n/\(n<3\/3<=cU n)/\cU n<=cU (n+1)/\(0<n->0<cU n)/\0<=cU n:=by
 by_cases q:n<=208
 ·obtain ⟨m,rfl⟩:=Int.eq_ofNat_of_zero_le h;obtain ⟨h1,h2,h3,h4,h5,h6⟩:=Cv m (by omega);exact ⟨h1,h2,by omega,h4,fun h=>h5 (by omega),h6⟩
 ·rw [tu (by omega),tu (n:=n+1) (by omega)];omega
def P6:Cfg:=⟨Tryz.prog,lookG [(148,.val nB)],[],0⟩
theorem abI:P6.Ok:=Cfg.ok ⟨jg,trivial⟩ trivial
def yS:Eng.Spec:=aK P6 ab 115
theorem DM:an Tryz.prog 115 yS:=af abI mixed Tryz.func115 (by kernel_rfl) (by kernel_rfl)
def ori (l:List Int):V:=.orow 3 [.int .i64] l
def lenF (n most:Int):Int:=if 0<most then (if most<cU n then most else cU n) else cU n
def mx0 (r:Int):Int:=if 0>r then 0 else r
def kR (n most r:Int):Int:=(mx0 r % n*lenF n most) % n
def BZ:Eng.Spec
 | [.s (.int .i64 n),.s (.int .i64 m),.s (.int .i64 r)]=>.ite none (decide (0<=n)&&decide (n<=1000)&&decide (r<=9223372036854775807)) (.ite none (n==0) (.ret (.iface 255 (.agg []))) (.ret (.iface 204 (.agg [iv (kR n m r),iv (lenF n m)])))) .fail
 | _=>.fail
theorem ER (n m r:Int):T.anon (yS [iv n,iv m,iv r])=T.ite none (n==0) (.ret (.iface 255 (.agg []))) (T.ite none (decide (0<m))
  (T.ite none (n==0) .fail (T.ite none (n==0) .fail (.ret (.iface 204 (.agg [iv (Int.tmod (IntKind.wrap .i64 (Int.tmod (mx0 r) n*(if m<cU n then m else cU n))) n),iv (if m<cU n then m else cU n)])))))
  (T.ite none (n==0) .fail (T.ite none (n==0) .fail (.ret (.iface 204 (.agg [iv (Int.tmod (IntKind.wrap .i64 (Int.tmod (mx0 r) n*cU n)) n),iv (cU n)])))))):=by kernel_rfl
theorem lO {n:Int} (hn:0<n) (m:Int):0<lenF n m/\lenF n m<=16/\lenF n m<=n:=by
 obtain ⟨h1,h2,-,-,h5,-⟩:=zW (n:=n) (by omega);have:=h5 hn;unfold lenF;split
 ·split<;>omega
 ·omega
theorem start_eq {n L x:Int} (hn:0<n) (h2:n<=1000) (h3:0<L) (h4:L<=16) (hx:0<=x):Int.tmod (IntKind.wrap .i64 (Int.tmod x n*L)) n=(x % n*L) % n:=by
 rw [Int.tmod_eq_emod_of_nonneg hx];have a1:=Int.emod_nonneg x (b:=n) (by omega);have a2:=Int.emod_lt_of_pos x hn;have a3:0<=x % n*L:=Int.mul_nonneg a1 (by omega);have a4:x % n*L<=1000*16:=Int.mul_le_mul (by omega) h4 (by omega) (by omega);rw [wrap64_in (by omega) (by omega),Int.tmod_eq_emod_of_nonneg a3]
theorem B8:an Tryz.prog 115 BZ:=by
 refine DM.aex fun args v hfl h => ?_;clear hfl;unfold BZ at h;split at h
 ·rename_i n m r;cases hk:(decide (0<=n)&&decide (n<=1000)&&decide (r<=9223372036854775807))
  ·rw [hk] at h;cases h
  ·rw [hk] at h;simp only [AS,AT] at hk;have h:(T.ite none (n==0) (.ret (.iface 255 (.agg []))) (.ret (.iface 204 (.agg [iv (kR n m r),iv (lenF n m)]))):T V).eval=some v:=h;refine ⟨v,?_,?_,rfl⟩
   ·rw [<- T.aer,show yS [V.s (.int .i64 n),V.s (.int .i64 m),V.s (.int .i64 r)]=yS [iv n,iv m,iv r] from rfl,ER];by_cases q:n=0
    ·subst q;exact h
    ·have q2:(n==0)=false:=by simpa using q
     rw [q2] at h;obtain rfl:=AI h;have hx:0<=mx0 r:=by unfold mx0;split<;>omega
     obtain ⟨l1,l2,l3⟩:=lO (n:=n) (by omega) m;refine tev_else q2 ?_;have hs:kR n m r=(mx0 r % n*lenF n m) % n:=rfl;by_cases hm:0<m
     ·have e:lenF n m=if m<cU n then m else cU n:=by unfold lenF;rw [if_pos hm]
      rw [<- e];refine aA (sh hm) (tev_else q2 (tev_else q2 ?_));rw [start_eq (by omega) hk.1.2 l1 l2 hx];rfl
     ·have e:lenF n m=cU n:=by unfold lenF;rw [if_neg hm]
      rw [<- e];refine tev_else (By hm) (tev_else q2 (tev_else q2 ?_));rw [start_eq (by omega) hk.1.2 l1 l2 hx];rfl
   ·cases q:n==0<;>rw [q] at h<;>(obtain rfl:=AI h;exact ⟨rfl,rfl⟩)
 ·cases h
def P7:Cfg:=⟨Tryz.prog,lookG [(115,.val BZ)],[],0⟩
theorem TG:P7.Ok:=Cfg.ok ⟨B8,trivial⟩ trivial
def wh1:Code:=bY Tryz.prog 91 0
def rI (own:Bool) (l:List Int):Blk:=.lst own 3 [.int .i64] l
abbrev SH:List (Nat × Src):=[(0,.same),(9,.same),(1000,.tmp 9)]
structure PH where (g:List Int) (k:Nat) (st ln:Int) (j:Nat) (n:Int)
structure AH where (l:List Int) (i:Int)
def vsH (p:PH) (a:AH):List V:=[.sub 0 1 0 p.k,.ptr 9 0,.sub 1000 1 0 p.j,iv p.n,iv a.i]
def bsH (p:PH) (a:AH):List Blk:=[rI false p.g,.cells 204 [iv p.st,iv p.ln],rI true a.l]
def FH (p:PH) (a:AH):St:=bK [0,7,9,26,27] [0,9,1000] 1001 45 (vsH p a) (bsH p a)
def rtH (g:List Int) (k:Nat) (st ln:Int) (j:Nat) (n:Int) (l:List Int) (i:Int):T (Ex × St) :=
 T.ite none (decide (i<n)) (T.ite none ((k:Int)==0) T.fail (T.ite none (decide (0<=Int.tmod (IntKind.wrap .i64 (st+i)) (k:Int))&&(decide (Int.tmod (IntKind.wrap .i64 (st+i)) (k:Int)<(k:Int))&&decide (0+Int.toNat (Int.tmod (IntKind.wrap .i64 (st+i)) (k:Int))<g.length)))
  (T.ite none (decide (0+Int.toNat (Int.tmod (IntKind.wrap .i64 (st+i)) (k:Int))<g.length)) (T.ite none (decide (0<=i)&&(decide (i<(j:Int))&&decide (0+Int.toNat i<l.length))) (T.ite none (decide (0+Int.toNat i<l.length))
   (T.ret (.normal,FH ⟨g,k,st,ln,j,n⟩ ⟨l.set (0+i.toNat) (gI g (Int.tmod (IntKind.wrap .i64 (st+i)) (k:Int))),IntKind.wrap .i64 (i+1)⟩)) T.fail) T.fail) T.fail) T.fail)) (T.ret (.exit 0,FH ⟨g,k,st,ln,j,n⟩ ⟨l,i⟩))
def Bp:List V->List Blk->Option (PH × AH)
 | [.sub 0 1 0 k,.ptr 9 0,.sub 1000 1 0 j,.s (.int .i64 n),.s (.int .i64 i)],[.lst false t1 [.int .i64] g,.cells t2 [.s (.int .i64 st),.s (.int .i64 ln)],.lst true t3 [.int .i64] l] =>
  if t1=3/\t2=204/\t3=3 then some (⟨g,k,st,ln,j,n⟩,⟨l,i⟩) else none
 | _,_=>none
theorem QA (l:List V) (b:List Blk) (d:PH × AH) (h:Bp l b=some d):l=vsH d.1 d.2/\b=bsH d.1 d.2:=by
 unfold Bp at h;split at h
 ·split at h
  ·rename_i ht;obtain ⟨rfl,rfl,rfl⟩:=ht;cases h;exact ⟨rfl,rfl⟩
  ·cases h
 ·cases h
def zT (p:PH) (a:AH):Bool:=decide (p.k=p.g.length)&&decide (0<p.k)&&decide (p.k<=1000)&&decide (p.j=a.l.length)&&decide (p.n=(p.j:Int))&&decide (p.j<=1000)&&decide (0<=a.i)&&decide (a.i<=p.n)&&decide (0<=p.st)&&decide (p.st<p.k)
def elH (p:PH) (i:Int):Int:=gI p.g ((p.st+i) % p.k)
def Bo (p:PH) (a:AH):Option AH:=if a.i<p.n then some ⟨a.l.set (0+a.i.toNat) (elH p a.i),a.i+1⟩ else none
def Yu (p:PH) (a:AH):T (Ex × St):=.ret (.exit 0,FH p a)
theorem stH (p:PH) (a b:AH) (h:zT p a=true) (e:Bo p a=some b):zT p b=true/\(p.n - b.i).toNat<(p.n - a.i).toNat:=by
 obtain ⟨l,i⟩:=a;unfold Bo at e;split at e
 ·rename_i hc;obtain rfl:=AI e;simp only [zT,AS,AT,afc] at h hc ⊢;omega
 ·cases e
theorem TB:aI P7 wh1 (gU [0,7,9,26,27] SH 1000 1001 45 Bp zT Bo Yu):=by
 refine cR (vs:=vsH) (bs:=bsH) TG mixed (az _) QA (fun p a=>(p.n - a.i).toNat) stH fun ⟨g,k,st,ln,j,n⟩ ⟨l,i⟩ h => ?_;have e:T.anon (aZ P7 ab wh1 [0,7,9,26,27] SH 1000 1001 (bK [0,7,9,26,27] (aF SH) 1001 45 (vsH ⟨g,k,st,ln,j,n⟩ ⟨l,i⟩) (bsH ⟨g,k,st,ln,j,n⟩ ⟨l,i⟩)))=rtH g k st ln j n l i:=by kernel_rfl
 rw [<- T.aer (t:=aZ _ _ _ _ _ _ _ _),e];clear e;simp only [zT,AS,AT] at h;obtain ⟨⟨⟨⟨⟨⟨⟨⟨⟨rfl,h1⟩,h2⟩,rfl⟩,rfl⟩,h3⟩,h4⟩,h5⟩,h6⟩,h7⟩:=h;simp only [Bo,Yu,elH];unfold rtH;by_cases hc:i<l.length
 ·rw [if_pos hc];refine ⟨fun b hb => ?_,fun h=>by cases h⟩;obtain rfl:=AI hb;have e1:Int.tmod (IntKind.wrap .i64 (st+i)) (g.length:Int)=(st+i) % (g.length:Int):=by
   rw [wrap64_in (n:=st+i) (by omega) (by omega),Int.tmod_eq_emod_of_nonneg (by omega)]
  rw [e1,wrap64_in (n:=i+1) (by omega) (by omega)];have q1:=Int.emod_nonneg (st+i) (b:=(g.length:Int)) (by omega);have q2:=Int.emod_lt_of_pos (st+i) (b:=(g.length:Int)) (by omega);exact aA (sh hc) (tev_else (by rw [afb];omega) (aA (by simp only [AS,AT];omega) (aA (by simp only [AT];omega) (aA (by (first | with_reducible rfl | assumption | (simp only [eH,eR,AS,afp,Bool.and_eq_false_iff,Bool.or_eq_false_iff,AT,afi,beq_iff_eq,bne_iff_ne,afb,bne_eq_false_iff_eq,Bool.not_eq_true',Bool.not_eq_false',ne_eq,Bool.true_and,Bool.and_true,Bool.false_and,Bool.and_false,Bool.true_or,Bool.or_true,Bool.not_true,Bool.not_false,Bool.cond_true,Bool.cond_false,true_and,and_true];first | done | omega))) (aA (by (first | with_reducible rfl | assumption | (simp only [eH,eR,AS,afp,Bool.and_eq_false_iff,Bool.or_eq_false_iff,AT,afi,beq_iff_eq,bne_iff_ne,afb,bne_eq_false_iff_eq,Bool.not_eq_true',Bool.not_eq_false',ne_eq,Bool.true_and,Bool.and_true,Bool.false_and,Bool.and_false,Bool.true_or,Bool.or_true,Bool.not_true,Bool.not_false,Bool.cond_true,Bool.cond_false,true_and,and_true];first | done | omega))) rfl)))))
 ·rw [if_neg hc];refine ⟨fun b hb=>(by cases hb),fun _ r hr => ?_⟩;obtain rfl:=AI hr;exact ⟨by simp,tev_else (By hc) rfl⟩
def F4:List (Nat × bC):=[(6,gU [0,7,9,26,27] SH 1000 1001 45 Bp zT Bo Yu)]
theorem aab:findL F4 6=some (gU [0,7,9,26,27] SH 1000 1001 45 Bp zT Bo Yu):=rfl
theorem hreg:ar wh1=some 6:=by kernel_rfl
theorem OE:∀ a∈bI (codeOf Tryz.prog 91),∀ sp,bW F4 a=some sp->aI P7 a sp:=by
 have e:bI (codeOf Tryz.prog 91)=[wh1]:=by kernel_rfl
 rw [e];intro a ha;rcases afd.1 ha with h | ha
 ·rw [h];exact dP hreg aab TB
 ·cases ha
def whL (g:List Int) (st:Int) (n:Nat):List Int:=(List.range n).map fun (q:Nat)=>gI g ((st+q) % g.length)
theorem lK (g:List Int) (st:Int) (n:Nat):(whL g st n).length=n:=by simp [whL]
theorem PR (g:List Int) (st:Int) (n q:Nat) (h:q<n):(whL g st n)[q]?=some (gI g ((st+q) % g.length)):=by simp [whL,h]
theorem endH {p:PH} {l:List Int} (h:zT p ⟨l,0⟩=true):bQ (Bo p) ⟨l,0⟩=⟨whL p.g p.st p.j,p.n⟩:=by
 obtain ⟨h1,h2,h3⟩:=bP (stH p) h;have h4:=h3 (fun a=>∀ q:Nat,(q:Int)<a.i->a.l[q]?=some (elH p q)) (fun q hq=>by dsimp only at hq;omega) fun a b hi hq e=>by
  obtain ⟨m,i⟩:=a;simp only [zT,AS,AT] at hi;unfold Bo at e;split at e
  ·rename_i hc;obtain rfl:=AI e;dsimp only at hc hq ⊢;intro q hq';by_cases hqi:(q:Int)=i
   ·subst hqi;rw [Nat.zero_add,Int.toNat_natCast,List.getElem?_set_self (by omega)]
   ·rw [List.getElem?_set_ne (by omega)];exact hq q (by omega)
  ·cases e
 generalize bQ (Bo p) ⟨l,0⟩=E at *
 obtain ⟨m,i⟩:=E;simp only [zT,AS,AT] at h1;unfold Bo at h2;split at h2
 ·cases h2
 ·rename_i hc;dsimp only at hc h4;have hi:i=p.n:=by omega
  subst hi;congr 1;apply List.ext_getElem?;intro q;by_cases hq:q<p.j
  ·rw [h4 q (by omega),PR _ _ _ _ hq];unfold elH;rw [show (p.k:Int)=p.g.length by omega]
  ·rw [List.getElem?_eq_none (by omega),List.getElem?_eq_none (by rw [lK];omega)]
def ru {α:Type} (args:List V) (f:List Int->Int->Int->T α):T α :=
 match args with
 | [.orow t [.int .i64] l,.s (.int .i64 m),.s (.int .i64 r)]=>if t=3 then f l m r else .fail
 | _=>.fail
theorem lW {α:Type} {args:List V} {f:List Int->Int->Int->T α} {r:α} (e:(ru args f).eval=some r):∃ l m z,args=[ori l,iv m,iv z]/\(f l m z).eval=some r:=by
 unfold ru at e;split at e
 ·split at e
  ·rename_i ht;subst ht;exact ⟨_,_,_,rfl,e⟩
  ·cases e
 ·cases e
def Lx:Eng.Spec:=fun args=>ru args fun l m r=>.ite none (decide (l.length<=1000)&&decide (r<=9223372036854775807)) (.ret (ori (whL l (kR l.length m r) (lenF l.length m).toNat))) .fail
def pH (l:List Int) (m r:Int):PH:=⟨l,l.length,kR l.length m r,lenF l.length m,(lenF l.length m).toNat,((lenF l.length m).toNat:Nat)⟩
theorem Ey (l:List Int) (m r:Int):T.anon (aK P7 (bW F4) 91 [ori l,iv m,iv r])=T.ite none (decide (0<=(l.length:Int))&&decide ((l.length:Int)<=1000)&&decide (r<=9223372036854775807)) (T.ite none ((l.length:Int)==0) (T.ite none (decide ((0:Nat)=([]:List Int).length)) (.ret (ori [])) .fail)
  (T.ite none (decide (0<=lenF l.length m)&&(decide (lenF l.length m<=lenF l.length m)&&decide (lenF l.length m<=1000000))) (T.ite none (zT (pH l m r) ⟨List.replicate (lenF l.length m).toNat 0,0⟩)
   (T.ite none (decide ((lenF l.length m).toNat=(bQ (Bo (pH l m r)) ⟨List.replicate (lenF l.length m).toNat 0,0⟩).l.length)) (.ret (ori (bQ (Bo (pH l m r)) ⟨List.replicate (lenF l.length m).toNat 0,0⟩).l)) .fail) .fail) .fail)) .fail:=by kernel_rfl
theorem aJ {c:Bool} {x:T V} {v:V} (h:(T.ite none c x .fail).eval=some v):c=true/\x.eval=some v:=by
 cases c
 ·cases h
 ·exact ⟨rfl,h⟩
theorem Co:an Tryz.prog 91 Lx:=by
 refine (eV (Λ:=bW F4) TG mixed Tryz.func91 (by kernel_rfl) (by kernel_rfl) OE).aeu fun args v h => ?_;obtain ⟨l,m,r,rfl,h1⟩:=lW (show (ru args _).eval=some v from h);clear h;obtain ⟨hk,h⟩:=aJ h1;obtain rfl:=AI h;simp only [AS,AT] at hk;rw [<- T.aer,Ey];refine aA (by simp only [AS,AT];omega) ?_;by_cases q:l.length=0
 ·have hl:l=[]:=List.length_eq_zero_iff.1 q;subst hl;have e:(lenF (([]:List Int).length:Int) m).toNat=0:=by
   unfold lenF;have:cU (([]:List Int).length:Int)=0:=rfl;rw [this];split
   ·split<;>omega
   ·rfl
  rw [e];exact aA rfl (aA rfl rfl)
 ·obtain ⟨b1,b2,b3⟩:=lO (n:=(l.length:Int)) (by omega) m;have c1:0<=kR l.length m r:=Int.emod_nonneg _ (by omega);have c2:kR l.length m r<l.length:=Int.emod_lt_of_pos _ (by omega);have hi:zT (pH l m r) ⟨List.replicate (lenF l.length m).toNat 0,0⟩=true:=by
   unfold pH;simp only [zT,AS,AT,List.length_replicate];exact ⟨⟨⟨⟨⟨⟨⟨⟨⟨trivial,by omega⟩,by omega⟩,trivial⟩,trivial⟩,by omega⟩,by omega⟩,by omega⟩,c1⟩,c2⟩
  refine tev_else (by rw [afb];omega) (aA (by simp only [AS,AT];omega) (aA hi ?_));rw [endH hi];refine aA ?_ rfl;simp only [AT];rw [lK];rfl
end Go.Proofs.YtgpgppncblldiaaGreatDoor.Sam
end
