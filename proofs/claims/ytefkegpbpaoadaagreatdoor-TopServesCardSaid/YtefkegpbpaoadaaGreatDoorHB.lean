import Derived.Test.YtefkegpbpaoadaaGreatDoorChecked
import Derived.Test.YtefkegpbpaoadaaGreatDoorGJ
import Derived.Test.YtefkegpbpaoadaaGreatDoorHD
set_option linter.unusedVariables false
set_option linter.unusedSimpArgs false
set_option maxRecDepth 100000
noncomputable section
namespace Go.Eng
open Go.RowKit
def ro0 (sp:Obj):Obj:=fun args h=>match h with
 | (0,.cells t l)::r=>(sp args ((0,.ro t l)::r)).bind fun x=>if hZ ((0,.ro t l)::r) x.1 x.2=true/\look x.2 0=none then .ret (x.1,(0,.cells t l)::x.2) else .fail
 | _=>.fail
theorem o9 (b:Blk) (r:Heap):look ((0,b)::r) 0=some b:=rfl
theorem x6 (b b':Blk) (r:Heap) {i:Nat} (h:i≠0):look ((0,b)::r) i=look ((0,b')::r) i:=by
 unfold look;rw [if_neg (by simpa using fun e=>h e.symm),if_neg (by simpa using fun e=>h e.symm)]
theorem pt (b:Blk) (r:Heap) {i:Nat} (h:i≠0):look ((0,b)::r) i=look r i:=by
 show (if (0==i)=true then some b else look r i)=look r i;rw [if_neg (by simpa using fun e=>h e.symm)]
theorem an.ro0 {P:Program} {f:Nat} {sp:Obj} (h:an P f sp):an P f (ro0 sp):=by
 refine ⟨h.body,fun args hp v h'' ν w hG hF ha hb hr hv hout => ?_⟩;unfold Eng.ro0 at hv;split at hv
 ·rename_i t l r;obtain ⟨⟨v0,h'⟩,h1,h2⟩:=T.aiV hv;simp only at h2;split at h2
  ·rename_i hc;obtain ⟨ho,hn⟩:=hc;simp only [T.eval,sh,No] at h2;obtain ⟨rfl,rfl⟩:=h2;obtain ⟨d1,d2,d3⟩:=hr.den 0 _ (o9 (.cells t l) r);have hin:inH ((0,.ro t l)::r)=inH ((0,.cells t l)::r):=by
    funext i;unfold inH;by_cases e:i=0
    ·subst e;rfl
    ·rw [x6 (.ro t l) (.cells t l) r e]
   have fpo:∀ k,eH ν ((0,.ro t l)::r) k->∃ j b,j≠0/\look ((0,.cells t l)::r) j=some b/\b.owned=true/\(ν j).fp k:=by
    rintro k ⟨j,b,hj,hb,hk⟩;by_cases e:j=0
    ·subst e;rw [o9] at hj;cases hj;cases hb
    ·exact ⟨j,b,e,by rw [x6 (.cells t l) (.ro t l) r e];exact hj,hb,hk⟩
   have fpm:∀ k,eH ν ((0,.ro t l)::r) k->eH ν ((0,.cells t l)::r) k:=fun k hk=>by
    obtain ⟨j,b,_,x,y,z⟩:=fpo k hk;exact ⟨j,b,x,y,z⟩
   have nfp:∀ k,(ν 0).fp k->¬ eH ν ((0,.ro t l)::r) k:=fun k hk q=>by
    obtain ⟨j,b,e,x,y,z⟩:=fpo k q;exact hr.dis j 0 b _ e x (o9 _ _) y k z hk
   have hrel:Rel ν (look ((0,.ro t l)::r)) w:=by
    refine ⟨fun i b e => ?_,fun i j bi bj ne ei ej hoi => ?_⟩
    ·by_cases q:i=0
     ·subst q;rw [o9] at e;cases e;exact ⟨d1,d2,d3⟩
     ·exact hr.den i b (by rw [x6 (.cells t l) (.ro t l) r q];exact e)
    ·have qi:i≠0:=fun q=>by
      subst q;rw [o9] at ei;cases ei;cases hoi
     by_cases qj:j=0
     ·subst qj;exact hr.dis i 0 bi _ ne (by rw [x6 (.cells t l) (.ro t l) r qi];exact ei) (o9 _ _) hoi
     ·exact hr.dis i j bi bj ne (by rw [x6 (.cells t l) (.ro t l) r qi];exact ei) (by rw [x6 (.cells t l) (.ro t l) r qj];exact ej) hoi
   have hok:∀ i b,look ((0,.ro t l)::r) i=some b->b.ok (inH ((0,.ro t l)::r))=true/\i<((0,Blk.ro t l)::r).length:=by
    intro i b e;rw [hin];by_cases q:i=0
    ·subst q;rw [o9] at e;cases e;have:=hb 0 _ (o9 (.cells t l) r);exact ⟨this.1,this.2⟩
    ·exact hb i b (by rw [x6 (.cells t l) (.ro t l) r q];exact e)
   refine (h.calls args _ v0 h' ν w hG (fun k hk=>hF k (fpm k hk)) (by rw [hin];exact ha) hok hrel h1 ho).mono ?_;rintro e w' ⟨ν',e1,e2,e3,e4,e5⟩;have c0:(ν' 0).core=(ν 0).core:=e2 0 rfl;refine ⟨fun i=>if i=0 then ⟨(ν' 0).core,(ν 0).fp⟩ else ν' i,?_,?_,⟨?_,?_⟩,?_,e5.trans (Prog.refl w' fun _=>False) fpm (fun _ _ q=>q.elim)⟩
   ·rw [e1];congr 1;refine V.aiZ (p:=fun _=>true) (fun i _ => ?_) v0 (V.ai2 (fun _ _=>rfl) v0 (by
     unfold hZ at ho;simp only [AS] at ho;exact ho.1))
    by_cases q:i=0
    ·subst q;rfl
    ·simp only [if_neg q]
   ·intro i hi;by_cases q:i=0
    ·subst q;exact c0
    ·simp only [if_neg q];exact e2 i (by rw [hin];exact hi)
   ·intro i b hi;by_cases q:i=0
    ·subst q;rw [o9] at hi;cases hi;simp only [if_true];have hbk:(ν 0).core.blk<w.heap.size:=(Array.getElem?_eq_some_iff.1 d3).1;refine ⟨by rw [c0];exact d1,fun k=>by rw [c0];exact d2 k,?_⟩;rw [c0,e5.block _ hbk (nfp _ ((d2 _).2 rfl)),d3];have hl:okL (inH ((0,.cells t l)::r)) l=true:=(hb 0 _ (o9 (.cells t l) r)).1;rw [cC (ν:=ν) (ν':=fun i=>if i=0 then ⟨(ν' 0).core,(ν 0).fp⟩ else ν' i) (p:=inH ((0,.cells t l)::r)) (fun i hi=>by
      by_cases q:i=0
      ·subst q;exact c0.symm
      ·simp only [if_neg q];exact (e2 i (by rw [hin];exact hi)).symm) l hl,c0]
    ·rw [pt _ _ q] at hi;simp only [if_neg q];have hd:=e3.den i b hi;refine Blk.aiZ (p:=fun _=>true) (fun j _ => ?_) rfl rfl (Blk.ai2 (fun _ _=>rfl) (by
      have:=ajE.1 (by unfold hZ at ho;simp only [AS] at ho;exact ho.2) (i,b) (ar hi);simp only [AS] at this;exact this.1.2)) hd
     by_cases qj:j=0
     ·subst qj;rfl
     ·simp only [if_neg qj]
   ·intro i j bi bj ne hi hj hoi k;by_cases qi:i=0
    ·subst qi;have qj:j≠0:=fun e=>ne e.symm;rw [pt _ _ qj] at hj;simp only [if_true,if_neg qj];intro hk hk2;rcases e4 j bj hj k hk2 with q | q
     ·exact nfp k hk q
     ·have:=(d2 k).1 hk;have hbk:(ν 0).core.blk<w.heap.size:=(Array.getElem?_eq_some_iff.1 d3).1;omega
    ·rw [pt _ _ qi] at hi;simp only [if_neg qi];by_cases qj:j=0
     ·subst qj;simp only [if_true];intro hk2 hk;rcases e4 i bi hi k hk2 with q | q
      ·exact nfp k hk q
      ·have:=(d2 k).1 hk;have hbk:(ν 0).core.blk<w.heap.size:=(Array.getElem?_eq_some_iff.1 d3).1;omega
     ·rw [pt _ _ qj] at hj;simp only [if_neg qj];exact e3.dis i j bi bj ne hi hj hoi k
   ·intro i b hi k hk;by_cases q:i=0
    ·subst q;simp only [if_true] at hk;exact .inl ⟨0,_,o9 (.cells t l) r,rfl,hk⟩
    ·rw [pt _ _ q] at hi;simp only [if_neg q] at hk;exact (e4 i b hi k hk).imp (fpm k) id
  ·cases h2
 ·cases hv
end Go.Eng
namespace Go.Proofs.YtefkegpbpaoadaaGreatDoor.Sub
open Go.Eng Go.RowKit
def okM (m:Int):Bool:=true
def ofI:Eng.Spec
 | [.orow t [.int .i64] ids,.s (.int .i64 m)]=>if t=3 then .ite none (decide (List.length ids<=1000000)&&okM m) (.ret (.orow 3 [.int .i64] (ofV ids m))) .fail else .fail
 | _=>.fail
theorem Wm:aj Tryz.prog 105 ofI:=Zo.aiY fun args v h=>by
 unfold ofI at h;split at h
 ·rename_i t ids m;split at h
  ·rename_i ht;subst ht;obtain ⟨hb,h2⟩:=gy h;rw [AS] at hb;unfold ofS;simp only [if_true];show (T.ite none (decide (List.length ids<=1000000)) _ _:T V).eval=_;rw [hb.1];exact h2
  ·cases h
 ·cases h
theorem Aq {ids:List Int} {m:Int} (h:m<1):ofV ids m=ids:=by unfold ofV;rw [if_pos (Or.inl h)]
theorem Is {l:List Int} (h:l.Nodup) (m:Int):∃ p:Int->Bool,ofV l m=l.filter p:=by
 by_cases hm:1<=m
 ·exact ⟨_,XZ h hm⟩
 ·exact ⟨fun _=>true,by rw [Aq (by omega)];exact (List.filter_eq_self.2 fun _ _=>rfl).symm⟩
end Go.Proofs.YtefkegpbpaoadaaGreatDoor.Sub
namespace Go.Proofs.YtefkegpbpaoadaaGreatDoor.Que
open Go.Eng Go.RowKit
theorem mixed:Tryz.prog.follows .mixedOrders=true:=Checked.mixed Tryz.checked
def iv (n:Int):V:=.s (.int .i64 n)
abbrev KW:List K:=[.int .i64,.int .i64]
theorem eQ:EOk Tryz.prog [Pg]:=⟨⟨by kernel_rfl,by kernel_rfl⟩,trivial⟩
def J0:Cfg:=⟨Tryz.prog,lookG [],[],0⟩
theorem kv:J0.Ok:=Cfg.ok trivial trivial
def aiN:Eng.Spec:=aM J0 aa 39
theorem UA:aj Tryz.prog 39 aiN:=af kv mixed Tryz.func39 (by kernel_rfl) (by kernel_rfl)
def OX:Eng.Spec:=aM J0 aa 97
theorem Fp:aj Tryz.prog 97 OX:=af kv mixed Tryz.func97 (by kernel_rfl) (by kernel_rfl)
def Nn:Eng.Obj:=aK J0 aa 96
theorem Fi:an Tryz.prog 96 Nn:=ag kv mixed Tryz.func96 (by kernel_rfl) (by kernel_rfl)
def J1:Cfg:=⟨Tryz.prog,lookG [(39,.val aiN),(97,.val OX),(96,.obj Nn)],[Pg],0⟩
theorem yd:J1.Ok:=Cfg.ok ⟨UA,Fp,Fi,trivial⟩ eQ
def YS:Eng.Obj:=aK J1 aa 19
theorem Kz:an Tryz.prog 19 YS:=ag yd mixed Tryz.func19 (by kernel_rfl) (by kernel_rfl)
def aiu:Eng.Obj:=aK J1 aa 53
theorem TB:an Tryz.prog 53 aiu:=ag yd mixed Tryz.func53 (by kernel_rfl) (by kernel_rfl)
def Xn:Eng.Obj:=aK J1 aa 83
theorem IJ:an Tryz.prog 83 Xn:=ag yd mixed Tryz.func83 (by kernel_rfl) (by kernel_rfl)
def CJ:Option Int->V
 | none=>.nilIface
 | some t=>.iface 2 (iv t)
def aiR:Eng.Obj:=fun args h=>(YS args h).bind (oY 16 2 149 KW h)
theorem RN:an Tryz.prog 19 aiR:=Kz.ajB 16 2 149 KW
structure PA where (d:Int) (u:Option Int) (n:Nat) (l:List (Int × Int)) (k:Nat) (c:Int)
structure AA where (W:List Int) (j:Nat) (i:Int)
def rWt (l:List (Int × Int)):Blk:=.lst true 149 KW l
def H6:List V->List Blk->Option (PA × AA)
 | [.ptr 0 0,.sub 1000 1 0 j,.sub 1 2 0 k,.s (.int .i64 c),.s (.int .i64 i)],[.cells t0 [.s (.int .i64 d),.nilIface,.sub 1 2 0 n],.lst true t1 [.int .i64,.int .i64] l,.lst true t2 [.int .i64] W] =>
  if t0=82 then if t1=149 then if t2=3 then some (⟨d,none,n,l,k,c⟩,⟨W,j,i⟩) else none else none else none
 | [.ptr 0 0,.sub 1000 1 0 j,.sub 1 2 0 k,.s (.int .i64 c),.s (.int .i64 i)],[.cells t0 [.s (.int .i64 d),.iface ti (.s (.int .i64 u)),.sub 1 2 0 n],.lst true t1 [.int .i64,.int .i64] l,.lst true t2 [.int .i64] W] =>
  if ti=2 then if t0=82 then if t1=149 then if t2=3 then some (⟨d,some u,n,l,k,c⟩,⟨W,j,i⟩) else none else none else none else none
 | _,_=>none
def g2w (l:List (Int × Int)) (i:Int):Int × Int:=l.getD (0+i.toNat) (0,0)
def idR {α:Type} (g:List α) (k:Nat) (i:Int):Bool:=decide (0<=i)&&(decide (i<(k:Int))&&decide (0+i.toNat<g.length))
def ldR {α:Type} (g:List α) (i:Int):Bool:=decide (0+i.toNat<g.length)
theorem bW {c:Code} {n:Nat} {sp:bE} {C:Cfg} {f:Nat} (e:cg (codeOf Tryz.prog f)=[c]) (hr:aq c=some n) (h:aI C c sp):∀ a∈cg (codeOf Tryz.prog f),∀ s,bZ [(n,sp)] a=some s->aI C a s:=by
 rw [e];intro a ha;rcases ajI.1 ha with q | ha
 ·rw [q];exact fb hr (by simp [findL]) h
 ·cases ha
def qK (K:Nat) (d:Int) (u:Option Int) (n:Nat):Blk:=.cells 82 [iv d,CJ u,.sub K 2 0 n]
def lqL:Code:=bN Tryz.prog 75 0
structure PL where (d:Int) (u:Option Int) (now age:Int)
structure AL where (n:Nat) (l:List (Int × Int)) (W:List Int) (j:Nat)
abbrev SL0:List (Nat × Src):=[(0,.same),(1000,.cell 0 2),(1001,.tmp 7)]
abbrev SL1:List (Nat × Src):=[(0,.same),(1000,.cell 0 2),(1001,.tmp 6)]
def vsL (p:PL) (a:AL):List V:=[.ptr 0 0,iv p.now,iv p.age,.sub 1001 1 0 a.j]
def bsL (p:PL) (a:AL):List Blk:=[qK 1000 p.d p.u a.n,rWt a.l,.lst true 3 [.int .i64] a.W]
def FL (p:PL) (a:AL):St:=bG [0,1,2,7] [0,1000,1001] 1002 41 (vsL p a) (bsL p a)
def XL (p:PL) (a:AL):St:=bG [6] [0,1000,1001] 1002 41 [.sub 1001 1 0 a.j] (bsL p a)
def rdL (p:PL) (a:AL):T (Ex × St):=T.anon (ia J1 aa lqL [0,1,2,7] SL0 [6] SL1 1000 1002 (bG [0,1,2,7] (aF SL0) 1002 41 (vsL p a) (bsL p a)))
def wB (t now age:Int):Bool:=bif decide (t<=now) then decide (IntKind.wrap .u64 (if 0>age then 0 else age)<=IntKind.wrap .u64 (IntKind.wrap .u64 now - IntKind.wrap .u64 t)) else false
def bL (p:PL) (a:AL):AL:=⟨Int.toNat (a.n:Int) - Int.toNat 1,(a.l.drop (Int.toNat 1)).take (Int.toNat (a.n:Int) - Int.toNat 1),List.take a.j a.W++[(g2w a.l 0).1],a.j+[(g2w a.l 0).1].length⟩
theorem wayL (p:PL) (a:AL):T.path [false,true,true,false,true,true] (rdL p a)=some ([((a.n:Int)==0,false),(decide ((0:Int)<=0)&&(decide ((0:Int)<(a.n:Int))&&decide (0+Int.toNat 0<a.l.length)),true),(decide (0+Int.toNat 0<a.l.length),true),(!(wB (g2w a.l 0).2 p.now p.age),false),
 (decide ((0:Int)<=1)&&(decide ((1:Int)<=(a.n:Int))&&(decide ((a.n:Int)<=(a.n:Int))&&decide (a.n<=a.l.length))),true),(true&&(decide (a.j<=a.W.length)&&decide (a.j+[(g2w a.l 0).1].length<=1000000)),true)],(.normal,FL p (bL p a))):=by
 obtain ⟨d,u,now,age⟩:=p;cases u<;>kernel_rfl
theorem TK (p:PL) (a:AL):T.path [true] (rdL p a)=some ([((a.n:Int)==0,true)],(.ret,XL p a)):=by
 obtain ⟨d,u,now,age⟩:=p;cases u<;>kernel_rfl
theorem Pp (p:PL) (a:AL):T.path [false,true,true,true] (rdL p a)=some ([((a.n:Int)==0,false),(decide ((0:Int)<=0)&&(decide ((0:Int)<(a.n:Int))&&decide (0+Int.toNat 0<a.l.length)),true),(decide (0+Int.toNat 0<a.l.length),true),(!(wB (g2w a.l 0).2 p.now p.age),true)],(.ret,XL p a)):=by
 obtain ⟨d,u,now,age⟩:=p;cases u<;>kernel_rfl
def okL (p:PL) (a:AL):Prop:=a.n=a.l.length/\a.j=a.W.length/\a.l.length+a.W.length<=1000
def goL (p:PL) (a:AL):Bool := !((a.n:Int)==0)&&wB (g2w a.l 0).2 p.now p.age
def DP (p:PL) (a:AL):Option AL:=if goL p a=true then some (bL p a) else none
def muL (p:PL) (a:AL):Nat:=a.l.length
def ahC (p:PL) (a:AL):T (Ex × St):=.ret (.ret,XL p a)
theorem GC {a:AL} (h:a.n=a.l.length) (h2:a.j=a.W.length) (p:PL):bL p a=⟨a.l.length - 1,a.l.tail,a.W++[(g2w a.l 0).1],a.W.length+1⟩:=by
 unfold bL;have e1:Int.toNat 1=1:=rfl;have e2:Int.toNat (a.n:Int)=a.n:=Int.toNat_natCast _;rw [e1,e2,h,h2,List.take_length,List.drop_one,ajP (by rw [List.length_tail];exact ajQ _)];rfl
theorem stL (p:PL) (a b:AL) (h:ca okL p a=true) (e:DP p a=some b):ca okL p b=true/\muL p b<muL p a:=by
 obtain ⟨h1,h2,h3⟩:=bJ h;unfold DP at e;split at e
 ·rename_i hg;obtain rfl:=AI e;unfold goL at hg;simp only [AS,Bool.not_eq_true',ajH] at hg;have hl:0<a.l.length:=by omega
  rw [GC h1 h2];refine ⟨aH ⟨?_,?_,?_⟩,?_⟩
  ·show a.l.length - 1=a.l.tail.length;rw [List.length_tail]
  ·show a.W.length+1=(a.W++[(g2w a.l 0).1]).length;simp
  ·show a.l.tail.length+(a.W++[(g2w a.l 0).1]).length<=1000;rw [List.length_tail,IN,List.length_singleton];omega
  ·show a.l.tail.length<a.l.length;rw [List.length_tail];omega
 ·cases e
theorem hrL (p:PL) (a:AL) (h:ca okL p a=true):(∀ b,DP p a=some b->(rdL p a).eval=some (.normal,FL p b))/\(DP p a=none->∀ r,(ahC p a).eval=some r->r.1≠.normal/\(rdL p a).eval=some r):=by
 obtain ⟨h1,h2,h3⟩:=bJ h;have cs:(a.n:Int)≠0->(decide ((0:Int)<=0)&&(decide ((0:Int)<(a.n:Int))&&decide (0+Int.toNat 0<a.l.length)))=true/\decide (0+Int.toNat 0<a.l.length)=true:=by
  intro hn;have:0+Int.toNat 0<a.l.length:=by show 0+0<a.l.length;omega
  rw [c9 (show (0:Int)<(a.n:Int) by omega),c9 this];exact ⟨rfl,rfl⟩
 refine ⟨fun b hb => ?_,fun hn r hr => ?_⟩
 ·unfold DP at hb;split at hb
  ·rename_i hg;obtain rfl:=AI hb;unfold goL at hg;simp only [AS,Bool.not_eq_true'] at hg;have hn:(a.n:Int)≠0:=ajH.1 hg.1;refine T.aiU (wayL p a) ⟨hg.1,(cs hn).1,(cs hn).2,by rw [hg.2];rfl,?_,?_,trivial⟩
   ·rw [c9 (show (1:Int)<=(a.n:Int) by omega),c9 (ajG (a.n:Int)),c9 (show a.n<=a.l.length by omega)];rfl
   ·rw [c9 (show a.j<=a.W.length by omega),c9 (show a.j+[(g2w a.l 0).1].length<=1000000 by simp;omega)];rfl
  ·cases hb
 ·obtain rfl:=AI hr;refine ⟨by simp,?_⟩;unfold DP at hn;split at hn
  ·cases hn
  ·rename_i hg;unfold goL at hg;cases q:((a.n:Int)==0)
   ·rw [q] at hg;have hw:wB (g2w a.l 0).2 p.now p.age=false:=by simpa using hg
    have hn:(a.n:Int)≠0:=ajH.1 q;exact T.aiU (Pp p a) ⟨q,(cs hn).1,(cs hn).2,by rw [hw];rfl,trivial⟩
   ·exact T.aiU (TK p a) ⟨q,trivial⟩
def adG:List V->List Blk->Option (PL × AL)
 | [.ptr 0 0,.s (.int .i64 now),.s (.int .i64 age),.sub 1001 1 0 j],[.cells t0 [.s (.int .i64 d),.nilIface,.sub 1000 2 0 n],.lst true t1 [.int .i64,.int .i64] l,.lst true t2 [.int .i64] W] =>
  if t0=82 then if t1=149 then if t2=3 then some (⟨d,none,now,age⟩,⟨n,l,W,j⟩) else none else none else none
 | [.ptr 0 0,.s (.int .i64 now),.s (.int .i64 age),.sub 1001 1 0 j],[.cells t0 [.s (.int .i64 d),.iface ti (.s (.int .i64 u)),.sub 1000 2 0 n],.lst true t1 [.int .i64,.int .i64] l,.lst true t2 [.int .i64] W] =>
  if ti=2 then if t0=82 then if t1=149 then if t2=3 then some (⟨d,some u,now,age⟩,⟨n,l,W,j⟩) else none else none else none else none
 | _,_=>none
theorem Up (l:List V) (b:List Blk) (d:PL × AL) (h:adG l b=some d):l=vsL d.1 d.2/\b=bsL d.1 d.2:=by
 unfold adG at h;split at h
 ·split at h
  ·rename_i ht0;split at h
   ·rename_i ht1;split at h
    ·rename_i ht2;subst ht0 ht1 ht2;cases h;exact ⟨rfl,rfl⟩
    ·cases h
   ·cases h
  ·cases h
 ·split at h
  ·rename_i hti;split at h
   ·rename_i ht0;split at h
    ·rename_i ht1;split at h
     ·rename_i ht2;subst hti ht0 ht1 ht2;cases h;exact ⟨rfl,rfl⟩
     ·cases h
    ·cases h
   ·cases h
  ·cases h
 ·cases h
def abD:bE:=Su [0,1,2,7] SL0 SL1 1000 1002 41 adG (ca okL) DP ahC
theorem aa7:aI J1 lqL abD:=BJ (T1:=[6]) (vs:=vsL) (bs:=bsL) yd mixed (aw _) Up muL stL fun p a h=>by
 have e:(ia J1 aa lqL [0,1,2,7] SL0 [6] SL1 1000 1002 (bG [0,1,2,7] (aF SL0) 1002 41 (vsL p a) (bsL p a))).eval=(rdL p a).eval:=by unfold rdL;rw [T.aiW]
 rw [e];exact hrL p a h
def qllist:List (Nat × bE):=[(4,abD)]
theorem af9:aq lqL=some 4:=by kernel_rfl
def Rk:Eng.Obj:=aK J1 (bZ qllist) 75
theorem Jr:an Tryz.prog 75 Rk:=aG yd mixed Tryz.func75 (by kernel_rfl) (by kernel_rfl) (bW (c:=lqL) (by kernel_rfl) af9 aa7)
def eL (p:PL) (n:Nat) (l:List (Int × Int)):AL:=cD (DP p) ⟨n,l,[],0⟩
def late (p:PL) (x:Int × Int):Bool:=wB x.2 p.now p.age
theorem aeF {p:PL} {n:Nat} {l:List (Int × Int)} (hn:n=l.length) (hl:l.length<=1000):ca okL p ⟨n,l,[],0⟩=true/\∃ k:Nat,k<=l.length/\(eL p n l).l=l.drop k/\(eL p n l).W=(l.take k).map (·.1)/\(eL p n l).n=l.length - k/\(eL p n l).j=k /\
  (∀ j:Nat,(h:j<k)->(hj:j<l.length)->late p l[j]=true)/\((hk:k<l.length)->late p l[k]=false):=by
 have h0:okL p ⟨n,l,[],0⟩:=⟨hn,rfl,by show l.length+0<=1000;omega⟩
 refine ⟨aH h0,?_⟩;obtain ⟨e1,e2,e3⟩:=cR (nxt:=DP p) (I:=fun a=>ca okL p a=true) (μ:=muL p) (fun a b h e=>stL p a b h e) (aH h0);have e1':okL p (eL p n l):=bJ e1;have e2':DP p (eL p n l)=none:=e2;have e3':=e3 (fun a=>a.W.length<=l.length/\a.l=l.drop a.W.length/\a.W=(l.take a.W.length).map (·.1)/\∀ j:Nat,(h:j<a.W.length)->(hj:j<l.length)->late p l[j]=true) ⟨Nat.zero_le _,rfl,rfl,fun j h=>absurd h (Nat.not_lt_zero j)⟩ (by
  rintro a b hi ⟨q1,q2,q3,q4⟩ hb;obtain ⟨o1,o2,o3⟩:=bJ hi;unfold DP at hb;split at hb
  ·rename_i hg;obtain rfl:=AI hb;unfold goL at hg;simp only [AS,Bool.not_eq_true',ajH] at hg;have hlen:a.l.length=l.length - a.W.length:=by rw [q2,ajV]
   have hlt:a.W.length<l.length:=by omega
   have hg0:g2w a.l 0=l[a.W.length]:=by
    unfold g2w;rw [IT,show 0+Int.toNat 0=0 from rfl,q2,List.getElem?_drop,Nat.add_zero,OF hlt];rfl
   rw [GC o1 o2];refine ⟨?_,?_,?_,?_⟩
   ·show (a.W++[(g2w a.l 0).1]).length<=l.length;simp;omega
   ·show a.l.tail=l.drop (a.W++[(g2w a.l 0).1]).length;rw [IN,List.length_singleton,q2,List.tail_drop]
   ·show a.W++[(g2w a.l 0).1]=(l.take (a.W++[(g2w a.l 0).1]).length).map (·.1);rw [IN,List.length_singleton,List.take_add_one,List.map_append,<- q3,OF hlt,hg0];rfl
   ·show ∀ j:Nat,(h:j<(a.W++[(g2w a.l 0).1]).length)->_;intro j h hj;rw [IN,List.length_singleton] at h;by_cases e:j<a.W.length
    ·exact q4 j e hj
    ·have:j=a.W.length:=by omega
     subst this;unfold late;rw [<- hg0];exact hg.2
  ·cases hb)
 obtain ⟨q1,q2,q3,q4⟩:=(show _/\_/\_/\_ from e3')
 obtain ⟨o1,o2,o3⟩:=e1';have hlen:(eL p n l).l.length=l.length - (eL p n l).W.length:=by rw [show (eL p n l).l=l.drop (eL p n l).W.length from q2,ajV]
 refine ⟨(eL p n l).W.length,q1,q2,q3,by rw [o1,hlen],o2,q4,fun hk => ?_⟩;have hg0:g2w (eL p n l).l 0=l[(eL p n l).W.length]:=by
  unfold g2w;rw [IT,show 0+Int.toNat 0=0 from rfl,show (eL p n l).l=l.drop (eL p n l).W.length from q2,List.getElem?_drop,Nat.add_zero,OF hk];rfl
 unfold DP at e2';split at e2'
 ·cases e2'
 ·rename_i hg;unfold goL at hg;have hn0:(((eL p n l).n:Int)==0)=false:=by rw [ajH];omega
  rw [hn0,hg0] at hg;unfold late;simpa using hg
end Go.Proofs.YtefkegpbpaoadaaGreatDoor.Que
namespace Go.Proofs.YtefkegpbpaoadaaGreatDoor.Lod
open Go.Eng Go.RowKit Go.Flt
theorem mixed:Tryz.prog.follows .mixedOrders=true:=Checked.mixed Tryz.checked
def iv (n:Int):V:=.s (.int .i64 n)
def cx (x y:Nat):V:=.s (.cx .f64 x y)
def P0:Cfg:=⟨Tryz.prog,lookG [],[],0⟩
theorem oX:P0.Ok:=Cfg.ok trivial trivial
def Hv:Eng.Spec:=aM P0 aa 180
theorem CU:aj Tryz.prog 180 Hv:=af oX mixed Tryz.func180 (by kernel_rfl) (by kernel_rfl)
def EK:Eng.Spec:=aM P0 aa 176
theorem Gm:aj Tryz.prog 176 EK:=af oX mixed Tryz.func176 (by kernel_rfl) (by kernel_rfl)
def er (x:Nat):Int:=(floatToIntVal .f64 x .i64).getD 0
def isW (x:Nat):Bool:=decide (0<=er x)&&decide (er x<=1099511627776)&&decide (x=fI (er x).toNat)
theorem EO {n:Nat} (h:n<=1099511627776):er (fI n)=n:=by unfold er;rw [M6 (by omega)];rfl
theorem YY {n:Nat} (h:n<=1099511627776):isW (fI n)=true:=by
 unfold isW;rw [EO h];simp only [AS,By];exact ⟨⟨by omega,by omega⟩,by rw [Int.toNat_natCast]⟩
theorem Ix {x:Nat} (h:isW x=true):∃ n:Nat,n<=1099511627776/\x=fI n/\er x=n:=by
 unfold isW at h;simp only [AS,By] at h;exact ⟨(er x).toNat,by omega,h.2,by omega⟩
theorem Ra {n:Int} (h0:0<=n) (h:n<=1099511627776):floatOfInt .f64 n=fI n.toNat:=by
 obtain ⟨m,rfl⟩:=Int.eq_ofNat_of_zero_le h0;rw [Int.toNat_natCast];exact CM (by omega)
def wi (n:Int):Int:=if 1099511627776<(if 0>n then 0 else n) then 1099511627776 else if 0>n then 0 else n
theorem ur (n:Int):0<=wi n/\wi n<=1099511627776:=by
 unfold wi;repeat' split
 all_goals omega
theorem Lm {n:Int} (h0:0<=n) (h:n<=1099511627776):wi n=n:=by
 unfold wi;repeat' split
 all_goals omega
def fW (n:Int):Nat:=fI (wi n).toNat
theorem GY (n:Int):er (fW n)=wi n:=by
 have:=ur n;unfold fW;rw [EO (by omega)];omega
theorem NK (n:Int):isW (fW n)=true:=YY (by have:=ur n;omega)
theorem aO {c:Bool} {x:T V} {v:V} (h:(T.ite none c x .fail).eval=some v):c=true/\x.eval=some v:=by
 cases c
 ·cases h
 ·exact ⟨rfl,h⟩
theorem bF {i:Option Nat} {c:Bool} {x y:T V} {v:V} (h1:c=true->x.eval=some v) (h2:c=false->y.eval=some v):(T.ite i c x y).eval=some v:=by
 cases c
 ·exact h2 rfl
 ·exact h1 rfl
def uO:Eng.Spec
 | [.s (.int .i64 n)]=>.ret (iv (wi n))
 | _=>.fail
theorem qP:aj Tryz.prog 180 uO:=by
 refine CU.ai0 fun args v hfl h => ?_;clear hfl;unfold uO at h;split at h
 ·rename_i n;obtain rfl:=AI h;have e:T.anon (Hv [iv n])=.ret (iv (wi n)):=by kernel_rfl
  exact ⟨_,by rw [<- T.aiW];exact congrArg T.eval e,⟨rfl,rfl⟩,rfl⟩
 ·cases h
def Gj:Eng.Spec
 | [.s (.float .f64 x)]=>.ite none (isW x) (.ret (iv (er x))) .fail
 | _=>.fail
theorem Kg:(4787326403894837248:Nat)=fI 1099511627776:=by decide +kernel
theorem L1:(0:Nat)=fI 0:=by decide +kernel
theorem Ef (x:Nat):T.anon (EK [.s (.float .f64 x)])=T.ite none (FloatKind.f64.format.order x 4787326403894837248==some .gt||FloatKind.f64.format.order x 4787326403894837248==some .eq) (.ret (iv 1099511627776))
  (T.ite none (FloatKind.f64.format.order x 0==some .gt) (T.ite none (floatToIntVal .f64 x .i64).isSome (.ret (iv ((floatToIntVal .f64 x .i64).getD 0))) .fail) (.ret (iv 0))):=by kernel_rfl
theorem NL {a b:Int}:(some (compare a b)==some Ordering.gt)=decide (b<a):=by
 simp only [compare,compareOfLessAndEq];split
 ·rw [BY (by omega)];rfl
 ·split
  ·rw [BY (by omega)];rfl
  ·rw [c9 (by omega)];rfl
theorem XH {a b:Int}:(some (compare a b)==some Ordering.eq)=decide (a=b):=by
 simp only [compare,compareOfLessAndEq];split
 ·rw [BY (by omega)];rfl
 ·split
  ·rename_i h;rw [c9 h];rfl
  ·rename_i h;rw [BY h];rfl
theorem CG {x:Nat} (h:isW x=true):(EK [.s (.float .f64 x)]).eval=some (iv (er x)):=by
 obtain ⟨n,hn,rfl,hv⟩:=Ix h;rw [hv,<- T.aiW,Ef,Kg,L1,Bz (by omega) (by omega),Bz (by omega) (by decide),NL,XH,NL,M6 (by omega)];refine bF (fun h => ?_) fun h=>bF (fun h2 => ?_) fun h2 => ?_
 ·simp only [ajW,By] at h;rw [show (n:Int)=1099511627776 by omega];rfl
 ·exact aE rfl rfl
 ·simp only [ajO] at h2;rw [show (n:Int)=0 by omega];rfl
theorem F2:aj Tryz.prog 176 Gj:=by
 refine Gm.ai0 fun args v hfl h => ?_;clear hfl;unfold Gj at h;split at h
 ·rename_i x;obtain ⟨hk,h⟩:=aO h;obtain rfl:=AI h;exact ⟨_,CG hk,⟨rfl,rfl⟩,rfl⟩
 ·cases h
def Q1:Cfg:=⟨Tryz.prog,lookG [(180,.val uO),(176,.val Gj)],[],0⟩
theorem pX:Q1.Ok:=Cfg.ok ⟨qP,F2,trivial⟩ trivial
theorem rb (n:Int):floatOfInt .f64 (wi n)=fW n:=by
 have:=ur n;exact Ra this.1 this.2
def ofC:Eng.Spec
 | [.s (.int .i64 a),.s (.int .i64 b)]=>.ret (cx (fW a) (fW b))
 | _=>.fail
theorem O6:aj Tryz.prog 145 ofC:=by
 refine (af pX mixed Tryz.func145 (by kernel_rfl) (by kernel_rfl)).ai0 fun args v hfl h => ?_;clear hfl;unfold ofC at h;split at h
 ·rename_i a b;obtain rfl:=AI h;have e:T.anon (aM Q1 aa 145 [iv a,iv b])=.ret (cx (floatOfInt .f64 (wi a)) (floatOfInt .f64 (wi b))):=by kernel_rfl
  refine ⟨cx (fW a) (fW b),?_,⟨rfl,rfl⟩,rfl⟩;rw [<- T.aiW];refine Eq.trans (congrArg T.eval e) ?_;rw [rb,rb];rfl
 ·cases h
def Kn:Eng.Spec
 | [.s (.cx .f64 x y)]=>.ite none (isW x) (.ret (iv (er x))) .fail
 | _=>.fail
theorem Ag:aj Tryz.prog 142 Kn:=by
 refine (af pX mixed Tryz.func142 (by kernel_rfl) (by kernel_rfl)).ai0 fun args v hfl h => ?_;clear hfl;unfold Kn at h;split at h
 ·rename_i x y;obtain ⟨hk,h⟩:=aO h;obtain rfl:=AI h;have e:T.anon (aM Q1 aa 142 [cx x y])=.ite none (isW x) (.ret (iv (er x))) .fail:=by kernel_rfl
  refine ⟨iv (er x),?_,⟨rfl,rfl⟩,rfl⟩;rw [<- T.aiW];exact (congrArg T.eval e).trans (aE hk rfl)
 ·cases h
def Tw:Eng.Spec
 | [.s (.cx .f64 x y)]=>.ite none (isW y) (.ret (iv (er y))) .fail
 | _=>.fail
theorem Ks:aj Tryz.prog 177 Tw:=by
 refine (af pX mixed Tryz.func177 (by kernel_rfl) (by kernel_rfl)).ai0 fun args v hfl h => ?_;clear hfl;unfold Tw at h;split at h
 ·rename_i x y;obtain ⟨hk,h⟩:=aO h;obtain rfl:=AI h;have e:T.anon (aM Q1 aa 177 [cx x y])=.ite none (isW y) (.ret (iv (er y))) .fail:=by kernel_rfl
  refine ⟨iv (er y),?_,⟨rfl,rfl⟩,rfl⟩;rw [<- T.aiW];exact (congrArg T.eval e).trans (aE hk rfl)
 ·cases h
def Q2:Cfg:=⟨Tryz.prog,lookG [(180,.val uO),(145,.val ofC),(142,.val Kn),(177,.val Tw)],[],0⟩
theorem Gg:Q2.Ok:=Cfg.ok ⟨qP,O6,Ag,Ks,trivial⟩ trivial
def X8:Eng.Spec:=aM Q2 aa 143
theorem JQ:aj Tryz.prog 143 X8:=af Gg mixed Tryz.func143 (by kernel_rfl) (by kernel_rfl)
def mvB (b w n:Int):Bool:=decide (w<n)||decide (n < -b)||decide (1099511627776 - b<n)||decide (n<w - 1099511627776)
def moveC:Eng.Spec
 | [.s (.cx .f64 x y),.s (.int .i64 n)]=>.ite none (isW x&&isW y) (.ite none (mvB (er x) (er y) n) (.ret (.tup [cx (fW (er x)) (fW (er y)),iv 5])) (.ret (.tup [cx (fW (er x+n)) (fW (er y - n)),iv 0]))) .fail
 | _=>.fail
def lessB (b w b' w':Int):Bool:=if b=b' then decide (w<w') else decide (b<b')
def aaK (x y x' y':Nat):Bool:=isW x&&isW y&&isW x'&&isW y'
def Ru:Eng.Spec
 | [.s (.cx .f64 x y),.s (.cx .f64 x' y')]=>.ite none (aaK x y x' y') (.ret (.s (.bool (lessB (er x) (er y) (er x') (er y'))))) .fail
 | _=>.fail
theorem Mc (x y x' y':Nat):T.anon (X8 [cx x y,cx x' y'])=T.ite none (isW x) (T.ite none (isW x') (T.ite none (er x != er x') (T.ite none (isW x) (T.ite none (isW x') (.ret (.s (.bool (decide (er x<er x'))))) .fail) .fail)
  (T.ite none (isW y) (T.ite none (isW y') (.ret (.s (.bool (decide (er y<er y'))))) .fail) .fail)) .fail) .fail:=by kernel_rfl
theorem Ka:aj Tryz.prog 143 Ru:=by
 refine JQ.ai0 fun args v hfl h => ?_;clear hfl;unfold Ru at h;split at h
 ·rename_i x y x' y';obtain ⟨hk,h⟩:=aO h;obtain rfl:=AI h;simp only [aaK,AS] at hk;refine ⟨.s (.bool (lessB (er x) (er y) (er x') (er y'))),?_,⟨rfl,rfl⟩,rfl⟩;rw [<- T.aiW];refine Eq.trans (congrArg T.eval (Mc x y x' y')) (aE hk.1.1.1 (aE hk.1.2 ?_));unfold lessB;by_cases q:er x=er x'
  ·rw [if_pos q];exact tev_else (by rw [q];simp) (aE hk.1.1.2 (aE hk.2 rfl))
  ·rw [if_neg q];exact aE (by simpa using q) (aE hk.1.1.1 (aE hk.1.2 rfl))
 ·cases h
end Go.Proofs.YtefkegpbpaoadaaGreatDoor.Lod
namespace Go.Proofs.YtefkegpbpaoadaaGreatDoor.Brk
open Go.Eng Go.RowKit Go.Flt Lod
structure PF where (n d L D:Int)
structure AF where (x y:Nat) (i:Int)
def bIn (n i:Int):Int:=if i<n then i else n
def wIn (n i:Int):Int:=if i<n then 0 else i - n
def adq (p:PF) (a:AF):Bool:=decide (p.L=p.n)&&decide (p.D=p.d)&&decide (1<=p.n)&&decide (p.n<=20)&&decide (0<=p.d)&&decide (p.d<=20)&&decide (0<=a.i)&&decide (a.i<=p.n+p.d)&&isW a.x&&isW a.y&&decide (er a.x=bIn p.n a.i)&&decide (er a.y=wIn p.n a.i)
def mH (g:List (Int × Int)) (i:Int):Int:=IntKind.wrap .i64 (Int.tmod (IntKind.wrap .u64 (g2 g i).2) 21)
def okH (n d:Int) (x y:Nat) (c:Int):Prop:=isW x=true/\isW y=true/\0<=er x/\er x<=20/\0<=er y/\er y<=d/\(0<er y->n<=er x)/\c=er x+er y/\0<=n/\n<=20/\0<=d/\d<=20
instance (n d:Int) (x y:Nat) (c:Int):Decidable (okH n d x y c):=inferInstanceAs (Decidable (_/\_))
end Go.Proofs.YtefkegpbpaoadaaGreatDoor.Brk
namespace Go.Proofs.YtefkegpbpaoadaaGreatDoor.Pic
open Go.Eng Go.RowKit Go.Flt Lod Brk
abbrev CX:List K:=[.cx .f64]
def g1 (l:List (Nat × Nat)) (i:Int):Nat × Nat:=l.getD (0+i.toNat) (0,0)
def C1:Cfg:=⟨Tryz.prog,lookG [(142,.val Kn),(143,.val Ru)],[],0⟩
theorem L4:C1.Ok:=Cfg.ok ⟨Ag,Ka,trivial⟩ trivial
def lpA:Code:=bN Tryz.prog 106 0
structure PA where (g:List (Nat × Nat)) (k k':Nat) (m c:Int)
structure AA where (b i:Int)
abbrev S1:List (Nat × Src):=[(0,.same)]
def bsA (p:PA):List Blk:=[.lst false 243 CX p.g]
def vsA (p:PA) (a:AA):List V:=[.sub 0 1 0 p.k,Lod.iv p.m,Lod.iv a.b,.sub 0 1 0 p.k',Lod.iv p.c,Lod.iv a.i]
def FA (p:PA) (a:AA):St:=bG [0,1,5,8,9,10] [0] 1000 34 (vsA p a) (bsA p)
def rdA (p:PA) (a:AA):T (Ex × St):=T.anon (bA C1 aa lpA [0,1,5,8,9,10] S1 1000 1000 (bG [0,1,5,8,9,10] (aF S1) 1000 34 (vsA p a) (bsA p)))
def bz (g:List (Nat × Nat)) (j:Int):Int:=er (g1 g j).1
def wt (g:List (Nat × Nat)) (j:Int):Int:=er (g1 g j).2
def ls (g:List (Nat × Nat)) (i j:Int):Bool:=lessB (bz g i) (wt g i) (bz g j) (wt g j)
def idA (g:List (Nat × Nat)) (k:Nat) (i:Int):Bool:=decide (0<=i)&&(decide (i<(k:Int))&&decide (0+i.toNat<g.length))
def ldA (g:List (Nat × Nat)) (i:Int):Bool:=decide (0+i.toNat<g.length)
def gdA (p:PA) (a:AA):Bool:=decide (bz p.g a.i<p.m)==true&&((a.b == -1)==false&&true)
def tkA (p:PA) (a:AA):Bool:=bif decide (bz p.g a.i<p.m) then bif a.b == -1 then true else ls p.g a.i a.b else false
theorem wayA (p:PA) (a:AA) (e:Bool):T.path [true,true,true,true,true,true,true,e] (rdA p a)=some ([(decide (a.i<p.c),true),(idA p.g p.k' a.i,true),(ldA p.g a.i,true),(isW (g1 p.g a.i).1,true),
 (bif gdA p a then idA p.g p.k a.b else true,true),(bif gdA p a then ldA p.g a.b else true,true),(bif gdA p a then aaK (g1 p.g a.i).1 (g1 p.g a.i).2 (g1 p.g a.b).1 (g1 p.g a.b).2 else true,true),(tkA p a,e)],(.normal,FA p ⟨bif e then a.i else a.b,IntKind.wrap .i64 (a.i+1)⟩)):=by cases e<;>kernel_rfl
theorem Sn (p:PA) (a:AA):T.path [false] (rdA p a)=some ([(decide (a.i<p.c),false)],(.exit 0,FA p a)):=by kernel_rfl
def okG (p:PA):Prop:=p.k=p.g.length/\p.k'=p.g.length/\p.c=p.g.length/\p.g.length<=1000/\∀ j:Int,isW (g1 p.g j).1=true/\isW (g1 p.g j).2=true
def K9 (g:List (Nat × Nat)) (m i b:Int):Prop:=(b = -1/\∀ j,0<=j->j<i->¬ bz g j<m)\/(0<=b/\b<i/\bz g b<m/\∀ j,0<=j->j<i->bz g j<m->ls g j b=false/\(j<b->ls g b j=true))
def okA (p:PA) (a:AA):Prop:=okG p/\0<=a.i/\a.i<=p.c/\K9 p.g p.m a.i a.b
def goA (p:PA) (a:AA):Bool:=decide (a.i<p.c)
def muA (p:PA) (a:AA):Nat:=(p.c - a.i).toNat
theorem OQ {g:List (Nat × Nat)} {k:Nat} {i:Int} (h:k=g.length) (h0:0<=i) (h1:i<k):idA g k i=true/\ldA g i=true:=by
 unfold idA ldA;rw [c9 h0,c9 h1,c9 (show 0+i.toNat<g.length by omega)];exact ⟨rfl,rfl⟩
theorem oB {g:List (Nat × Nat)} {i j:Int}:ls g i j=true↔bz g i<bz g j\/(bz g i=bz g j/\wt g i<wt g j):=by
 unfold ls lessB;by_cases h:bz g i=bz g j
 ·simp [h]
 ·simp [h]
theorem rW {g:List (Nat × Nat)} {i j:Int}:ls g i j=false↔¬ (bz g i<bz g j\/(bz g i=bz g j/\wt g i<wt g j)):=by
 rw [<- oB];simp
theorem abq (p:PA) (a:AA) (h:okA p a) (hg:goA p a=true):∃ b,dg okA rdA FA muA p a b:=by
 obtain ⟨⟨h1,h2,h3,h4,h5⟩,h6,h7,h8⟩:=id h;have hi:a.i<p.c:=IS hg;have hw:IntKind.wrap .i64 (a.i+1)=a.i+1:=wrap64_in (by omega) (by omega);obtain ⟨x1,x2⟩:=OQ (g:=p.g) (k:=p.k') (i:=a.i) h2 h6 (by omega);have g1':(bif gdA p a then idA p.g p.k a.b else true)=true/\(bif gdA p a then ldA p.g a.b else true)=true/\(bif gdA p a then aaK (g1 p.g a.i).1 (g1 p.g a.i).2 (g1 p.g a.b).1 (g1 p.g a.b).2 else true)=true:=by
  cases q:gdA p a
  ·exact ⟨rfl,rfl,rfl⟩
  ·have hb:0<=a.b/\a.b<a.i:=by
    rcases h8 with h8 | h8
    ·unfold gdA at q;rw [h8.1] at q;simp at q
    ·exact ⟨h8.1,h8.2.1⟩
   obtain ⟨y1,y2⟩:=OQ (g:=p.g) (k:=p.k) (i:=a.b) h1 hb.1 (by omega);exact ⟨y1,y2,by unfold aaK;rw [(h5 a.i).1,(h5 a.i).2,(h5 a.b).1,(h5 a.b).2];rfl⟩
 refine ⟨_,T.aiU (wayA p a (tkA p a)) ⟨hg,x1,x2,(h5 _).1,g1'.1,g1'.2.1,g1'.2.2,rfl,trivial⟩,⟨⟨h1,h2,h3,h4,h5⟩,?_,?_,?_⟩,?_⟩
 ·show 0<=IntKind.wrap .i64 (a.i+1);rw [hw];omega
 ·show IntKind.wrap .i64 (a.i+1)<=p.c;rw [hw];omega
 ·show K9 p.g p.m (IntKind.wrap .i64 (a.i+1)) (bif tkA p a then a.i else a.b);rw [hw];cases q:tkA p a
  ·show K9 p.g p.m (a.i+1) a.b;rcases h8 with h8 | h8
   ·refine .inl ⟨h8.1,fun j j0 j1 => ?_⟩;by_cases e:j=a.i
    ·subst e;intro hm;unfold tkA at q;rw [c9 hm,h8.1] at q;cases q
    ·exact h8.2 j j0 (by omega)
   ·refine .inr ⟨h8.1,by omega,h8.2.2.1,fun j j0 j1 hm => ?_⟩;by_cases e:j=a.i
    ·subst e;unfold tkA at q;rw [c9 hm,show (a.b == -1)=false by rw [ajH];omega] at q;exact ⟨q,fun hj=>by omega⟩
    ·exact h8.2.2.2 j j0 (by omega) hm
  ·show K9 p.g p.m (a.i+1) a.i;unfold tkA at q;by_cases hm:bz p.g a.i<p.m
   ·rw [c9 hm] at q;refine .inr ⟨h6,by omega,hm,fun j j0 j1 hj => ?_⟩;by_cases e:j=a.i
    ·subst e;exact ⟨rW.2 (by omega),fun h=>by omega⟩
    ·rcases h8 with h8 | h8
     ·exact absurd hj (h8.2 j j0 (by omega))
     ·rw [show (a.b == -1)=false by rw [ajH];omega] at q;have q':ls p.g a.i a.b=true:=q;rw [oB] at q';have h9:=(h8.2.2.2 j j0 (by omega) hj).1;rw [rW] at h9;exact ⟨rW.2 (by omega),fun _=>oB.2 (by omega)⟩
   ·rw [BY hm] at q;cases q
 ·show (p.c - IntKind.wrap .i64 (a.i+1)).toNat<(p.c - a.i).toNat;rw [hw];omega
theorem exA (p:PA) (a:AA) (h:okA p a) (hg:goA p a=false):(rdA p a).eval=some (.exit 0,FA p a):=T.aiU (Sn p a) ⟨hg,trivial⟩
def H6:List V->List Blk->Option (PA × AA)
 | [.sub 0 1 0 k,.s (.int .i64 m),.s (.int .i64 b),.sub 0 1 0 k',.s (.int .i64 c),.s (.int .i64 i)],[.lst false t [.cx .f64] g]=>if t=243 then some (⟨g,k,k',m,c⟩,⟨b,i⟩) else none
 | _,_=>none
theorem zo (l:List V) (b:List Blk) (d:PA × AA) (h:H6 l b=some d):l=vsA d.1 d.2/\b=bsA d.1:=by
 unfold H6 at h;split at h
 ·split at h
  ·rename_i ht;subst ht;cases h;exact ⟨rfl,rfl⟩
  ·cases h
 ·cases h
def aip:bE:=za [0,1,5,8,9,10] S1 1000 1000 34 H6 okA goA rdA FA muA (.exit 0)
theorem Hg:aI C1 lpA aip:=dx (vs:=vsA) (bs:=fun p _=>bsA p) L4 mixed (aw _) zo (by simp) (fun _ _=>rfl) (fun _ _=>rfl) abq exA
def xw:List (Nat × bE):=[(3,aip)]
theorem afe:aq lpA=some 3:=by kernel_rfl
theorem bW {c:Code} {n:Nat} {sp:bE} {C:Cfg} {f:Nat} (e:cg (codeOf Tryz.prog f)=[c]) (hr:aq c=some n) (h:aI C c sp):∀ a∈cg (codeOf Tryz.prog f),∀ s,bZ [(n,sp)] a=some s->aI C a s:=by
 rw [e];intro a ha;rcases ajI.1 ha with q | ha
 ·rw [q];exact fb hr (by simp [findL]) h
 ·cases ha
def GP:Eng.Spec:=aM C1 (bZ xw) 106
theorem GO:aj Tryz.prog 106 GP:=dn L4 mixed Tryz.func106 (by kernel_rfl) (by kernel_rfl) (bW (c:=lpA) (by kernel_rfl) afe Hg)
def pA (l:List (Nat × Nat)) (m:Int):PA:=⟨l,l.length,l.length,m,l.length⟩
def eA (l:List (Nat × Nat)) (m:Int):AA:=cD (fT okA goA rdA FA muA (pA l m)) ⟨-1,0⟩
theorem Gf (l:List (Nat × Nat)) (m:Int):T.anon (GP [.orow 243 CX l,Lod.iv m])=.ite none (ca okA (pA l m) ⟨-1,0⟩) (.ret (Lod.iv (eA l m).b)) .fail:=by kernel_rfl
def okL (l:List (Nat × Nat)):Prop:=l.length<=1000/\∀ j:Int,isW (g1 l j).1=true/\isW (g1 l j).2=true
theorem YM {l:List (Nat × Nat)} (h:okL l) (m:Int):okG (pA l m):=⟨rfl,rfl,rfl,h.1,h.2⟩
theorem kL {l:List (Nat × Nat)} (h:okL l) (m:Int):ca okA (pA l m) ⟨-1,0⟩=true/\K9 l m l.length (eA l m).b:=by
 have h0:okA (pA l m) ⟨-1,0⟩:=⟨YM h m,ajG 0,by show (0:Int)<=(l.length:Int);omega,.inl ⟨rfl,fun j j0 j1=>by dsimp only at j1;omega⟩⟩
 refine ⟨aH h0,?_⟩;obtain ⟨⟨-,e1,e2,e3⟩,e4⟩:=qW abq h0;have e5:¬ (eA l m).i<(l.length:Int):=ajL e4;have e6:(eA l m).i<=(l.length:Int):=e2;have e7:K9 l m (eA l m).i (eA l m).b:=e3;rw [show (eA l m).i=(l.length:Int) by omega] at e7;exact e7
end Go.Proofs.YtefkegpbpaoadaaGreatDoor.Pic
namespace Go.Proofs.YtefkegpbpaoadaaGreatDoor.Sam
open Go.Eng Go.RowKit
theorem mixed:Tryz.prog.follows .mixedOrders=true:=Checked.mixed Tryz.checked
def iv (n:Int):V:=.s (.int .i64 n)
def P0:Cfg:=⟨Tryz.prog,lookG [],[],0⟩
theorem oX:P0.Ok:=Cfg.ok trivial trivial
def LY:Eng.Spec:=aM P0 aa 155
theorem IA:aj Tryz.prog 155 LY:=af oX mixed Tryz.func155 (by kernel_rfl) (by kernel_rfl)
def de (n:Int):Int:=if n<=3 then (if 0>n then 0 else n) else if 208<n then 16 else 16 - 208 / (n+13)
def po:Eng.Spec
 | [.s (.int .i64 n)]=>.ret (iv (de n))
 | _=>.fail
theorem bF {i:Option Nat} {c:Bool} {x y:T V} {v:V} (h1:c=true->x.eval=some v) (h2:c=false->y.eval=some v):(T.ite i c x y).eval=some v:=by
 cases c
 ·exact h2 rfl
 ·exact h1 rfl
theorem K7 (n:Int):T.anon (LY [iv n])=T.ite none (decide (n<=3)) (T.ret (iv (if 0>n then 0 else n))) (T.ite none (decide (208<n)) (T.ret (iv 16)) (T.ite none (IntKind.wrap .i64 (n+13)==0) T.fail (T.ret (iv (IntKind.wrap .i64 (16 - IntKind.wrap .i64 (Int.tdiv 208 (IntKind.wrap .i64 (n+13))))))))):=by kernel_rfl
theorem jL:aj Tryz.prog 155 po:=by
 refine IA.ai0 fun args v hfl h => ?_;clear hfl;unfold po at h;split at h
 ·rename_i n;obtain rfl:=AI h;refine ⟨iv (de n),?_,⟨rfl,rfl⟩,rfl⟩;rw [<- T.aiW,show LY [V.s (.int .i64 n)]=LY [iv n] from rfl,K7];unfold de;refine bF (fun h => ?_) fun h=>bF (fun h5 => ?_) fun h5 => ?_<;>simp only [By,ajO] at *
  ·rw [if_pos h];rfl
  ·rw [if_neg h,if_pos h5];rfl
  ·rw [if_neg h,if_neg h5];have e1:IntKind.wrap .i64 (n+13)=n+13:=wrap64_in (by omega) (by omega);rw [e1];have e2:Int.tdiv 208 (n+13)=208 / (n+13):=Int.tdiv_eq_ediv_of_nonneg (by decide);have h6:0<=208 / (n+13):=Int.ediv_nonneg (by decide) (by omega);have h7:208 / (n+13)<=208:=Int.ediv_le_self _ (by decide);rw [e2,wrap64_in (n:=208 / (n+13)) (by omega) (by omega),wrap64_in (n:=16 - 208 / (n+13)) (by omega) (by omega)];refine bF (fun h => ?_) fun h => ?_
   ·simp only [beq_iff_eq] at h;omega
   ·rfl
 ·cases h
theorem FK:∀ n:Nat,n<210->de n<=16/\de n<=n/\(n<3\/3<=de n)/\de n<=de (n+1)/\(0<n->0<de n)/\0<=de n:=by decide +kernel
theorem uV {n:Int} (h:208<n):de n=16:=by unfold de;rw [if_neg (by omega),if_pos h]
theorem Dz {n:Int} (h:0<=n):de n<=16/\de n<=n/\(n<3\/3<=de n)/\de n<=de (n+1)/\(0<n->0<de n)/\0<=de n:=by
 by_cases q:n<=208
 ·obtain ⟨m,rfl⟩:=Int.eq_ofNat_of_zero_le h;obtain ⟨h1,h2,h3,h4,h5,h6⟩:=FK m (by omega);exact ⟨h1,h2,by omega,h4,fun h=>h5 (by omega),h6⟩
 ·rw [uV (by omega),uV (n:=n+1) (by omega)];omega
def P6:Cfg:=⟨Tryz.prog,lookG [(155,.val po)],[],0⟩
theorem adS:P6.Ok:=Cfg.ok ⟨jL,trivial⟩ trivial
def Br:Eng.Spec:=aM P6 aa 122
theorem E8:aj Tryz.prog 122 Br:=af adS mixed Tryz.func122 (by kernel_rfl) (by kernel_rfl)
def ori (l:List Int):V:=.orow 3 [.int .i64] l
def lenF (n most:Int):Int:=if 0<most then (if most<de n then most else de n) else de n
def mx0 (r:Int):Int:=if 0>r then 0 else r
def kY (n most r:Int):Int:=(mx0 r % n*lenF n most) % n
def HJ:Eng.Spec
 | [.s (.int .i64 n),.s (.int .i64 m),.s (.int .i64 r)]=>.ite none (decide (0<=n)&&decide (n<=1000)&&decide (r<=9223372036854775807)) (.ite none (n==0) (.ret (.iface 261 (.agg []))) (.ret (.iface 210 (.agg [iv (kY n m r),iv (lenF n m)])))) .fail
 | _=>.fail
theorem DW (n m r:Int):T.anon (Br [iv n,iv m,iv r])=T.ite none (n==0) (.ret (.iface 261 (.agg []))) (T.ite none (decide (0<m))
  (T.ite none (n==0) .fail (T.ite none (n==0) .fail (.ret (.iface 210 (.agg [iv (Int.tmod (IntKind.wrap .i64 (Int.tmod (mx0 r) n*(if m<de n then m else de n))) n),iv (if m<de n then m else de n)])))))
  (T.ite none (n==0) .fail (T.ite none (n==0) .fail (.ret (.iface 210 (.agg [iv (Int.tmod (IntKind.wrap .i64 (Int.tmod (mx0 r) n*de n)) n),iv (de n)])))))):=by kernel_rfl
theorem lS {n:Int} (hn:0<n) (m:Int):0<lenF n m/\lenF n m<=16/\lenF n m<=n:=by
 obtain ⟨h1,h2,-,-,h5,-⟩:=Dz (n:=n) (by omega);have:=h5 hn;unfold lenF;split
 ·split<;>omega
 ·omega
theorem start_eq {n L x:Int} (hn:0<n) (h2:n<=1000) (h3:0<L) (h4:L<=16) (hx:0<=x):Int.tmod (IntKind.wrap .i64 (Int.tmod x n*L)) n=(x % n*L) % n:=by
 rw [Int.tmod_eq_emod_of_nonneg hx];have a1:=Int.emod_nonneg x (b:=n) (by omega);have a2:=Int.emod_lt_of_pos x hn;have a3:0<=x % n*L:=Int.mul_nonneg a1 (by omega);have a4:x % n*L<=1000*16:=Int.mul_le_mul (by omega) h4 (by omega) (by omega);rw [wrap64_in (by omega) (by omega),Int.tmod_eq_emod_of_nonneg a3]
theorem Gw:aj Tryz.prog 122 HJ:=by
 refine E8.ai0 fun args v hfl h => ?_;clear hfl;unfold HJ at h;split at h
 ·rename_i n m r;cases hk:(decide (0<=n)&&decide (n<=1000)&&decide (r<=9223372036854775807))
  ·rw [hk] at h;cases h
  ·rw [hk] at h;simp only [AS,By] at hk;have h:(T.ite none (n==0) (.ret (.iface 261 (.agg []))) (.ret (.iface 210 (.agg [iv (kY n m r),iv (lenF n m)]))):T V).eval=some v:=h;refine ⟨v,?_,?_,rfl⟩
   ·rw [<- T.aiW,show Br [V.s (.int .i64 n),V.s (.int .i64 m),V.s (.int .i64 r)]=Br [iv n,iv m,iv r] from rfl,DW];by_cases q:n=0
    ·subst q;exact h
    ·have q2:(n==0)=false:=by simpa using q
     rw [q2] at h;obtain rfl:=AI h;have hx:0<=mx0 r:=by unfold mx0;split<;>omega
     obtain ⟨l1,l2,l3⟩:=lS (n:=n) (by omega) m;refine tev_else q2 ?_;have hs:kY n m r=(mx0 r % n*lenF n m) % n:=rfl;by_cases hm:0<m
     ·have e:lenF n m=if m<de n then m else de n:=by unfold lenF;rw [if_pos hm]
      rw [<- e];refine aE (c9 hm) (tev_else q2 (tev_else q2 ?_));rw [start_eq (by omega) hk.1.2 l1 l2 hx];rfl
     ·have e:lenF n m=de n:=by unfold lenF;rw [if_neg hm]
      rw [<- e];refine tev_else (BY hm) (tev_else q2 (tev_else q2 ?_));rw [start_eq (by omega) hk.1.2 l1 l2 hx];rfl
   ·cases q:n==0<;>rw [q] at h<;>(obtain rfl:=AI h;exact ⟨rfl,rfl⟩)
 ·cases h
def P7:Cfg:=⟨Tryz.prog,lookG [(122,.val HJ)],[],0⟩
theorem XF:P7.Ok:=Cfg.ok ⟨Gw,trivial⟩ trivial
def wh1:Code:=bN Tryz.prog 98 0
def rI (own:Bool) (l:List Int):Blk:=.lst own 3 [.int .i64] l
abbrev SH:List (Nat × Src):=[(0,.same),(9,.same),(1000,.tmp 9)]
structure PH where (g:List Int) (k:Nat) (st ln:Int) (j:Nat) (n:Int)
structure AH where (l:List Int) (i:Int)
def vsH (p:PH) (a:AH):List V:=[.sub 0 1 0 p.k,.ptr 9 0,.sub 1000 1 0 p.j,iv p.n,iv a.i]
def bsH (p:PH) (a:AH):List Blk:=[rI false p.g,.cells 210 [iv p.st,iv p.ln],rI true a.l]
def FH (p:PH) (a:AH):St:=bG [0,7,9,26,27] [0,9,1000] 1001 45 (vsH p a) (bsH p a)
def rtH (g:List Int) (k:Nat) (st ln:Int) (j:Nat) (n:Int) (l:List Int) (i:Int):T (Ex × St) :=
 T.ite none (decide (i<n)) (T.ite none ((k:Int)==0) T.fail (T.ite none (decide (0<=Int.tmod (IntKind.wrap .i64 (st+i)) (k:Int))&&(decide (Int.tmod (IntKind.wrap .i64 (st+i)) (k:Int)<(k:Int))&&decide (0+Int.toNat (Int.tmod (IntKind.wrap .i64 (st+i)) (k:Int))<g.length)))
  (T.ite none (decide (0+Int.toNat (Int.tmod (IntKind.wrap .i64 (st+i)) (k:Int))<g.length)) (T.ite none (decide (0<=i)&&(decide (i<(j:Int))&&decide (0+Int.toNat i<l.length))) (T.ite none (decide (0+Int.toNat i<l.length))
   (T.ret (.normal,FH ⟨g,k,st,ln,j,n⟩ ⟨l.set (0+i.toNat) (gI g (Int.tmod (IntKind.wrap .i64 (st+i)) (k:Int))),IntKind.wrap .i64 (i+1)⟩)) T.fail) T.fail) T.fail) T.fail)) (T.ret (.exit 0,FH ⟨g,k,st,ln,j,n⟩ ⟨l,i⟩))
def DM:List V->List Blk->Option (PH × AH)
 | [.sub 0 1 0 k,.ptr 9 0,.sub 1000 1 0 j,.s (.int .i64 n),.s (.int .i64 i)],[.lst false t1 [.int .i64] g,.cells t2 [.s (.int .i64 st),.s (.int .i64 ln)],.lst true t3 [.int .i64] l] =>
  if t1=3/\t2=210/\t3=3 then some (⟨g,k,st,ln,j,n⟩,⟨l,i⟩) else none
 | _,_=>none
theorem UY (l:List V) (b:List Blk) (d:PH × AH) (h:DM l b=some d):l=vsH d.1 d.2/\b=bsH d.1 d.2:=by
 unfold DM at h;split at h
 ·split at h
  ·rename_i ht;obtain ⟨rfl,rfl,rfl⟩:=ht;cases h;exact ⟨rfl,rfl⟩
  ·cases h
 ·cases h
def Dl (p:PH) (a:AH):Bool:=decide (p.k=p.g.length)&&decide (0<p.k)&&decide (p.k<=1000)&&decide (p.j=a.l.length)&&decide (p.n=(p.j:Int))&&decide (p.j<=1000)&&decide (0<=a.i)&&decide (a.i<=p.n)&&decide (0<=p.st)&&decide (p.st<p.k)
def elH (p:PH) (i:Int):Int:=gI p.g ((p.st+i) % p.k)
def DN (p:PH) (a:AH):Option AH:=if a.i<p.n then some ⟨a.l.set (0+a.i.toNat) (elH p a.i),a.i+1⟩ else none
def ac8 (p:PH) (a:AH):T (Ex × St):=.ret (.exit 0,FH p a)
theorem stH (p:PH) (a b:AH) (h:Dl p a=true) (e:DN p a=some b):Dl p b=true/\(p.n - b.i).toNat<(p.n - a.i).toNat:=by
 obtain ⟨l,i⟩:=a;unfold DN at e;split at e
 ·rename_i hc;obtain rfl:=AI e;simp only [Dl,AS,By,ajK] at h hc ⊢;omega
 ·cases e
theorem aay:aI P7 wh1 (jS [0,7,9,26,27] SH 1000 1001 45 DM Dl DN ac8):=by
 refine dw (vs:=vsH) (bs:=bsH) XF mixed (aw _) UY (fun p a=>(p.n - a.i).toNat) stH fun ⟨g,k,st,ln,j,n⟩ ⟨l,i⟩ h => ?_;have e:T.anon (bA P7 aa wh1 [0,7,9,26,27] SH 1000 1001 (bG [0,7,9,26,27] (aF SH) 1001 45 (vsH ⟨g,k,st,ln,j,n⟩ ⟨l,i⟩) (bsH ⟨g,k,st,ln,j,n⟩ ⟨l,i⟩)))=rtH g k st ln j n l i:=by kernel_rfl
 rw [<- T.aiW (t:=bA _ _ _ _ _ _ _ _),e];clear e;simp only [Dl,AS,By] at h;obtain ⟨⟨⟨⟨⟨⟨⟨⟨⟨rfl,h1⟩,h2⟩,rfl⟩,rfl⟩,h3⟩,h4⟩,h5⟩,h6⟩,h7⟩:=h;simp only [DN,ac8,elH];unfold rtH;by_cases hc:i<l.length
 ·rw [if_pos hc];refine ⟨fun b hb => ?_,fun h=>by cases h⟩;obtain rfl:=AI hb;have e1:Int.tmod (IntKind.wrap .i64 (st+i)) (g.length:Int)=(st+i) % (g.length:Int):=by
   rw [wrap64_in (n:=st+i) (by omega) (by omega),Int.tmod_eq_emod_of_nonneg (by omega)]
  rw [e1,wrap64_in (n:=i+1) (by omega) (by omega)];have q1:=Int.emod_nonneg (st+i) (b:=(g.length:Int)) (by omega);have q2:=Int.emod_lt_of_pos (st+i) (b:=(g.length:Int)) (by omega);exact aE (c9 hc) (tev_else (by rw [ajH];omega) (aE (by simp only [AS,By];omega) (aE (by simp only [By];omega) (aE (by (first | with_reducible rfl | assumption | (simp only [eP,fj,AS,ajW,Bool.and_eq_false_iff,Bool.or_eq_false_iff,By,ajO,beq_iff_eq,bne_iff_ne,ajH,bne_eq_false_iff_eq,Bool.not_eq_true',Bool.not_eq_false',ne_eq,Bool.true_and,Bool.and_true,Bool.false_and,Bool.and_false,Bool.true_or,Bool.or_true,Bool.not_true,Bool.not_false,Bool.cond_true,Bool.cond_false,true_and,and_true];first | done | omega))) (aE (by (first | with_reducible rfl | assumption | (simp only [eP,fj,AS,ajW,Bool.and_eq_false_iff,Bool.or_eq_false_iff,By,ajO,beq_iff_eq,bne_iff_ne,ajH,bne_eq_false_iff_eq,Bool.not_eq_true',Bool.not_eq_false',ne_eq,Bool.true_and,Bool.and_true,Bool.false_and,Bool.and_false,Bool.true_or,Bool.or_true,Bool.not_true,Bool.not_false,Bool.cond_true,Bool.cond_false,true_and,and_true];first | done | omega))) rfl)))))
 ·rw [if_neg hc];refine ⟨fun b hb=>(by cases hb),fun _ r hr => ?_⟩;obtain rfl:=AI hr;exact ⟨by simp,tev_else (BY hc) rfl⟩
def Kd:List (Nat × bE):=[(6,jS [0,7,9,26,27] SH 1000 1001 45 DM Dl DN ac8)]
theorem afh:findL Kd 6=some (jS [0,7,9,26,27] SH 1000 1001 45 DM Dl DN ac8):=rfl
theorem hreg:aq wh1=some 6:=by kernel_rfl
theorem Pn:∀ a∈cg (codeOf Tryz.prog 98),∀ sp,bZ Kd a=some sp->aI P7 a sp:=by
 have e:cg (codeOf Tryz.prog 98)=[wh1]:=by kernel_rfl
 rw [e];intro a ha;rcases ajI.1 ha with h | ha
 ·rw [h];exact fb hreg afh aay
 ·cases ha
def whL (g:List Int) (st:Int) (n:Nat):List Int:=(List.range n).map fun (q:Nat)=>gI g ((st+q) % g.length)
theorem ma (g:List Int) (st:Int) (n:Nat):(whL g st n).length=n:=by simp [whL]
theorem Q0 (g:List Int) (st:Int) (n q:Nat) (h:q<n):(whL g st n)[q]?=some (gI g ((st+q) % g.length)):=by simp [whL,h]
theorem endH {p:PH} {l:List Int} (h:Dl p ⟨l,0⟩=true):cD (DN p) ⟨l,0⟩=⟨whL p.g p.st p.j,p.n⟩:=by
 obtain ⟨h1,h2,h3⟩:=cR (stH p) h;have h4:=h3 (fun a=>∀ q:Nat,(q:Int)<a.i->a.l[q]?=some (elH p q)) (fun q hq=>by dsimp only at hq;omega) fun a b hi hq e=>by
  obtain ⟨m,i⟩:=a;simp only [Dl,AS,By] at hi;unfold DN at e;split at e
  ·rename_i hc;obtain rfl:=AI e;dsimp only at hc hq ⊢;intro q hq';by_cases hqi:(q:Int)=i
   ·subst hqi;rw [Nat.zero_add,Int.toNat_natCast,List.getElem?_set_self (by omega)]
   ·rw [List.getElem?_set_ne (by omega)];exact hq q (by omega)
  ·cases e
 generalize cD (DN p) ⟨l,0⟩=E at *
 obtain ⟨m,i⟩:=E;simp only [Dl,AS,By] at h1;unfold DN at h2;split at h2
 ·cases h2
 ·rename_i hc;dsimp only at hc h4;have hi:i=p.n:=by omega
  subst hi;congr 1;apply List.ext_getElem?;intro q;by_cases hq:q<p.j
  ·rw [h4 q (by omega),Q0 _ _ _ _ hq];unfold elH;rw [show (p.k:Int)=p.g.length by omega]
  ·rw [List.getElem?_eq_none (by omega),List.getElem?_eq_none (by rw [ma];omega)]
def tF {α:Type} (args:List V) (f:List Int->Int->Int->T α):T α :=
 match args with
 | [.orow t [.int .i64] l,.s (.int .i64 m),.s (.int .i64 r)]=>if t=3 then f l m r else .fail
 | _=>.fail
theorem lW {α:Type} {args:List V} {f:List Int->Int->Int->T α} {r:α} (e:(tF args f).eval=some r):∃ l m z,args=[ori l,iv m,iv z]/\(f l m z).eval=some r:=by
 unfold tF at e;split at e
 ·split at e
  ·rename_i ht;subst ht;exact ⟨_,_,_,rfl,e⟩
  ·cases e
 ·cases e
def MM:Eng.Spec:=fun args=>tF args fun l m r=>.ite none (decide (l.length<=1000)&&decide (r<=9223372036854775807)) (.ret (ori (whL l (kY l.length m r) (lenF l.length m).toNat))) .fail
def pH (l:List Int) (m r:Int):PH:=⟨l,l.length,kY l.length m r,lenF l.length m,(lenF l.length m).toNat,((lenF l.length m).toNat:Nat)⟩
theorem FF (l:List Int) (m r:Int):T.anon (aM P7 (bZ Kd) 98 [ori l,iv m,iv r])=T.ite none (decide (0<=(l.length:Int))&&decide ((l.length:Int)<=1000)&&decide (r<=9223372036854775807)) (T.ite none ((l.length:Int)==0) (T.ite none (decide ((0:Nat)=([]:List Int).length)) (.ret (ori [])) .fail)
  (T.ite none (decide (0<=lenF l.length m)&&(decide (lenF l.length m<=lenF l.length m)&&decide (lenF l.length m<=1000000))) (T.ite none (Dl (pH l m r) ⟨List.replicate (lenF l.length m).toNat 0,0⟩)
   (T.ite none (decide ((lenF l.length m).toNat=(cD (DN (pH l m r)) ⟨List.replicate (lenF l.length m).toNat 0,0⟩).l.length)) (.ret (ori (cD (DN (pH l m r)) ⟨List.replicate (lenF l.length m).toNat 0,0⟩).l)) .fail) .fail) .fail)) .fail:=by kernel_rfl
theorem aO {c:Bool} {x:T V} {v:V} (h:(T.ite none c x .fail).eval=some v):c=true/\x.eval=some v:=by
 cases c
 ·cases h
 ·exact ⟨rfl,h⟩
theorem DU:aj Tryz.prog 98 MM:=by
 refine (dn (Λ:=bZ Kd) XF mixed Tryz.func98 (by kernel_rfl) (by kernel_rfl) Pn).aiY fun args v h => ?_;obtain ⟨l,m,r,rfl,h1⟩:=lW (show (tF args _).eval=some v from h);clear h;obtain ⟨hk,h⟩:=aO h1;obtain rfl:=AI h;simp only [AS,By] at hk;rw [<- T.aiW,FF];refine aE (by simp only [AS,By];omega) ?_;by_cases q:l.length=0
 ·have hl:l=[]:=List.length_eq_zero_iff.1 q;subst hl;have e:(lenF (([]:List Int).length:Int) m).toNat=0:=by
   unfold lenF;have:de (([]:List Int).length:Int)=0:=rfl;rw [this];split
   ·split<;>omega
   ·rfl
  rw [e];exact aE rfl (aE rfl rfl)
 ·obtain ⟨b1,b2,b3⟩:=lS (n:=(l.length:Int)) (by omega) m;have c1:0<=kY l.length m r:=Int.emod_nonneg _ (by omega);have c2:kY l.length m r<l.length:=Int.emod_lt_of_pos _ (by omega);have hi:Dl (pH l m r) ⟨List.replicate (lenF l.length m).toNat 0,0⟩=true:=by
   unfold pH;simp only [Dl,AS,By,List.length_replicate];exact ⟨⟨⟨⟨⟨⟨⟨⟨⟨trivial,by omega⟩,by omega⟩,trivial⟩,trivial⟩,by omega⟩,by omega⟩,by omega⟩,c1⟩,c2⟩
  refine tev_else (by rw [ajH];omega) (aE (by simp only [AS,By];omega) (aE hi ?_));rw [endH hi];refine aE ?_ rfl;simp only [By];rw [ma];rfl
end Go.Proofs.YtefkegpbpaoadaaGreatDoor.Sam
end
