import Derived.Test.YtgpgppncblldiaaGreatDoorGJ
set_option linter.unusedVariables false
set_option linter.unusedSimpArgs false
set_option maxRecDepth 100000
noncomputable section
namespace Go.Proofs.YtgpgppncblldiaaGreatDoor.Conf
open Go.Eng Go.RowKit Mil
def inC (c:Cf):Bool:=inR c.target&&inR c.util
theorem sV (n:Int):inR (bZ n)=true:=bV.2 (ju n)
theorem I2 (c:Cf):inR (KI c)=true:=by
 have:=ju (mulI c.target c.util);rw [bV];unfold KI;omega
theorem cv (a:Int) {lo hi:Int} (h:lo<=hi):lo<=aE a lo hi/\aE a lo hi<=hi:=by unfold aE;split<;>(try split)<;>omega
theorem ur {n:Int} (h1 : -9223372036854775808<=n) (h2:n<=9223372036854775807):inR n=true:=bV.2 ⟨h1,h2⟩
def cI (g:Cf->Int->Bool) (f:Cf->Int->V):Eng.Spec
 | [x,.s (.int .i64 a)]=>gZ x fun c=>.ite none (g c a) (.ret (f c a)) .fail
 | _=>.fail
theorem an.cI {P:Program} {n:Nat} {sp:Eng.Spec} {g:Cf->Int->Bool} {f:Cf->Int->V} (h:an P n sp) (hf:∀ c a,flat (f c a)=true)
  (he:∀ c a,g c a=true->∃ v,(sp [iP c,bU a]).eval=some v/\flat v=true/\v.den nu0=(f c a).den nu0):an P n (Conf.cI g f):=by
 refine h.aex fun args v hfl h => ?_;clear hfl;unfold Conf.cI at h;split at h
 ·rename_i x a;obtain ⟨c,rfl,h⟩:=cy h;obtain ⟨hc,h⟩:=aJ h;obtain rfl:=AI h;obtain ⟨v,h1,h2,h3⟩:=he c a hc;exact ⟨v,h1,⟨h2,hf c a⟩,h3⟩
 ·cases h
def cII (g:Cf->Int->Int->Bool) (f:Cf->Int->Int->V):Eng.Spec
 | [x,.s (.int .i64 a),.s (.int .i64 b)]=>gZ x fun c=>.ite none (g c a b) (.ret (f c a b)) .fail
 | _=>.fail
theorem an.cII {P:Program} {n:Nat} {sp:Eng.Spec} {g:Cf->Int->Int->Bool} {f:Cf->Int->Int->V} (h:an P n sp) (hf:∀ c a b,flat (f c a b)=true)
  (he:∀ c a b,g c a b=true->∃ v,(sp [iP c,bU a,bU b]).eval=some v/\flat v=true/\v.den nu0=(f c a b).den nu0):an P n (Conf.cII g f):=by
 refine h.aex fun args v hfl h => ?_;clear hfl;unfold Conf.cII at h;split at h
 ·rename_i x a b;obtain ⟨c,rfl,h⟩:=cy h;obtain ⟨hc,h⟩:=aJ h;obtain rfl:=AI h;obtain ⟨v,h1,h2,h3⟩:=he c a b hc;exact ⟨v,h1,⟨h2,hf c a b⟩,h3⟩
 ·cases h
theorem iG {i:Option Nat} {c:Bool} {x y:T V} {v:V} (h:c=true) (h1:x.eval=some v):(T.ite i c x y).eval=some v:=by rw [h];exact h1
def ofC (c:Cf) (m:Int):Int:=if dC c then aE (upV m (KI c)) 0 1000000 else 0
def vw (c:Cf) (w r:Int):Bool:=dC c&&decide (c.threshold*aE r 1 1000000<=aE w 0 1000000*1000)
theorem DQ (c:Cf) (m:Int):0<=ofC c m/\ofC c m<=1000000:=by
 unfold ofC;split
 ·exact cv _ (by omega)
 ·omega
def ofS:Eng.Spec:=cI (fun c a=>inC c&&inR a) fun c a=>bU (ofC c a)
def SW:Eng.Spec:=cII (fun c a b=>inC c) fun c a b=>.s (.bool (vw c a b))
def W1:Cfg:=⟨Tryz.prog,lookG [(16,po),(185,abB)],[],0⟩
theorem aa1:W1.Ok:=Cfg.ok ⟨fz,WU,trivial⟩ trivial
def byS:Eng.Spec:=aK W1 ab 156
theorem ab9:an Tryz.prog 156 byS:=af aa1 mixed Tryz.func156 (by kernel_rfl) (by kernel_rfl)
def W2:Cfg:=⟨Tryz.prog,lookG [(156,byS),(157,upS),(45,oR)],[],0⟩
theorem Wi:W2.Ok:=Cfg.ok ⟨ab9,V5,mZ,trivial⟩ trivial
theorem Ob {c:Cf} {a:Int} (h:(inC c&&inR a)=true):(T.ite none (!dC c) (T.ret (bU 0)) (T.ite none (inR c.target&&inR c.util) (T.ite none (inR a&&inR (KI c)) (T.ret (bU (aE (upV a (KI c)) 0 1000000))) T.fail) T.fail)).eval=some (bU (ofC c a)):=by
 rw [AS] at h;refine bu (fun h1 => ?_) fun h1=>iG h.1 (iG (by rw [h.2,I2];rfl) ?_)
 ·exact jN (by unfold ofC;rw [Bool.not_eq_true'] at h1;rw [h1];rfl)
 ·exact jN (by unfold ofC;rw [Bool.not_eq_false'] at h1;rw [h1];rfl)
theorem acu:an Tryz.prog 121 ofS:=by
 refine an.cI (af Wi mixed Tryz.func121 (by kernel_rfl) (by kernel_rfl)) (fun _ _=>rfl) fun c a h=>⟨_,?_,rfl,rfl⟩
 have e:T.anon (aK W2 ab 121 [iP c,bU a])=T.ite none (!dC c) (T.ret (bU 0)) (T.ite none (inR c.target&&inR c.util) (T.ite none (inR a&&inR (KI c)) (T.ret (bU (aE (upV a (KI c)) 0 1000000))) T.fail) T.fail):=by kernel_rfl
 rw [<- T.aer,e];exact Ob h
theorem Lk {c:Cf} (h:dC c=true) (w r:Int):IntKind.wrap .i64 (c.threshold*aE r 1 1000000)=c.threshold*aE r 1 1000000/\IntKind.wrap .i64 (aE w 0 1000000*1000)=aE w 0 1000000*1000:=by
 have h1:=(may_of h).threshold;have h2:=cv r (lo:=1) (hi:=1000000) (by omega);have h3:=cv w (lo:=0) (hi:=1000000) (by omega);have h4:c.threshold*aE r 1 1000000<=10000*1000000:=Int.mul_le_mul h1.2 h2.2 (by omega) (by omega);have h5:0<=c.threshold*aE r 1 1000000:=Int.mul_nonneg (by omega) (by omega);exact ⟨wrap64_in (by omega) (by omega),wrap64_in (by omega) (by omega)⟩
theorem OW:an Tryz.prog 123 SW:=by
 refine an.cII (af Wi mixed Tryz.func123 (by kernel_rfl) (by kernel_rfl)) (fun _ _ _=>rfl) fun c a b h => ?_;have e:T.anon (aK W2 ab 123 [iP c,bU a,bU b])=T.ite none (!dC c) (T.ret V.ff) (T.ite none (inR c.target&&inR c.util) (T.ret (V.s (S.bool (decide (IntKind.wrap .i64 (c.threshold*aE b 1 1000000)<=IntKind.wrap .i64 (aE a 0 1000000*1000)))))) T.fail):=by kernel_rfl
 rw [<- T.aer,e];cases hm:dC c
 ·exact ⟨.ff,rfl,rfl,by unfold vw;rw [hm];rfl⟩
 ·refine ⟨.s (.bool (vw c a b)),bu (fun h1=>by cases h1) fun _=>iG h ?_,rfl,rfl⟩;exact QR (by unfold vw;rw [hm,(Lk hm a b).1,(Lk hm a b).2];rfl)
theorem Ap {x y g:Bool} (h:g=true):(bif (x&&y) then g else true)=true:=by rw [h];cases x&&y<;>rfl
theorem Ng (v:Int) {p:Int} (hp:0<p):v<=upI v p*p/\upI v p*p<v+p:=by
 unfold upI;rw [Int.fdiv_eq_ediv_of_nonneg _ (by omega)];have h1:=Int.ediv_mul_le (-v) (b:=p) (by omega);have h2:=Int.lt_ediv_add_one_mul_self (-v) hp;rw [Int.neg_mul];rw [Int.add_mul] at h2;omega
theorem uS {v p:Int} (hv:0<=v) (hp:0<p):0<=upI v p/\upI v p<=v:=by
 obtain ⟨h1,h2⟩:=Ng v hp;constructor
 ·by_cases h:upI v p<0
  ·have:upI v p*p<0:=Int.mul_neg_of_neg_of_pos h hp;omega
  ·omega
 ·by_cases h:v<upI v p
  ·have h3:(v+1)*p<=upI v p*p:=Int.mul_le_mul_of_nonneg_right (by omega) (by omega);have h4:v*1<=v*p:=Int.mul_le_mul_of_nonneg_left (by omega) hv;rw [Int.add_mul] at h3;omega
  ·omega
def Zy (q:Int):Int:=if 1000000<q then 1000000 else q
def zH (c:Cf) (a:Int):Int:=if dC c then Zy (upI (c.up*aE a 1 1000000) 1000) else 0
def yQ (c:Cf) (a:Int):Int:=if dC c then 1000*aE a 0 1000000 / c.down else 0
def abT (lo w hi:Int):Int:=if hi<(if lo>w then lo else w) then hi else (if lo>w then lo else w)
def dW (c:Cf) (w a:Int):Int:=if dC c then abT (yQ c a) w (zH c a) else 0
theorem BD (a:Int):(if 1>aE a 0 1000000 then 1 else aE a 0 1000000)=aE a 1 1000000:=by
 unfold aE;repeat' split
 all_goals omega
theorem upR {c:Cf} (h:dC c=true) (a:Int):IntKind.wrap .i64 (c.up*aE a 1 1000000)=c.up*aE a 1 1000000/\0<=c.up*aE a 1 1000000/\c.up*aE a 1 1000000<=1000000000000:=by
 have h1:=(may_of h).up;have h2:=cv a (lo:=1) (hi:=1000000) (by omega);have h4:c.up*aE a 1 1000000<=1000000*1000000:=Int.mul_le_mul h1.2 h2.2 (by omega) (by omega);have h5:0<=c.up*aE a 1 1000000:=Int.mul_nonneg (by omega) (by omega);exact ⟨wrap64_in (by omega) (by omega),h5,by omega⟩
theorem abP {x:Int} (h1:0<=x) (h2:x<=1000000000000):upV x 1000=upI x 1000:=by
 have:=uS h1 (show (0:Int)<1000 by decide);unfold upV;rw [if_neg (by decide),(fh _ (by omega) (by omega)).1]
theorem dnR {c:Cf} (h:dC c=true) (a:Int):IntKind.wrap .i64 (1000*aE a 0 1000000)=1000*aE a 0 1000000/\dnV (1000*aE a 0 1000000) c.down=1000*aE a 0 1000000 / c.down/\0<=1000*aE a 0 1000000 / c.down/\1000*aE a 0 1000000 / c.down<=1000*aE a 0 1000000:=by
 have h1:=(may_of h).down;have h2:=cv a (lo:=0) (hi:=1000000) (by omega);have h3:=Int.ediv_nonneg (a:=1000*aE a 0 1000000) (b:=c.down) (by omega) (by omega);have h4:=Int.ediv_le_self (a:=1000*aE a 0 1000000) c.down (by omega);refine ⟨wrap64_in (by omega) (by omega),?_,h3,h4⟩;unfold dnV dnI;rw [if_neg (by omega),Int.fdiv_eq_ediv_of_nonneg _ (by omega),(fh _ (by omega) (by omega)).1]
def Dv:Eng.Spec:=cII (fun _ _ _=>true) fun c w a=>bU (dW c w a)
def Q1:Cfg:=⟨Tryz.prog,lookG [(16,po),(157,upS),(213,dnS),(45,oR)],[],0⟩
theorem pf:Q1.Ok:=Cfg.ok ⟨fz,V5,abR,mZ,trivial⟩ trivial
def ad3:Eng.Spec:=aK Q1 ab 190
def rwS:Eng.Spec:=aK Q1 ab 191
def rlS:Eng.Spec:=aK Q1 ab 192
def rmS:Eng.Spec:=aK Q1 ab 193
theorem SK:an Tryz.prog 190 ad3:=af pf mixed Tryz.func190 (by kernel_rfl) (by kernel_rfl)
theorem aaN:an Tryz.prog 191 rwS:=af pf mixed Tryz.func191 (by kernel_rfl) (by kernel_rfl)
theorem abd:an Tryz.prog 192 rlS:=af pf mixed Tryz.func192 (by kernel_rfl) (by kernel_rfl)
theorem ZQ:an Tryz.prog 193 rmS:=af pf mixed Tryz.func193 (by kernel_rfl) (by kernel_rfl)
def Q2:Cfg:=⟨Tryz.prog,lookG [(190,ad3),(191,rwS),(192,rlS),(193,rmS)],[],0⟩
theorem BF:Q2.Ok:=Cfg.ok ⟨SK,aaN,abd,ZQ,trivial⟩ trivial
theorem L2 {c:Cf} (hm:dC c=true) (a:Int):(if 1000000<upV (IntKind.wrap .i64 (c.up*aE a 1 1000000)) 1000 then 1000000 else upV (IntKind.wrap .i64 (c.up*aE a 1 1000000)) 1000)=zH c a:=by
 obtain ⟨h1,h2,h3⟩:=upR hm a;rw [h1,abP h2 h3];unfold zH Zy;rw [if_pos hm]
theorem NT {c:Cf} (hm:dC c=true) (a:Int):(inR (IntKind.wrap .i64 (c.up*aE a 1 1000000))&&inR 1000)=true:=by
 obtain ⟨h1,h2,h3⟩:=upR hm a;rw [h1,ur (by omega) (by omega)];rfl
theorem HF {c:Cf} (hm:dC c=true) (a:Int):(inR (IntKind.wrap .i64 (1000*aE a 0 1000000))&&inR c.down)=true:=by
 obtain ⟨h1,-⟩:=dnR hm a;have h2:=cv a (lo:=0) (hi:=1000000) (by omega);have h3:=(may_of hm).down;rw [h1,ur (by omega) (by omega),ur (by omega) (by omega)];rfl
theorem Ij {c:Cf} (hm:dC c=true) (a:Int):dnV (IntKind.wrap .i64 (1000*aE a 0 1000000)) c.down=yQ c a:=by
 obtain ⟨h1,h2,-⟩:=dnR hm a;rw [h1,h2];unfold yQ;rw [if_pos hm]
theorem uw:an Tryz.prog 163 Dv:=by
 refine an.cII (af BF mixed Tryz.func163 (by kernel_rfl) (by kernel_rfl)) (fun _ _ _=>rfl) fun c w a _=>⟨_,?_,rfl,rfl⟩
 have e:T.anon (aK Q2 ab 163 [iP c,bU w,bU a])=T.ite none (!dC c) (T.ret (bU 0)) (T.ite none (inR (IntKind.wrap .i64 (1000*aE a 0 1000000))&&inR c.down) (T.ite none (inR (IntKind.wrap .i64 (c.up*if 1>aE a 0 1000000 then 1 else aE a 0 1000000))&&inR 1000)
  (T.ret (bU (abT (dnV (IntKind.wrap .i64 (1000*aE a 0 1000000)) c.down) w (if 1000000<upV (IntKind.wrap .i64 (c.up*if 1>aE a 0 1000000 then 1 else aE a 0 1000000)) 1000 then 1000000 else upV (IntKind.wrap .i64 (c.up*if 1>aE a 0 1000000 then 1 else aE a 0 1000000)) 1000)))) T.fail) T.fail):=by kernel_rfl
 rw [<- T.aer,e,BD];refine bu (fun h1 => ?_) fun h1 => ?_
 ·exact jN (by unfold dW;rw [Bool.not_eq_true'] at h1;rw [h1];rfl)
 ·rw [Bool.not_eq_false'] at h1;refine iG (HF h1 a) (iG (NT h1 a) (jN ?_));rw [Ij h1,L2 h1];unfold dW;rw [if_pos h1]
def x6 (c:Cf) (r q:Int):Int:=if dC c then (if c.burst = -1000 then -1000 else bZ (bZ (aE r 0 1000000*c.limit*1000 - q) - c.burst)) else 0
def proxyB (c:Cf) (r e:Int):Bool := !dC c||c.burst == -1000||decide (r<1)||(decide (0<c.burst)&&decide (e<0))
def ach:Eng.Spec:=cII (fun _ _ q=>inR q) fun c r q=>bU (x6 c r q)
def Dp:Eng.Spec:=cII (fun _ _ _=>true) fun c r e=>.s (.bool (proxyB c r e))
def A1:Cfg:=⟨Tryz.prog,lookG [(16,po),(46,aaT),(45,oR)],[],0⟩
theorem ac7:A1.Ok:=Cfg.ok ⟨fz,Kv,mZ,trivial⟩ trivial
def LC:Eng.Spec:=aK A1 ab 44
theorem H9:an Tryz.prog 44 LC:=af ac7 mixed Tryz.func44 (by kernel_rfl) (by kernel_rfl)
def A2:Cfg:=⟨Tryz.prog,lookG [(46,aaT),(45,oR),(44,LC)],[],0⟩
theorem Va:A2.Ok:=Cfg.ok ⟨Kv,mZ,H9,trivial⟩ trivial
def ace (k:Int->Int) (c:Cf) (r q:Int):T V :=
 T.ite none (!dC c) (T.ret (bU 0)) (T.ite none (c.burst == -1000) (T.ret (bU (-1000))) (T.ite none (inR (IntKind.wrap .i64 (IntKind.wrap .i64 (k r*c.limit)*1000))&&inR q) (T.ite none (inR (bZ (IntKind.wrap .i64 (IntKind.wrap .i64 (k r*c.limit)*1000) - q))&&inR c.burst)
  (T.ret (bU (bZ (bZ (IntKind.wrap .i64 (IntKind.wrap .i64 (k r*c.limit)*1000) - q) - c.burst)))) T.fail) T.fail))
theorem O8 {c:Cf} (h:c.May) (r:Int):IntKind.wrap .i64 (IntKind.wrap .i64 (aE r 0 1000000*c.limit)*1000)=aE r 0 1000000*c.limit*1000/\0<=aE r 0 1000000*c.limit/\aE r 0 1000000*c.limit<=1000000000:=by
 have h1:=h.limit;have h2:=cv r (lo:=0) (hi:=1000000) (by omega);have h4:aE r 0 1000000*c.limit<=1000000*1000:=Int.mul_le_mul h2.2 h1.2 (by omega) (by omega);have h5:0<=aE r 0 1000000*c.limit:=Int.mul_nonneg (by omega) (by omega);rw [wrap64_in (n:=aE r 0 1000000*c.limit) (by omega) (by omega),wrap64_in (by omega) (by omega)];omega
theorem FO {c:Cf} (h:c.May) : -1000<=c.burst/\c.burst<=100000000:=by have:=h.burst;omega
theorem Cc {k:Int->Int} (hk:∀ r,k r=aE r 0 1000000) {c:Cf} {r q:Int} (hq:inR q=true):(ace k c r q).eval=some (bU (x6 c r q)):=by
 unfold ace;rw [hk];refine bu (fun h => ?_) fun h=>bu (fun h2 => ?_) fun h2 => ?_
 ·rw [Bool.not_eq_true'] at h;exact jN (by unfold x6;rw [h];rfl)
 ·rw [Bool.not_eq_false'] at h;rw [beq_iff_eq] at h2;exact jN (by unfold x6;rw [if_pos h,if_pos h2])
 ·rw [Bool.not_eq_false'] at h;rw [afb] at h2;obtain ⟨e,r1,r2⟩:=O8 (may_of h) r;have hb:=FO (may_of h);rw [e];refine iG (by rw [ur (by omega) (by omega),hq];rfl) (iG (by rw [sV,ur (by omega) (by omega)];rfl) (jN ?_));unfold x6;rw [if_pos h,if_neg h2]
theorem Lc:an Tryz.prog 24 ach:=by
 refine an.cII (af Va mixed Tryz.func24 (by kernel_rfl) (by kernel_rfl)) (fun _ _ _=>rfl) fun c r q h=>⟨_,?_,rfl,rfl⟩
 have e:T.anon (aK A2 ab 24 [iP c,bU r,bU q])=ace (fun r=>aE r 0 1000000) c r q:=by kernel_rfl
 rw [<- T.aer,e];exact Cc (fun _=>rfl) h
theorem yP:an Tryz.prog 23 Dp:=by
 refine an.cII (af Va mixed Tryz.func23 (by kernel_rfl) (by kernel_rfl)) (fun _ _ _=>rfl) fun c r q h => ?_;have e:T.anon (aK A2 ab 23 [iP c,bU r,bU q])=T.ite none (!dC c) (T.ret V.tt) (T.ite none (c.burst == -1000) (T.ret V.tt) (T.ret (V.s (S.bool (bif decide (r<1) then true else bif decide (0<c.burst) then decide (q<0) else false))))):=by kernel_rfl
 rw [<- T.aer,e];unfold proxyB;cases h1 : !dC c
 ·cases h2:c.burst == -1000
  ·exact ⟨_,rfl,rfl,by simp [V.den,S.den,qI,nG]⟩
  ·exact ⟨_,rfl,rfl,by simp [V.den,S.den]⟩
 ·exact ⟨_,rfl,rfl,by simp [V.den,S.den]⟩
def bv:V->V
 | .tt=>.s (.bool true)
 | .ff=>.s (.bool false)
 | v=>v
theorem JJ {n:Nat} {w:World} {v:V} {x:Value} (h:iu n w v x):iu n w (bv v) x:=by cases v<;>exact h
theorem QW {v:V}:fF (bv v)=fF v:=by cases v<;>rfl
theorem tH {n:Nat} {w:World}:∀ {l:List V} {xs:List Value},jQ n w l xs->jQ n w (l.map bv) xs
 | [],[],_=>trivial
 | v::r,x::xs,h=>⟨JJ h.1,tH h.2⟩
 | [],_::_,h=>h.elim
 | _::_,[],h=>h.elim
theorem an.bv {P:Program} {f:Nat} {sp:Eng.Spec} (h:an P f sp):an P f (fun args=>sp (args.map Conf.bv)) :=
 ⟨h.body,fun args v xs w hG ha he hr hh=>h.calls (args.map Conf.bv) v xs w hG (by
  unfold gS at *
  rw [List.all_map,ae9] at *
  intro x hx;show fF (Conf.bv x)=true;rw [QW];exact ha x hx) he hr (tH hh)⟩
def lS (s m:Int):V:=.agg [bU s,bU m]
structure Md where
 since:Int
 most:Int
def Md.v (m:Md):V:=lS m.since m.most
def wS (c:Cf) (m:Md) (n:Int) (b:Bool):Md :=
 if !dC c||decide (n<0)||decide (1099511627776<n) then m else if b then ⟨n,if m.since<0 then 0 else m.most⟩ else if m.since<0 then m else if c.stable<=n - m.since then ⟨-1,0⟩ else m
def keepA (m:Md) (w:Int):Md:=if m.since<0 then m else ⟨m.since,if w>m.most then w else m.most⟩
def keepW (m:Md) (w:Int):Int:=if m.since<0 then w else if w>m.most then w else m.most
def Eo:Eng.Spec
 | [x,.agg [.s (.int .i64 s),.s (.int .i64 m)],.s (.int .i64 n),.s (.bool b)]=>gZ x fun c=>.ite none (inR s&&inR n) (.ret (wS c ⟨s,m⟩ n b).v) .fail
 | _=>.fail
def SB:Eng.Spec:=fun args=>Eo (args.map bv)
def zM:Eng.Spec
 | [.agg [.s (.int .i64 s),.s (.int .i64 m)],.s (.int .i64 w)]=>.ret (.tup [(keepA ⟨s,m⟩ w).v,bU (keepW ⟨s,m⟩ w)])
 | _=>.fail
def isS:Eng.Spec
 | [.agg [.s (.int .i64 s),.s (.int .i64 m)]]=>.ret (.s (.bool (decide (0<=s))))
 | _=>.fail
def ZV:Eng.Spec:=aK C0 ab 159
theorem Lh:an Tryz.prog 159 ZV:=af jZ mixed Tryz.func159 (by kernel_rfl) (by kernel_rfl)
def IB:Eng.Spec
 | []=>.ret (lS (-1) 0)
 | _=>.fail
theorem DB:an Tryz.prog 41 IB:=by
 refine (af jZ mixed Tryz.func41 (by kernel_rfl) (by kernel_rfl)).aex fun args v hfl h => ?_;clear hfl;unfold IB at h;split at h
 ·obtain rfl:=AI h;have e:aK C0 ab 41 []=.ret (lS (-1) 0):=by kernel_rfl
  rw [e];exact ⟨_,rfl,⟨rfl,rfl⟩,rfl⟩
 ·cases h
def A4:Cfg:=⟨Tryz.prog,lookG [(159,ZV)],[],0⟩
theorem PZ:A4.Ok:=Cfg.ok ⟨Lh,trivial⟩ trivial
def adZ:Eng.Spec:=aK A4 ab 158
theorem Wr:an Tryz.prog 158 adZ:=af PZ mixed Tryz.func158 (by kernel_rfl) (by kernel_rfl)
def A5:Cfg:=⟨Tryz.prog,lookG [(16,po),(159,ZV),(41,IB),(158,adZ)],[],0⟩
theorem aap:A5.Ok:=Cfg.ok ⟨fz,Lh,DB,Wr,trivial⟩ trivial
theorem TI:an Tryz.prog 126 isS:=by
 refine (af PZ mixed Tryz.func126 (by kernel_rfl) (by kernel_rfl)).aex fun args v hfl h => ?_;clear hfl;unfold isS at h;split at h
 ·rename_i s m;obtain rfl:=AI h;have e:T.anon (aK A4 ab 126 [lS s m])=.ite none (decide (s<0)) (.ret .ff) (.ret .tt):=by kernel_rfl
  rw [<- T.aer,show aK A4 ab 126 [.agg [.s (.int .i64 s),.s (.int .i64 m)]]=aK A4 ab 126 [lS s m] from rfl,e];by_cases hs:s<0
  ·rw [sh hs];exact ⟨_,rfl,⟨rfl,rfl⟩,by rw [By (by omega)];rfl⟩
  ·rw [By hs];exact ⟨_,rfl,⟨rfl,rfl⟩,by rw [sh (by omega)];rfl⟩
 ·cases h
theorem EO {i:Md} {a b:Int} (h1:a=i.since) (h2:b=i.most):(T.ret (V.agg [V.s (.int .i64 a),V.s (.int .i64 b)])).eval=some i.v:=by rw [h1,h2];rfl
theorem Pq:an Tryz.prog 122 SB:=by
 refine an.bv (sp:=Eo) ?_;refine (af aap mixed Tryz.func122 (by kernel_rfl) (by kernel_rfl)).aex fun args v hfl h => ?_;clear hfl;unfold Eo at h;split at h
 ·rename_i x s m n b;obtain ⟨c,rfl,h⟩:=cy h;obtain ⟨hc,h⟩:=aJ h;obtain rfl:=AI h;refine ⟨_,?_,⟨rfl,rfl⟩,rfl⟩
  have e:T.anon (aK A5 ab 122 [iP c,.agg [.s (.int .i64 s),.s (.int .i64 m)],.s (.int .i64 n),.s (.bool b)])=T.ite none (bif bif !dC c then true else decide (n<0) then true else decide (1099511627776<n)) (.ret (lS s m))
   (T.ite none b (T.ite none (decide (s<0)) (.ret (lS n 0)) (.ret (lS n m))) (T.ite none (decide (s<0)) (.ret (lS s m)) (T.ite none (decide (c.stable<=IntKind.wrap .i64 (n - s))) (.ret (lS (-1) 0)) (.ret (lS s m))))):=by kernel_rfl
  rw [<- T.aer,e];simp only [AS,bV] at hc;unfold wS;simp only [nG];refine bu (fun h1 => ?_) fun h1 => ?_
  ·rw [if_pos h1];rfl
  ·rw [if_neg (by simp [h1])];have hn:0<=n/\n<=1099511627776:=by simp only [Bool.or_eq_false_iff,afi] at h1;omega
   refine bu (fun h2 => ?_) fun h2 => ?_
   ·rw [h2];refine bu (fun h3 => ?_) fun h3 => ?_<;>simp only [AT,afi] at h3
    ·exact EO rfl (by simp [h3])
    ·exact EO rfl (by simp [h3])
   ·rw [h2];refine bu (fun h3 => ?_) fun h3=>bu (fun h4 => ?_) fun h4 => ?_<;>simp only [AT,afi] at h3
    ·simp only [h3,if_true,Bool.false_eq_true,if_false];rfl
    ·rw [wrap64_in (by omega) (by omega),AT] at h4;simp only [h3,h4,if_true,Bool.false_eq_true,if_false];rfl
    ·rw [wrap64_in (by omega) (by omega),afi] at h4;simp only [h3,h4,Bool.false_eq_true,if_false];rfl
 ·cases h
theorem QI:an Tryz.prog 161 zM:=by
 refine (af PZ mixed Tryz.func161 (by kernel_rfl) (by kernel_rfl)).aex fun args v hfl h => ?_;clear hfl;unfold zM at h;split at h
 ·rename_i s m n;obtain rfl:=AI h;refine ⟨_,?_,⟨rfl,rfl⟩,rfl⟩;have e:T.anon (aK A4 ab 161 [.agg [.s (.int .i64 s),.s (.int .i64 m)],.s (.int .i64 n)])=T.ite none (decide (s<0)) (.ret (.tup [lS s m,bU n])) (.ret (.tup [lS s (if n>m then n else m),bU (if n>m then n else m)])):=by kernel_rfl
  rw [<- T.aer,e];unfold keepA keepW;by_cases hs:s<0
  ·rw [sh hs,if_pos hs,if_pos hs];rfl
  ·rw [By hs,if_neg hs,if_neg hs];rfl
 ·cases h
def uC (s n:Int) (b:Bool):Int:=if b then (if s<0 then n else s) else -1
def mayZ (c:Cf) (s n m w b:Int):Bool:=(m==0)&&(w==0)&&(b==0)&&decide (0<=s)&&dC c&&(c.min==0)&&decide (s<=n)&&decide (c.grace<=n - s)
def sa (c:Cf) (s n want have_ m w b:Int):Int:=if 0<want then want else if ((have_==0)&&(w==0))||mayZ c s n m w b then 0 else 1
def stV (s:Int):V:=.agg [bU s]
def xv:Eng.Spec
 | [.agg [.s (.int .i64 s)],.s (.int .i64 n),.s (.bool b)]=>.ret (stV (uC s n b))
 | _=>.fail
def LG:Eng.Spec:=fun args=>xv (args.map bv)
def Mh:Eng.Spec
 | [x,.agg [.s (.int .i64 s)],.s (.int .i64 n),.s (.int .i64 m),.s (.int .i64 w),.s (.int .i64 b)]=>gZ x fun c=>.ite none (inR s&&inR n) (.ret (.s (.bool (mayZ c s n m w b)))) .fail
 | _=>.fail
def E3:Eng.Spec
 | [x,.agg [.s (.int .i64 s)],.s (.int .i64 n),.s (.int .i64 want),.s (.int .i64 hv),.s (.int .i64 m),.s (.int .i64 w),.s (.int .i64 b)]=>gZ x fun c=>.ite none (inR s&&inR n) (.ret (bU (sa c s n want hv m w b))) .fail
 | _=>.fail
def adJ:Eng.Spec:=aK C0 ab 96
theorem Tu:an Tryz.prog 96 adJ:=af jZ mixed Tryz.func96 (by kernel_rfl) (by kernel_rfl)
def grS:Eng.Spec:=aK C0 ab 164
theorem aaC:an Tryz.prog 164 grS:=af jZ mixed Tryz.func164 (by kernel_rfl) (by kernel_rfl)
def NM:Eng.Spec:=aK C0 ab 20
theorem Dx:an Tryz.prog 20 NM:=af jZ mixed Tryz.func20 (by kernel_rfl) (by kernel_rfl)
def Z1:Cfg:=⟨Tryz.prog,lookG [(16,po),(96,adJ),(164,grS),(20,NM)],[],0⟩
theorem TT:Z1.Ok:=Cfg.ok ⟨fz,Tu,aaC,Dx,trivial⟩ trivial
theorem L4 {a b:Int} (h:a=b):(T.ret (V.agg [V.s (.int .i64 a)])).eval=some (stV b):=by rw [h];rfl
theorem G2:an Tryz.prog 73 LG:=by
 refine an.bv (sp:=xv) ?_;refine (af TT mixed Tryz.func73 (by kernel_rfl) (by kernel_rfl)).aex fun args v hfl h => ?_;clear hfl;unfold xv at h;split at h
 ·rename_i s n b;obtain rfl:=AI h;refine ⟨_,?_,⟨rfl,rfl⟩,rfl⟩;have e:T.anon (aK Z1 ab 73 [.agg [.s (.int .i64 s)],.s (.int .i64 n),.s (.bool b)])=T.ite none (!b) (.ret (stV (-1))) (T.ite none (decide (s<0)) (.ret (stV n)) (.ret (stV s))):=by kernel_rfl
  rw [<- T.aer,e];unfold uC;refine bu (fun h => ?_) fun h=>bu (fun h2 => ?_) fun h2 => ?_<;>simp only [Bool.not_eq_true',Bool.not_eq_false',AT,afi] at *
  ·subst h;exact L4 rfl
  ·subst h;exact L4 (by simp [h2])
  ·subst h;exact L4 (by simp [h2])
 ·cases h
theorem BC {c:Cf} {s n m w b:Int} (hs : -9223372036854775808<=s) (hn:n<=9223372036854775807):∃ v,(T.ite none (bif bif m != 0 then true else w != 0 then true else b != 0) (T.ret V.ff) (T.ite none (decide (s<0)) (T.ret V.ff) (T.ret (V.s (.bool (bif bif dC c then c.min==0 else false then bif decide (s<=n) then decide (c.grace<=IntKind.wrap .i64 (n - s)) else false else false)))))).eval=some v/\flat v=true/\v.den nu0=.bool (mayZ c s n m w b):=by
 unfold mayZ;by_cases h1:(bif bif m != 0 then true else w != 0 then true else b != 0)=true
 ·rw [h1];refine ⟨.ff,rfl,rfl,?_⟩;have:((m==0)&&(w==0)&&(b==0))=false:=by
   simp only [nG,afp,bne_iff_ne] at h1;simp only [Bool.and_eq_false_iff,afb];exact h1
  simp only [V.den];rw [this];simp
 ·have h1:(bif bif m != 0 then true else w != 0 then true else b != 0)=false:=by simpa using h1
  have e1:((m==0)&&(w==0)&&(b==0))=true:=by
   simp only [nG,Bool.or_eq_false_iff] at h1;simp only [AS];simpa [bne] using h1
  rw [h1,e1];by_cases h2:s<0
  ·rw [sh h2,By (show ¬ 0<=s by omega)];exact ⟨.ff,rfl,rfl,by simp [V.den]⟩
  ·rw [By h2,sh (show 0<=s by omega)];refine ⟨_,rfl,rfl,?_⟩;simp only [V.den,S.den,qI,Bool.true_and];by_cases h3:s<=n
   ·rw [wrap64_in (n:=n - s) (by omega) (by omega)];simp only [Bool.and_assoc]
   ·rw [By h3];simp
theorem PK:an Tryz.prog 127 Mh:=by
 refine (af TT mixed Tryz.func127 (by kernel_rfl) (by kernel_rfl)).aex fun args v hfl h => ?_;clear hfl;unfold Mh at h;split at h
 ·rename_i x s n m w b;obtain ⟨c,rfl,h⟩:=cy h;obtain ⟨hc,h⟩:=aJ h;obtain rfl:=AI h;simp only [AS,bV] at hc;have e:T.anon (aK Z1 ab 127 [iP c,.agg [.s (.int .i64 s)],.s (.int .i64 n),.s (.int .i64 m),.s (.int .i64 w),.s (.int .i64 b)])=T.ite none (bif bif m != 0 then true else w != 0 then true else b != 0) (T.ret V.ff) (T.ite none (decide (s<0)) (T.ret V.ff) (T.ret (V.s (.bool (bif bif dC c then c.min==0 else false then bif decide (s<=n) then decide (c.grace<=IntKind.wrap .i64 (n - s)) else false else false))))):=by kernel_rfl
  rw [<- T.aer,e];obtain ⟨v,h1,h2,h3⟩:=BC (c:=c) (m:=m) (w:=w) (b:=b) hc.1.1 hc.2.2;exact ⟨v,h1,⟨h2,rfl⟩,h3⟩
 ·cases h
def Z2:Cfg:=⟨Tryz.prog,lookG [(127,Mh)],[],0⟩
theorem abx:Z2.Ok:=Cfg.ok ⟨PK,trivial⟩ trivial
theorem z8 {c:Cf} {s n wa hv m w b:Int} (hg:(inR s&&inR n)=true):(T.ite none (decide (0<wa)) (T.ret (bU wa)) (T.ite none (bif (bif hv==0 then w==0 else false)==false&&true then inR s&&inR n else true) (T.ite none (bif bif hv==0 then w==0 else false then true else mayZ c s n m w b) (T.ret (bU 0)) (T.ret (bU 1))) T.fail)).eval=some (bU (sa c s n wa hv m w b)):=by
 unfold sa;refine bu (fun h => ?_) fun h=>iG (Ap hg) (bu (fun h2 => ?_) fun h2 => ?_)<;>simp only [AT,afi] at h
 ·exact jN (by rw [if_pos h])
 ·rw [nG,qI] at h2;exact jN (by rw [if_neg h,if_pos h2])
 ·rw [nG,qI] at h2;exact jN (by rw [if_neg h,if_neg (by simp [h2])])
theorem Gu:an Tryz.prog 97 E3:=by
 refine (af abx mixed Tryz.func97 (by kernel_rfl) (by kernel_rfl)).aex fun args v hfl h => ?_;clear hfl;unfold E3 at h;split at h
 ·rename_i x s n wa hv m w b;obtain ⟨c,rfl,h⟩:=cy h;obtain ⟨hc,h⟩:=aJ h;obtain rfl:=AI h;refine ⟨_,?_,⟨rfl,rfl⟩,rfl⟩;have e:T.anon (aK Z2 ab 97 [iP c,.agg [.s (.int .i64 s)],.s (.int .i64 n),.s (.int .i64 wa),.s (.int .i64 hv),.s (.int .i64 m),.s (.int .i64 w),.s (.int .i64 b)])=T.ite none (decide (0<wa)) (T.ret (bU wa)) (T.ite none (bif (bif hv==0 then w==0 else false)==false&&true then inR s&&inR n else true) (T.ite none (bif bif hv==0 then w==0 else false then true else mayZ c s n m w b) (T.ret (bU 0)) (T.ret (bU 1))) T.fail):=by kernel_rfl
  rw [<- T.aer,e];exact z8 hc
 ·cases h
end Go.Proofs.YtgpgppncblldiaaGreatDoor.Conf
end
