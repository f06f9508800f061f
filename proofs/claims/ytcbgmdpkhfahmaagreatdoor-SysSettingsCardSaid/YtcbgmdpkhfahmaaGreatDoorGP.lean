import Derived.Test.YtcbgmdpkhfahmaaGreatDoorGJ
set_option linter.unusedVariables false
set_option linter.unusedSimpArgs false
set_option maxRecDepth 100000
noncomputable section
namespace Go.Proofs.YtcbgmdpkhfahmaaGreatDoor.Conf
open Go.Eng Go.RowKit Mil
def inC (c:Cf):Bool:=inR c.target&&inR c.util
theorem q7 (n:Int):inR (bW n)=true:=ca.2 (ju n)
theorem IJ (c:Cf):inR (MO c)=true:=by
 have:=ju (mulI c.target c.util);rw [ca];unfold MO;omega
theorem cC (a:Int) {lo hi:Int} (h:lo<=hi):lo<=aF a lo hi/\aF a lo hi<=hi:=by unfold aF;split<;>(try split)<;>omega
theorem uD {n:Int} (h1 : -9223372036854775808<=n) (h2:n<=9223372036854775807):inR n=true:=ca.2 ⟨h1,h2⟩
def cI (g:Cf->Int->Bool) (f:Cf->Int->V):Eng.Spec
 | [x,.s (.int .i64 a)]=>gP x fun c=>.ite none (g c a) (.ret (f c a)) .fail
 | _=>.fail
theorem ah.cI {P:Program} {n:Nat} {sp:Eng.Spec} {g:Cf->Int->Bool} {f:Cf->Int->V} (h:ah P n sp) (hf:∀ c a,flat (f c a)=true)
  (he:∀ c a,g c a=true->∃ v,(sp [eM c,bY a]).eval=some v/\flat v=true/\v.den nu0=(f c a).den nu0):ah P n (Conf.cI g f):=by
 refine h.air fun args v hfl h => ?_;clear hfl;unfold Conf.cI at h;split at h
 ·rename_i x a;obtain ⟨c,rfl,h⟩:=bJ h;obtain ⟨hc,h⟩:=aM h;obtain rfl:=AI h;obtain ⟨v,h1,h2,h3⟩:=he c a hc;exact ⟨v,h1,⟨h2,hf c a⟩,h3⟩
 ·cases h
def cII (g:Cf->Int->Int->Bool) (f:Cf->Int->Int->V):Eng.Spec
 | [x,.s (.int .i64 a),.s (.int .i64 b)]=>gP x fun c=>.ite none (g c a b) (.ret (f c a b)) .fail
 | _=>.fail
theorem ah.cII {P:Program} {n:Nat} {sp:Eng.Spec} {g:Cf->Int->Int->Bool} {f:Cf->Int->Int->V} (h:ah P n sp) (hf:∀ c a b,flat (f c a b)=true)
  (he:∀ c a b,g c a b=true->∃ v,(sp [eM c,bY a,bY b]).eval=some v/\flat v=true/\v.den nu0=(f c a b).den nu0):ah P n (Conf.cII g f):=by
 refine h.air fun args v hfl h => ?_;clear hfl;unfold Conf.cII at h;split at h
 ·rename_i x a b;obtain ⟨c,rfl,h⟩:=bJ h;obtain ⟨hc,h⟩:=aM h;obtain rfl:=AI h;obtain ⟨v,h1,h2,h3⟩:=he c a b hc;exact ⟨v,h1,⟨h2,hf c a b⟩,h3⟩
 ·cases h
theorem jd {i:Option Nat} {c:Bool} {x y:T V} {v:V} (h:c=true) (h1:x.eval=some v):(T.ite i c x y).eval=some v:=by rw [h];exact h1
def ofC (c:Cf) (m:Int):Int:=if ew c then aF (upV m (MO c)) 0 1000000 else 0
def AB (c:Cf) (w r:Int):Bool:=ew c&&decide (c.threshold*aF r 1 1000000<=aF w 0 1000000*1000)
theorem Ck (c:Cf) (m:Int):0<=ofC c m/\ofC c m<=1000000:=by
 unfold ofC;split
 ·exact cC _ (by omega)
 ·omega
def ofS:Eng.Spec:=cI (fun c a=>inC c&&inR a) fun c a=>bY (ofC c a)
def RI:Eng.Spec:=cII (fun c a b=>inC c) fun c a b=>.s (.bool (AB c a b))
def W1:Cfg:=⟨Tryz.prog,lookG [(31,jU),(197,aeC)],[],0⟩
theorem acB:W1.Ok:=Cfg.ok ⟨dt,Xu,trivial⟩ trivial
def byS:Eng.Spec:=aE W1 aa 168
theorem afJ:ah Tryz.prog 168 byS:=af acB mixed Tryz.func168 (by kernel_rfl) (by kernel_rfl)
def W2:Cfg:=⟨Tryz.prog,lookG [(168,byS),(169,upS),(69,n8)],[],0⟩
theorem XM:W2.Ok:=Cfg.ok ⟨afJ,VT,ni,trivial⟩ trivial
theorem S8 {c:Cf} {a:Int} (h:(inC c&&inR a)=true):(T.ite none (!ew c) (T.ret (bY 0)) (T.ite none (inR c.target&&inR c.util) (T.ite none (inR a&&inR (MO c)) (T.ret (bY (aF (upV a (MO c)) 0 1000000))) T.fail) T.fail)).eval=some (bY (ofC c a)):=by
 rw [AS] at h;refine bC (fun h1 => ?_) fun h1=>jd h.1 (jd (by rw [h.2,IJ];rfl) ?_)
 ·exact jW (by unfold ofC;rw [Bool.not_eq_true'] at h1;rw [h1];rfl)
 ·exact jW (by unfold ofC;rw [Bool.not_eq_false'] at h1;rw [h1];rfl)
theorem Wf:ah Tryz.prog 132 ofS:=by
 refine ah.cI (af XM mixed Tryz.func132 (by kernel_rfl) (by kernel_rfl)) (fun _ _=>rfl) fun c a h=>⟨_,?_,rfl,rfl⟩
 have e:T.anon (aE W2 aa 132 [eM c,bY a])=T.ite none (!ew c) (T.ret (bY 0)) (T.ite none (inR c.target&&inR c.util) (T.ite none (inR a&&inR (MO c)) (T.ret (bY (aF (upV a (MO c)) 0 1000000))) T.fail) T.fail):=by kernel_rfl
 rw [<- T.aim,e];exact S8 h
theorem Lz {c:Cf} (h:ew c=true) (w r:Int):IntKind.wrap .i64 (c.threshold*aF r 1 1000000)=c.threshold*aF r 1 1000000/\IntKind.wrap .i64 (aF w 0 1000000*1000)=aF w 0 1000000*1000:=by
 have h1:=(may_of h).threshold;have h2:=cC r (lo:=1) (hi:=1000000) (by omega);have h3:=cC w (lo:=0) (hi:=1000000) (by omega);have h4:c.threshold*aF r 1 1000000<=10000*1000000:=Int.mul_le_mul h1.2 h2.2 (by omega) (by omega);have h5:0<=c.threshold*aF r 1 1000000:=Int.mul_nonneg (by omega) (by omega);exact ⟨wrap64_in (by omega) (by omega),wrap64_in (by omega) (by omega)⟩
theorem EP:ah Tryz.prog 134 RI:=by
 refine ah.cII (af XM mixed Tryz.func134 (by kernel_rfl) (by kernel_rfl)) (fun _ _ _=>rfl) fun c a b h => ?_;have e:T.anon (aE W2 aa 134 [eM c,bY a,bY b])=T.ite none (!ew c) (T.ret V.ff) (T.ite none (inR c.target&&inR c.util) (T.ret (V.s (S.bool (decide (IntKind.wrap .i64 (c.threshold*aF b 1 1000000)<=IntKind.wrap .i64 (aF a 0 1000000*1000)))))) T.fail):=by kernel_rfl
 rw [<- T.aim,e];cases hm:ew c
 ·exact ⟨.ff,rfl,rfl,by unfold AB;rw [hm];rfl⟩
 ·refine ⟨.s (.bool (AB c a b)),bC (fun h1=>by cases h1) fun _=>jd h ?_,rfl,rfl⟩;exact Tt (by unfold AB;rw [hm,(Lz hm a b).1,(Lz hm a b).2];rfl)
theorem Bq {x y g:Bool} (h:g=true):(bif (x&&y) then g else true)=true:=by rw [h];cases x&&y<;>rfl
theorem QN (v:Int) {p:Int} (hp:0<p):v<=upI v p*p/\upI v p*p<v+p:=by
 unfold upI;rw [Int.fdiv_eq_ediv_of_nonneg _ (by omega)];have h1:=Int.ediv_mul_le (-v) (b:=p) (by omega);have h2:=Int.lt_ediv_add_one_mul_self (-v) hp;rw [Int.neg_mul];rw [Int.add_mul] at h2;omega
theorem vm {v p:Int} (hv:0<=v) (hp:0<p):0<=upI v p/\upI v p<=v:=by
 obtain ⟨h1,h2⟩:=QN v hp;constructor
 ·by_cases h:upI v p<0
  ·have:upI v p*p<0:=Int.mul_neg_of_neg_of_pos h hp;omega
  ·omega
 ·by_cases h:v<upI v p
  ·have h3:(v+1)*p<=upI v p*p:=Int.mul_le_mul_of_nonneg_right (by omega) (by omega);have h4:v*1<=v*p:=Int.mul_le_mul_of_nonneg_left (by omega) hv;rw [Int.add_mul] at h3;omega
  ·omega
def aet (q:Int):Int:=if 1000000<q then 1000000 else q
def AP (c:Cf) (a:Int):Int:=if ew c then aet (upI (c.up*aF a 1 1000000) 1000) else 0
def zm (c:Cf) (a:Int):Int:=if ew c then 1000*aF a 0 1000000 / c.down else 0
def afx (lo w hi:Int):Int:=if hi<(if lo>w then lo else w) then hi else (if lo>w then lo else w)
def hZ (c:Cf) (w a:Int):Int:=if ew c then afx (zm c a) w (AP c a) else 0
theorem EF (a:Int):(if 1>aF a 0 1000000 then 1 else aF a 0 1000000)=aF a 1 1000000:=by
 unfold aF;repeat' split
 all_goals omega
theorem upR {c:Cf} (h:ew c=true) (a:Int):IntKind.wrap .i64 (c.up*aF a 1 1000000)=c.up*aF a 1 1000000/\0<=c.up*aF a 1 1000000/\c.up*aF a 1 1000000<=1000000000000:=by
 have h1:=(may_of h).up;have h2:=cC a (lo:=1) (hi:=1000000) (by omega);have h4:c.up*aF a 1 1000000<=1000000*1000000:=Int.mul_le_mul h1.2 h2.2 (by omega) (by omega);have h5:0<=c.up*aF a 1 1000000:=Int.mul_nonneg (by omega) (by omega);exact ⟨wrap64_in (by omega) (by omega),h5,by omega⟩
theorem afG {x:Int} (h1:0<=x) (h2:x<=1000000000000):upV x 1000=upI x 1000:=by
 have:=vm h1 (show (0:Int)<1000 by decide);unfold upV;rw [if_neg (by decide),(fb _ (by omega) (by omega)).1]
theorem dnR {c:Cf} (h:ew c=true) (a:Int):IntKind.wrap .i64 (1000*aF a 0 1000000)=1000*aF a 0 1000000/\dnV (1000*aF a 0 1000000) c.down=1000*aF a 0 1000000 / c.down/\0<=1000*aF a 0 1000000 / c.down/\1000*aF a 0 1000000 / c.down<=1000*aF a 0 1000000:=by
 have h1:=(may_of h).down;have h2:=cC a (lo:=0) (hi:=1000000) (by omega);have h3:=Int.ediv_nonneg (a:=1000*aF a 0 1000000) (b:=c.down) (by omega) (by omega);have h4:=Int.ediv_le_self (a:=1000*aF a 0 1000000) c.down (by omega);refine ⟨wrap64_in (by omega) (by omega),?_,h3,h4⟩;unfold dnV dnI;rw [if_neg (by omega),Int.fdiv_eq_ediv_of_nonneg _ (by omega),(fb _ (by omega) (by omega)).1]
def xL:Eng.Spec:=cII (fun _ _ _=>true) fun c w a=>bY (hZ c w a)
def Q1:Cfg:=⟨Tryz.prog,lookG [(31,jU),(169,upS),(225,dnS),(69,n8)],[],0⟩
theorem pQ:Q1.Ok:=Cfg.ok ⟨dt,VT,acI,ni,trivial⟩ trivial
def ahL:Eng.Spec:=aE Q1 aa 202
def rwS:Eng.Spec:=aE Q1 aa 203
def rlS:Eng.Spec:=aE Q1 aa 204
def rmS:Eng.Spec:=aE Q1 aa 205
theorem WT:ah Tryz.prog 202 ahL:=af pQ mixed Tryz.func202 (by kernel_rfl) (by kernel_rfl)
theorem ac8:ah Tryz.prog 203 rwS:=af pQ mixed Tryz.func203 (by kernel_rfl) (by kernel_rfl)
theorem adU:ah Tryz.prog 204 rlS:=af pQ mixed Tryz.func204 (by kernel_rfl) (by kernel_rfl)
theorem af6:ah Tryz.prog 205 rmS:=af pQ mixed Tryz.func205 (by kernel_rfl) (by kernel_rfl)
def Q2:Cfg:=⟨Tryz.prog,lookG [(202,ahL),(203,rwS),(204,rlS),(205,rmS),(30,jU)],[],0⟩
theorem ES:Q2.Ok:=Cfg.ok ⟨WT,ac8,adU,af6,oc,trivial⟩ trivial
theorem Oe {c:Cf} (hm:ew c=true) (a:Int):(if 1000000<upV (IntKind.wrap .i64 (c.up*aF a 1 1000000)) 1000 then 1000000 else upV (IntKind.wrap .i64 (c.up*aF a 1 1000000)) 1000)=AP c a:=by
 obtain ⟨h1,h2,h3⟩:=upR hm a;rw [h1,afG h2 h3];unfold AP aet;rw [if_pos hm]
theorem OA {c:Cf} (hm:ew c=true) (a:Int):(inR (IntKind.wrap .i64 (c.up*aF a 1 1000000))&&inR 1000)=true:=by
 obtain ⟨h1,h2,h3⟩:=upR hm a;rw [h1,uD (by omega) (by omega)];rfl
theorem KI {c:Cf} (hm:ew c=true) (a:Int):(inR (IntKind.wrap .i64 (1000*aF a 0 1000000))&&inR c.down)=true:=by
 obtain ⟨h1,-⟩:=dnR hm a;have h2:=cC a (lo:=0) (hi:=1000000) (by omega);have h3:=(may_of hm).down;rw [h1,uD (by omega) (by omega),uD (by omega) (by omega)];rfl
theorem Ko {c:Cf} (hm:ew c=true) (a:Int):dnV (IntKind.wrap .i64 (1000*aF a 0 1000000)) c.down=zm c a:=by
 obtain ⟨h1,h2,-⟩:=dnR hm a;rw [h1,h2];unfold zm;rw [if_pos hm]
theorem mv:ah Tryz.prog 175 xL:=by
 refine ah.cII (af ES mixed Tryz.func175 (by kernel_rfl) (by kernel_rfl)) (fun _ _ _=>rfl) fun c w a _=>⟨_,?_,rfl,rfl⟩
 have e:T.anon (aE Q2 aa 175 [eM c,bY w,bY a])=T.ite none (!ew c) (T.ret (bY 0)) (T.ite none (inR (IntKind.wrap .i64 (1000*aF a 0 1000000))&&inR c.down) (T.ite none (inR (IntKind.wrap .i64 (c.up*if 1>aF a 0 1000000 then 1 else aF a 0 1000000))&&inR 1000)
  (T.ret (bY (afx (dnV (IntKind.wrap .i64 (1000*aF a 0 1000000)) c.down) w (if 1000000<upV (IntKind.wrap .i64 (c.up*if 1>aF a 0 1000000 then 1 else aF a 0 1000000)) 1000 then 1000000 else upV (IntKind.wrap .i64 (c.up*if 1>aF a 0 1000000 then 1 else aF a 0 1000000)) 1000)))) T.fail) T.fail):=by kernel_rfl
 rw [<- T.aim,e,EF];refine bC (fun h1 => ?_) fun h1 => ?_
 ·exact jW (by unfold hZ;rw [Bool.not_eq_true'] at h1;rw [h1];rfl)
 ·rw [Bool.not_eq_false'] at h1;refine jd (KI h1 a) (jd (OA h1 a) (jW ?_));rw [Ko h1,Oe h1];unfold hZ;rw [if_pos h1]
def Nt (c:Cf) (r q:Int):Int:=if ew c then (if c.burst = -1000 then -1000 else bW (bW (aF r 0 1000000*c.limit*1000 - q) - c.burst)) else 0
def proxyB (c:Cf) (r e:Int):Bool := !ew c||c.burst == -1000||decide (r<1)||(decide (0<c.burst)&&decide (e<0))
def aca:Eng.Spec:=cII (fun _ _ q=>inR q) fun c r q=>bY (Nt c r q)
def zC:Eng.Spec:=cII (fun _ _ _=>true) fun c r e=>.s (.bool (proxyB c r e))
def A1:Cfg:=⟨Tryz.prog,lookG [(31,jU),(70,adV),(69,n8)],[],0⟩
theorem acJ:A1.Ok:=Cfg.ok ⟨dt,L9,ni,trivial⟩ trivial
def L2:Eng.Spec:=aE A1 aa 68
theorem Kp:ah Tryz.prog 68 L2:=af acJ mixed Tryz.func68 (by kernel_rfl) (by kernel_rfl)
def A2:Cfg:=⟨Tryz.prog,lookG [(70,adV),(69,n8),(68,L2)],[],0⟩
theorem WN:A2.Ok:=Cfg.ok ⟨L9,ni,Kp,trivial⟩ trivial
def adt (k:Int->Int) (c:Cf) (r q:Int):T V :=
 T.ite none (!ew c) (T.ret (bY 0)) (T.ite none (c.burst == -1000) (T.ret (bY (-1000))) (T.ite none (inR (IntKind.wrap .i64 (IntKind.wrap .i64 (k r*c.limit)*1000))&&inR q) (T.ite none (inR (bW (IntKind.wrap .i64 (IntKind.wrap .i64 (k r*c.limit)*1000) - q))&&inR c.burst)
  (T.ret (bY (bW (bW (IntKind.wrap .i64 (IntKind.wrap .i64 (k r*c.limit)*1000) - q) - c.burst)))) T.fail) T.fail))
theorem Ud {c:Cf} (h:c.May) (r:Int):IntKind.wrap .i64 (IntKind.wrap .i64 (aF r 0 1000000*c.limit)*1000)=aF r 0 1000000*c.limit*1000/\0<=aF r 0 1000000*c.limit/\aF r 0 1000000*c.limit<=1000000000:=by
 have h1:=h.limit;have h2:=cC r (lo:=0) (hi:=1000000) (by omega);have h4:aF r 0 1000000*c.limit<=1000000*1000:=Int.mul_le_mul h2.2 h1.2 (by omega) (by omega);have h5:0<=aF r 0 1000000*c.limit:=Int.mul_nonneg (by omega) (by omega);rw [wrap64_in (n:=aF r 0 1000000*c.limit) (by omega) (by omega),wrap64_in (by omega) (by omega)];omega
theorem Hn {c:Cf} (h:c.May) : -1000<=c.burst/\c.burst<=100000000:=by have:=h.burst;omega
theorem GR {k:Int->Int} (hk:∀ r,k r=aF r 0 1000000) {c:Cf} {r q:Int} (hq:inR q=true):(adt k c r q).eval=some (bY (Nt c r q)):=by
 unfold adt;rw [hk];refine bC (fun h => ?_) fun h=>bC (fun h2 => ?_) fun h2 => ?_
 ·rw [Bool.not_eq_true'] at h;exact jW (by unfold Nt;rw [h];rfl)
 ·rw [Bool.not_eq_false'] at h;rw [beq_iff_eq] at h2;exact jW (by unfold Nt;rw [if_pos h,if_pos h2])
 ·rw [Bool.not_eq_false'] at h;rw [ai4] at h2;obtain ⟨e,r1,r2⟩:=Ud (may_of h) r;have hb:=Hn (may_of h);rw [e];refine jd (by rw [uD (by omega) (by omega),hq];rfl) (jd (by rw [q7,uD (by omega) (by omega)];rfl) (jW ?_));unfold Nt;rw [if_pos h,if_neg h2]
theorem EM:ah Tryz.prog 39 aca:=by
 refine ah.cII (af WN mixed Tryz.func39 (by kernel_rfl) (by kernel_rfl)) (fun _ _ _=>rfl) fun c r q h=>⟨_,?_,rfl,rfl⟩
 have e:T.anon (aE A2 aa 39 [eM c,bY r,bY q])=adt (fun r=>aF r 0 1000000) c r q:=by kernel_rfl
 rw [<- T.aim,e];exact GR (fun _=>rfl) h
theorem rl:ah Tryz.prog 38 zC:=by
 refine ah.cII (af WN mixed Tryz.func38 (by kernel_rfl) (by kernel_rfl)) (fun _ _ _=>rfl) fun c r q h => ?_;have e:T.anon (aE A2 aa 38 [eM c,bY r,bY q])=T.ite none (!ew c) (T.ret V.tt) (T.ite none (c.burst == -1000) (T.ret V.tt) (T.ret (V.s (S.bool (bif decide (r<1) then true else bif decide (0<c.burst) then decide (q<0) else false))))):=by kernel_rfl
 rw [<- T.aim,e];unfold proxyB;cases h1 : !ew c
 ·cases h2:c.burst == -1000
  ·exact ⟨_,rfl,rfl,by simp [V.den,S.den,oJ,n9]⟩
  ·exact ⟨_,rfl,rfl,by simp [V.den,S.den]⟩
 ·exact ⟨_,rfl,rfl,by simp [V.den,S.den]⟩
def bv:V->V
 | .tt=>.s (.bool true)
 | .ff=>.s (.bool false)
 | v=>v
theorem KR {n:Nat} {w:World} {v:V} {x:Value} (h:holdsP n w v x):holdsP n w (bv v) x:=by cases v<;>exact h
theorem PS {v:V}:fK (bv v)=fK v:=by cases v<;>rfl
theorem vL {n:Nat} {w:World}:∀ {l:List V} {xs:List Value},jT n w l xs->jT n w (l.map bv) xs
 | [],[],_=>trivial
 | v::r,x::xs,h=>⟨KR h.1,vL h.2⟩
 | [],_::_,h=>h.elim
 | _::_,[],h=>h.elim
theorem ah.bv {P:Program} {f:Nat} {sp:Eng.Spec} (h:ah P f sp):ah P f (fun args=>sp (args.map Conf.bv)) :=
 ⟨h.body,fun args v xs w hG ha he hr hh=>h.calls (args.map Conf.bv) v xs w hG (by
  unfold gW at *
  rw [List.all_map,ai5] at *
  intro x hx;show fK (Conf.bv x)=true;rw [PS];exact ha x hx) he hr (vL hh)⟩
def ly (s m:Int):V:=.agg [bY s,bY m]
structure Md where
 since:Int
 most:Int
def Md.v (m:Md):V:=ly m.since m.most
def Ba (c:Cf) (m:Md) (n:Int) (b:Bool):Md :=
 if !ew c||decide (n<0)||decide (1099511627776<n) then m else if b then ⟨n,if m.since<0 then 0 else m.most⟩ else if m.since<0 then m else if c.stable<=n - m.since then ⟨-1,0⟩ else m
def keepA (m:Md) (w:Int):Md:=if m.since<0 then m else ⟨m.since,if w>m.most then w else m.most⟩
def keepW (m:Md) (w:Int):Int:=if m.since<0 then w else if w>m.most then w else m.most
def Eg:Eng.Spec
 | [x,.agg [.s (.int .i64 s),.s (.int .i64 m)],.s (.int .i64 n),.s (.bool b)]=>gP x fun c=>.ite none (inR s&&inR n) (.ret (Ba c ⟨s,m⟩ n b).v) .fail
 | _=>.fail
def PV:Eng.Spec:=fun args=>Eg (args.map bv)
def xw:Eng.Spec
 | [.agg [.s (.int .i64 s),.s (.int .i64 m)],.s (.int .i64 w)]=>.ret (.tup [(keepA ⟨s,m⟩ w).v,bY (keepW ⟨s,m⟩ w)])
 | _=>.fail
def isS:Eng.Spec
 | [.agg [.s (.int .i64 s),.s (.int .i64 m)]]=>.ret (.s (.bool (decide (0<=s))))
 | _=>.fail
def acW:Eng.Spec:=aE C0 aa 171
theorem Ns:ah Tryz.prog 171 acW:=af gU mixed Tryz.func171 (by kernel_rfl) (by kernel_rfl)
def Dt:Eng.Spec
 | []=>.ret (ly (-1) 0)
 | _=>.fail
theorem yk:ah Tryz.prog 65 Dt:=by
 refine (af gU mixed Tryz.func65 (by kernel_rfl) (by kernel_rfl)).air fun args v hfl h => ?_;clear hfl;unfold Dt at h;split at h
 ·obtain rfl:=AI h;have e:aE C0 aa 65 []=.ret (ly (-1) 0):=by kernel_rfl
  rw [e];exact ⟨_,rfl,⟨rfl,rfl⟩,rfl⟩
 ·cases h
def A4:Cfg:=⟨Tryz.prog,lookG [(171,acW)],[],0⟩
theorem Ua:A4.Ok:=Cfg.ok ⟨Ns,trivial⟩ trivial
def ahK:Eng.Spec:=aE A4 aa 170
theorem ZD:ah Tryz.prog 170 ahK:=af Ua mixed Tryz.func170 (by kernel_rfl) (by kernel_rfl)
def A5:Cfg:=⟨Tryz.prog,lookG [(31,jU),(171,acW),(65,Dt),(170,ahK)],[],0⟩
theorem acx:A5.Ok:=Cfg.ok ⟨dt,Ns,yk,ZD,trivial⟩ trivial
theorem H8:ah Tryz.prog 137 isS:=by
 refine (af Ua mixed Tryz.func137 (by kernel_rfl) (by kernel_rfl)).air fun args v hfl h => ?_;clear hfl;unfold isS at h;split at h
 ·rename_i s m;obtain rfl:=AI h;have e:T.anon (aE A4 aa 137 [ly s m])=.ite none (decide (s<0)) (.ret .ff) (.ret .tt):=by kernel_rfl
  rw [<- T.aim,show aE A4 aa 137 [.agg [.s (.int .i64 s),.s (.int .i64 m)]]=aE A4 aa 137 [ly s m] from rfl,e];by_cases hs:s<0
  ·rw [sh hs];exact ⟨_,rfl,⟨rfl,rfl⟩,by rw [BY (by omega)];rfl⟩
  ·rw [BY hs];exact ⟨_,rfl,⟨rfl,rfl⟩,by rw [sh (by omega)];rfl⟩
 ·cases h
theorem EN {i:Md} {a b:Int} (h1:a=i.since) (h2:b=i.most):(T.ret (V.agg [V.s (.int .i64 a),V.s (.int .i64 b)])).eval=some i.v:=by rw [h1,h2];rfl
theorem Ch:ah Tryz.prog 133 PV:=by
 refine ah.bv (sp:=Eg) ?_;refine (af acx mixed Tryz.func133 (by kernel_rfl) (by kernel_rfl)).air fun args v hfl h => ?_;clear hfl;unfold Eg at h;split at h
 ·rename_i x s m n b;obtain ⟨c,rfl,h⟩:=bJ h;obtain ⟨hc,h⟩:=aM h;obtain rfl:=AI h;refine ⟨_,?_,⟨rfl,rfl⟩,rfl⟩
  have e:T.anon (aE A5 aa 133 [eM c,.agg [.s (.int .i64 s),.s (.int .i64 m)],.s (.int .i64 n),.s (.bool b)])=T.ite none (bif bif !ew c then true else decide (n<0) then true else decide (1099511627776<n)) (.ret (ly s m))
   (T.ite none b (T.ite none (decide (s<0)) (.ret (ly n 0)) (.ret (ly n m))) (T.ite none (decide (s<0)) (.ret (ly s m)) (T.ite none (decide (c.stable<=IntKind.wrap .i64 (n - s))) (.ret (ly (-1) 0)) (.ret (ly s m))))):=by kernel_rfl
  rw [<- T.aim,e];simp only [AS,ca] at hc;unfold Ba;simp only [n9];refine bC (fun h1 => ?_) fun h1 => ?_
  ·rw [if_pos h1];rfl
  ·rw [if_neg (by simp [h1])];have hn:0<=n/\n<=1099511627776:=by simp only [Bool.or_eq_false_iff,ajg] at h1;omega
   refine bC (fun h2 => ?_) fun h2 => ?_
   ·rw [h2];refine bC (fun h3 => ?_) fun h3 => ?_<;>simp only [AT,ajg] at h3
    ·exact EN rfl (by simp [h3])
    ·exact EN rfl (by simp [h3])
   ·rw [h2];refine bC (fun h3 => ?_) fun h3=>bC (fun h4 => ?_) fun h4 => ?_<;>simp only [AT,ajg] at h3
    ·simp only [h3,if_true,Bool.false_eq_true,if_false];rfl
    ·rw [wrap64_in (by omega) (by omega),AT] at h4;simp only [h3,h4,if_true,Bool.false_eq_true,if_false];rfl
    ·rw [wrap64_in (by omega) (by omega),ajg] at h4;simp only [h3,h4,Bool.false_eq_true,if_false];rfl
 ·cases h
theorem Gs:ah Tryz.prog 173 xw:=by
 refine (af Ua mixed Tryz.func173 (by kernel_rfl) (by kernel_rfl)).air fun args v hfl h => ?_;clear hfl;unfold xw at h;split at h
 ·rename_i s m n;obtain rfl:=AI h;refine ⟨_,?_,⟨rfl,rfl⟩,rfl⟩;have e:T.anon (aE A4 aa 173 [.agg [.s (.int .i64 s),.s (.int .i64 m)],.s (.int .i64 n)])=T.ite none (decide (s<0)) (.ret (.tup [ly s m,bY n])) (.ret (.tup [ly s (if n>m then n else m),bY (if n>m then n else m)])):=by kernel_rfl
  rw [<- T.aim,e];unfold keepA keepW;by_cases hs:s<0
  ·rw [sh hs,if_pos hs,if_pos hs];rfl
  ·rw [BY hs,if_neg hs,if_neg hs];rfl
 ·cases h
def BE (s n:Int) (b:Bool):Int:=if b then (if s<0 then n else s) else -1
def mayZ (c:Cf) (s n m w b:Int):Bool:=(m==0)&&(w==0)&&(b==0)&&decide (0<=s)&&ew c&&(c.min==0)&&decide (s<=n)&&decide (c.grace<=n - s)
def wV (c:Cf) (s n want have_ m w b:Int):Int:=if 0<want then want else if ((have_==0)&&(w==0))||mayZ c s n m w b then 0 else 1
def stV (s:Int):V:=.agg [bY s]
def yb:Eng.Spec
 | [.agg [.s (.int .i64 s)],.s (.int .i64 n),.s (.bool b)]=>.ret (stV (BE s n b))
 | _=>.fail
def Ez:Eng.Spec:=fun args=>yb (args.map bv)
def Qc:Eng.Spec
 | [x,.agg [.s (.int .i64 s)],.s (.int .i64 n),.s (.int .i64 m),.s (.int .i64 w),.s (.int .i64 b)]=>gP x fun c=>.ite none (inR s&&inR n) (.ret (.s (.bool (mayZ c s n m w b)))) .fail
 | _=>.fail
def zT:Eng.Spec
 | [x,.agg [.s (.int .i64 s)],.s (.int .i64 n),.s (.int .i64 want),.s (.int .i64 hv),.s (.int .i64 m),.s (.int .i64 w),.s (.int .i64 b)]=>gP x fun c=>.ite none (inR s&&inR n) (.ret (bY (wV c s n want hv m w b))) .fail
 | _=>.fail
def ag7:Eng.Spec:=aE C0 aa 105
theorem U6:ah Tryz.prog 105 ag7:=af gU mixed Tryz.func105 (by kernel_rfl) (by kernel_rfl)
def grS:Eng.Spec:=aE C0 aa 176
theorem adL:ah Tryz.prog 176 grS:=af gU mixed Tryz.func176 (by kernel_rfl) (by kernel_rfl)
def PW:Eng.Spec:=aE C0 aa 35
theorem FX:ah Tryz.prog 35 PW:=af gU mixed Tryz.func35 (by kernel_rfl) (by kernel_rfl)
def Z1:Cfg:=⟨Tryz.prog,lookG [(31,jU),(105,ag7),(176,grS),(35,PW),(30,jU)],[],0⟩
theorem KK:Z1.Ok:=Cfg.ok ⟨dt,U6,adL,FX,oc,trivial⟩ trivial
theorem P1 {a b:Int} (h:a=b):(T.ret (V.agg [V.s (.int .i64 a)])).eval=some (stV b):=by rw [h];rfl
theorem yR:ah Tryz.prog 76 Ez:=by
 refine ah.bv (sp:=yb) ?_;refine (af KK mixed Tryz.func76 (by kernel_rfl) (by kernel_rfl)).air fun args v hfl h => ?_;clear hfl;unfold yb at h;split at h
 ·rename_i s n b;obtain rfl:=AI h;refine ⟨_,?_,⟨rfl,rfl⟩,rfl⟩;have e:T.anon (aE Z1 aa 76 [.agg [.s (.int .i64 s)],.s (.int .i64 n),.s (.bool b)])=T.ite none (!b) (.ret (stV (-1))) (T.ite none (decide (s<0)) (.ret (stV n)) (.ret (stV s))):=by kernel_rfl
  rw [<- T.aim,e];unfold BE;refine bC (fun h => ?_) fun h=>bC (fun h2 => ?_) fun h2 => ?_<;>simp only [Bool.not_eq_true',Bool.not_eq_false',AT,ajg] at *
  ·subst h;exact P1 rfl
  ·subst h;exact P1 (by simp [h2])
  ·subst h;exact P1 (by simp [h2])
 ·cases h
theorem DV {c:Cf} {s n m w b:Int} (hs : -9223372036854775808<=s) (hn:n<=9223372036854775807):∃ v,(T.ite none (bif bif m != 0 then true else w != 0 then true else b != 0) (T.ret V.ff) (T.ite none (decide (s<0)) (T.ret V.ff) (T.ret (V.s (.bool (bif bif ew c then c.min==0 else false then bif decide (s<=n) then decide (c.grace<=IntKind.wrap .i64 (n - s)) else false else false)))))).eval=some v/\flat v=true/\v.den nu0=.bool (mayZ c s n m w b):=by
 unfold mayZ;by_cases h1:(bif bif m != 0 then true else w != 0 then true else b != 0)=true
 ·rw [h1];refine ⟨.ff,rfl,rfl,?_⟩;have:((m==0)&&(w==0)&&(b==0))=false:=by
   simp only [n9,ajm,bne_iff_ne] at h1;simp only [Bool.and_eq_false_iff,ai4];exact h1
  simp only [V.den];rw [this];simp
 ·have h1:(bif bif m != 0 then true else w != 0 then true else b != 0)=false:=by simpa using h1
  have e1:((m==0)&&(w==0)&&(b==0))=true:=by
   simp only [n9,Bool.or_eq_false_iff] at h1;simp only [AS];simpa [bne] using h1
  rw [h1,e1];by_cases h2:s<0
  ·rw [sh h2,BY (show ¬ 0<=s by omega)];exact ⟨.ff,rfl,rfl,by simp [V.den]⟩
  ·rw [BY h2,sh (show 0<=s by omega)];refine ⟨_,rfl,rfl,?_⟩;simp only [V.den,S.den,oJ,Bool.true_and];by_cases h3:s<=n
   ·rw [wrap64_in (n:=n - s) (by omega) (by omega)];simp only [Bool.and_assoc]
   ·rw [BY h3];simp
theorem Sk:ah Tryz.prog 138 Qc:=by
 refine (af KK mixed Tryz.func138 (by kernel_rfl) (by kernel_rfl)).air fun args v hfl h => ?_;clear hfl;unfold Qc at h;split at h
 ·rename_i x s n m w b;obtain ⟨c,rfl,h⟩:=bJ h;obtain ⟨hc,h⟩:=aM h;obtain rfl:=AI h;simp only [AS,ca] at hc;have e:T.anon (aE Z1 aa 138 [eM c,.agg [.s (.int .i64 s)],.s (.int .i64 n),.s (.int .i64 m),.s (.int .i64 w),.s (.int .i64 b)])=T.ite none (bif bif m != 0 then true else w != 0 then true else b != 0) (T.ret V.ff) (T.ite none (decide (s<0)) (T.ret V.ff) (T.ret (V.s (.bool (bif bif ew c then c.min==0 else false then bif decide (s<=n) then decide (c.grace<=IntKind.wrap .i64 (n - s)) else false else false))))):=by kernel_rfl
  rw [<- T.aim,e];obtain ⟨v,h1,h2,h3⟩:=DV (c:=c) (m:=m) (w:=w) (b:=b) hc.1.1 hc.2.2;exact ⟨v,h1,⟨h2,rfl⟩,h3⟩
 ·cases h
def Z2:Cfg:=⟨Tryz.prog,lookG [(138,Qc)],[],0⟩
theorem P3:Z2.Ok:=Cfg.ok ⟨Sk,trivial⟩ trivial
theorem A7 {c:Cf} {s n wa hv m w b:Int} (hg:(inR s&&inR n)=true):(T.ite none (decide (0<wa)) (T.ret (bY wa)) (T.ite none (bif (bif hv==0 then w==0 else false)==false&&true then inR s&&inR n else true) (T.ite none (bif bif hv==0 then w==0 else false then true else mayZ c s n m w b) (T.ret (bY 0)) (T.ret (bY 1))) T.fail)).eval=some (bY (wV c s n wa hv m w b)):=by
 unfold wV;refine bC (fun h => ?_) fun h=>jd (Bq hg) (bC (fun h2 => ?_) fun h2 => ?_)<;>simp only [AT,ajg] at h
 ·exact jW (by rw [if_pos h])
 ·rw [n9,oJ] at h2;exact jW (by rw [if_neg h,if_pos h2])
 ·rw [n9,oJ] at h2;exact jW (by rw [if_neg h,if_neg (by simp [h2])])
theorem zU:ah Tryz.prog 106 zT:=by
 refine (af P3 mixed Tryz.func106 (by kernel_rfl) (by kernel_rfl)).air fun args v hfl h => ?_;clear hfl;unfold zT at h;split at h
 ·rename_i x s n wa hv m w b;obtain ⟨c,rfl,h⟩:=bJ h;obtain ⟨hc,h⟩:=aM h;obtain rfl:=AI h;refine ⟨_,?_,⟨rfl,rfl⟩,rfl⟩;have e:T.anon (aE Z2 aa 106 [eM c,.agg [.s (.int .i64 s)],.s (.int .i64 n),.s (.int .i64 wa),.s (.int .i64 hv),.s (.int .i64 m),.s (.int .i64 w),.s (.int .i64 b)])=T.ite none (decide (0<wa)) (T.ret (bY wa)) (T.ite none (bif (bif hv==0 then w==0 else false)==false&&true then inR s&&inR n else true) (T.ite none (bif bif hv==0 then w==0 else false then true else mayZ c s n m w b) (T.ret (bY 0)) (T.ret (bY 1))) T.fail):=by kernel_rfl
  rw [<- T.aim,e];exact A7 hc
 ·cases h
end Go.Proofs.YtcbgmdpkhfahmaaGreatDoor.Conf
end
