import Derived.Test.YtncmdfdppmfeeaaGreatDoorGJ
namespace Go.Proofs.YtncmdfdppmfeeaaGreatDoor.Conf
open Go.Eng Go.RowKit Mil
set_option linter.unusedVariables false
set_option linter.unusedSimpArgs false
def inC (c:Cf):Bool:=inR c.target&&inR c.util
theorem pR (n:Int):inR (cE n)=true:=dN.2 (iD n)
theorem GU (c:Cf):inR (Io c)=true:=by
 have:=iD (mulI c.target c.util)
 rw [dN];unfold Io;omega
theorem cU (a:Int) {lo hi:Int} (h:lo<=hi):lo<=aE a lo hi/\aE a lo hi<=hi:=by unfold aE;split<;>(try split)<;>omega
theorem sF {n:Int} (h1 : -9223372036854775808<=n) (h2:n<=9223372036854775807):inR n=true:=dN.2 ⟨h1,h2⟩
def cI (g:Cf->Int->Bool) (f:Cf->Int->V):Eng.Spec
 | [x,.s (.int .i64 a)]=>gg x fun c=>.ite none (g c a) (.ret (f c a)) .fail
 | _=>.fail
theorem SpecOk.cI {P:Program} {n:Nat} {sp:Eng.Spec} {g:Cf->Int->Bool} {f:Cf->Int->V} (h:SpecOk P n sp) (hf:∀ c a,flat (f c a)=true)
  (he:∀ c a,g c a=true->∃ v,(sp [cM c,bM a]).eval=some v/\flat v=true/\v.den nu0=(f c a).den nu0):SpecOk P n (Conf.cI g f):=by
 refine h.of_den fun args v hfl h => ?_
 clear hfl
 unfold Conf.cI at h
 split at h
 ·rename_i x a
  obtain ⟨c,rfl,h⟩:=bN h
  obtain ⟨hc,h⟩:=aF h
  obtain rfl:=Option.some.inj h
  obtain ⟨v,h1,h2,h3⟩:=he c a hc
  exact ⟨v,h1,⟨h2,hf c a⟩,h3⟩
 ·cases h
def cII (g:Cf->Int->Int->Bool) (f:Cf->Int->Int->V):Eng.Spec
 | [x,.s (.int .i64 a),.s (.int .i64 b)]=>gg x fun c=>.ite none (g c a b) (.ret (f c a b)) .fail
 | _=>.fail
theorem SpecOk.cII {P:Program} {n:Nat} {sp:Eng.Spec} {g:Cf->Int->Int->Bool} {f:Cf->Int->Int->V} (h:SpecOk P n sp) (hf:∀ c a b,flat (f c a b)=true)
  (he:∀ c a b,g c a b=true->∃ v,(sp [cM c,bM a,bM b]).eval=some v/\flat v=true/\v.den nu0=(f c a b).den nu0):SpecOk P n (Conf.cII g f):=by
 refine h.of_den fun args v hfl h => ?_
 clear hfl
 unfold Conf.cII at h
 split at h
 ·rename_i x a b
  obtain ⟨c,rfl,h⟩:=bN h
  obtain ⟨hc,h⟩:=aF h
  obtain rfl:=Option.some.inj h
  obtain ⟨v,h1,h2,h3⟩:=he c a b hc
  exact ⟨v,h1,⟨h2,hf c a b⟩,h3⟩
 ·cases h
theorem gV {i:Option Nat} {c:Bool} {x y:T V} {v:V} (h:c=true) (h1:x.eval=some v):(T.ite i c x y).eval=some v:=by rw [h];exact h1
def ofC (c:Cf) (m:Int):Int:=if eZ c then aE (upV m (Io c)) 0 1000000 else 0
def Fz (c:Cf) (w r:Int):Bool:=eZ c&&decide (c.threshold*aE r 1 1000000<=aE w 0 1000000*1000)
def ofS:Eng.Spec:=cI (fun c a=>inC c&&inR a) fun c a=>bM (ofC c a)
def Lc:Eng.Spec:=cII (fun c a b=>inC c) fun c a b=>.s (.bool (Fz c a b))
noncomputable def W1:Cfg:=⟨Tryz.prog,lookG [(19,lg),(230,Yj)],[],0⟩
theorem Y9:W1.Ok:=Cfg.ok ⟨dj,Tj,trivial⟩ trivial
noncomputable def byS:Eng.Spec:=aC W1 aa 209
theorem ZI:SpecOk Tryz.prog 209 byS:=af Y9 mixed Tryz.func209 (by kernel_rfl) (by kernel_rfl)
noncomputable def W2:Cfg:=⟨Tryz.prog,lookG [(209,byS),(210,upS),(60,mU)],[],0⟩
theorem Ug:W2.Ok:=Cfg.ok ⟨ZI,Ty,lJ,trivial⟩ trivial
theorem My {c:Cf} {a:Int} (h:(inC c&&inR a)=true):(T.ite none (!eZ c) (T.ret (bM 0)) (T.ite none (inR c.target&&inR c.util) (T.ite none (inR a&&inR (Io c)) (T.ret (bM (aE (upV a (Io c)) 0 1000000))) T.fail) T.fail)).eval=some (bM (ofC c a)):=by
 rw [Bool.and_eq_true] at h
 refine aV (fun h1 => ?_) fun h1=>gV h.1 (gV (by rw [h.2,GU];rfl) ?_)
 ·exact iR (by unfold ofC;rw [Bool.not_eq_true'] at h1;rw [h1];rfl)
 ·exact iR (by unfold ofC;rw [Bool.not_eq_false'] at h1;rw [h1];rfl)
theorem TN:SpecOk Tryz.prog 180 ofS:=by
 refine SpecOk.cI (af Ug mixed Tryz.func180 (by kernel_rfl) (by kernel_rfl)) (fun _ _=>rfl) fun c a h=>⟨_,?_,rfl,rfl⟩
 have e:T.anon (aC W2 aa 180 [cM c,bM a])=T.ite none (!eZ c) (T.ret (bM 0)) (T.ite none (inR c.target&&inR c.util) (T.ite none (inR a&&inR (Io c)) (T.ret (bM (aE (upV a (Io c)) 0 1000000))) T.fail) T.fail):=by kernel_rfl
 rw [<- T.eval_anon,e]
 exact My h
theorem I7 {c:Cf} (h:eZ c=true) (w r:Int):IntKind.wrap .i64 (c.threshold*aE r 1 1000000)=c.threshold*aE r 1 1000000/\IntKind.wrap .i64 (aE w 0 1000000*1000)=aE w 0 1000000*1000:=by
 have h1:=(may_of h).threshold
 have h2:=cU r (lo:=1) (hi:=1000000) (by omega)
 have h3:=cU w (lo:=0) (hi:=1000000) (by omega)
 have h4:c.threshold*aE r 1 1000000<=10000*1000000:=Int.mul_le_mul h1.2 h2.2 (by omega) (by omega)
 have h5:0<=c.threshold*aE r 1 1000000:=Int.mul_nonneg (by omega) (by omega)
 exact ⟨wrap64_in (by omega) (by omega),wrap64_in (by omega) (by omega)⟩
theorem zD:SpecOk Tryz.prog 182 Lc:=by
 refine SpecOk.cII (af Ug mixed Tryz.func182 (by kernel_rfl) (by kernel_rfl)) (fun _ _ _=>rfl) fun c a b h => ?_
 have e:T.anon (aC W2 aa 182 [cM c,bM a,bM b])=T.ite none (!eZ c) (T.ret V.ff) (T.ite none (inR c.target&&inR c.util) (T.ret (V.s (S.bool (decide (IntKind.wrap .i64 (c.threshold*aE b 1 1000000)<=IntKind.wrap .i64 (aE a 0 1000000*1000)))))) T.fail):=by kernel_rfl
 rw [<- T.eval_anon,e]
 cases hm:eZ c
 ·exact ⟨.ff,rfl,rfl,by unfold Fz;rw [hm];rfl⟩
 ·refine ⟨.s (.bool (Fz c a b)),aV (fun h1=>by cases h1) fun _=>gV h ?_,rfl,rfl⟩
  exact O0 (by unfold Fz;rw [hm,(I7 hm a b).1,(I7 hm a b).2];rfl)
set_option maxRecDepth 100000
theorem yW {x y g:Bool} (h:g=true):(bif (x&&y) then g else true)=true:=by rw [h];cases x&&y<;>rfl
theorem JQ (v:Int) {p:Int} (hp:0<p):v<=upI v p*p/\upI v p*p<v+p:=by
 unfold upI
 rw [Int.fdiv_eq_ediv_of_nonneg _ (by omega)]
 have h1:=Int.ediv_mul_le (-v) (b:=p) (by omega)
 have h2:=Int.lt_ediv_add_one_mul_self (-v) hp
 rw [Int.neg_mul]
 rw [Int.add_mul] at h2
 omega
theorem zW {v p:Int} (hv:0<=v) (hp:0<p):0<=upI v p/\upI v p<=v:=by
 obtain ⟨h1,h2⟩:=JQ v hp
 constructor
 ·by_cases h:upI v p<0
  ·have:upI v p*p<0:=Int.mul_neg_of_neg_of_pos h hp
   omega
  ·omega
 ·by_cases h:v<upI v p
  ·have h3:(v+1)*p<=upI v p*p:=Int.mul_le_mul_of_nonneg_right (by omega) (by omega)
   have h4:v*1<=v*p:=Int.mul_le_mul_of_nonneg_left (by omega) hv
   rw [Int.add_mul] at h3
   omega
  ·omega
def abv (q:Int):Int:=if 1000000<q then 1000000 else q
def O9 (c:Cf) (a:Int):Int:=if eZ c then abv (upI (c.up*aE a 1 1000000) 1000) else 0
def Br (c:Cf) (a:Int):Int:=if eZ c then 1000*aE a 0 1000000 / c.down else 0
def abe (lo w hi:Int):Int:=if hi<(if lo>w then lo else w) then hi else (if lo>w then lo else w)
def Bc (c:Cf) (w a:Int):Int:=if eZ c then abe (Br c a) w (O9 c a) else 0
theorem Dt (a:Int):(if 1>aE a 0 1000000 then 1 else aE a 0 1000000)=aE a 1 1000000:=by
 unfold aE;repeat' split
 all_goals omega
theorem upR {c:Cf} (h:eZ c=true) (a:Int):IntKind.wrap .i64 (c.up*aE a 1 1000000)=c.up*aE a 1 1000000/\0<=c.up*aE a 1 1000000/\c.up*aE a 1 1000000<=1000000000000:=by
 have h1:=(may_of h).up
 have h2:=cU a (lo:=1) (hi:=1000000) (by omega)
 have h4:c.up*aE a 1 1000000<=1000000*1000000:=Int.mul_le_mul h1.2 h2.2 (by omega) (by omega)
 have h5:0<=c.up*aE a 1 1000000:=Int.mul_nonneg (by omega) (by omega)
 exact ⟨wrap64_in (by omega) (by omega),h5,by omega⟩
theorem XD {x:Int} (h1:0<=x) (h2:x<=1000000000000):upV x 1000=upI x 1000:=by
 have:=zW h1 (show (0:Int)<1000 by decide)
 unfold upV
 rw [if_neg (by decide),(eP _ (by omega) (by omega)).1]
theorem dnR {c:Cf} (h:eZ c=true) (a:Int):IntKind.wrap .i64 (1000*aE a 0 1000000)=1000*aE a 0 1000000/\dnV (1000*aE a 0 1000000) c.down=1000*aE a 0 1000000 / c.down/\0<=1000*aE a 0 1000000 / c.down/\1000*aE a 0 1000000 / c.down<=1000*aE a 0 1000000:=by
 have h1:=(may_of h).down
 have h2:=cU a (lo:=0) (hi:=1000000) (by omega)
 have h3:=Int.ediv_nonneg (a:=1000*aE a 0 1000000) (b:=c.down) (by omega) (by omega)
 have h4:=Int.ediv_le_self (a:=1000*aE a 0 1000000) c.down (by omega)
 refine ⟨wrap64_in (by omega) (by omega),?_,h3,h4⟩
 unfold dnV dnI
 rw [if_neg (by omega),Int.fdiv_eq_ediv_of_nonneg _ (by omega),(eP _ (by omega) (by omega)).1]
def tT:Eng.Spec:=cII (fun _ _ _=>true) fun c w a=>bM (Bc c w a)
noncomputable def Q1:Cfg:=⟨Tryz.prog,lookG [(19,lg),(210,upS),(252,dnS),(60,mU)],[],0⟩
theorem lz:Q1.Ok:=Cfg.ok ⟨dj,Ty,YG,lJ,trivial⟩ trivial
noncomputable def ab1:Eng.Spec:=aC Q1 aa 235
noncomputable def rwS:Eng.Spec:=aC Q1 aa 236
noncomputable def rlS:Eng.Spec:=aC Q1 aa 237
noncomputable def rmS:Eng.Spec:=aC Q1 aa 238
theorem QN:SpecOk Tryz.prog 235 ab1:=af lz mixed Tryz.func235 (by kernel_rfl) (by kernel_rfl)
theorem Zj:SpecOk Tryz.prog 236 rwS:=af lz mixed Tryz.func236 (by kernel_rfl) (by kernel_rfl)
theorem Z3:SpecOk Tryz.prog 237 rlS:=af lz mixed Tryz.func237 (by kernel_rfl) (by kernel_rfl)
theorem Xf:SpecOk Tryz.prog 238 rmS:=af lz mixed Tryz.func238 (by kernel_rfl) (by kernel_rfl)
noncomputable def Q2:Cfg:=⟨Tryz.prog,lookG [(235,ab1),(236,rwS),(237,rlS),(238,rmS)],[],0⟩
theorem vc:Q2.Ok:=Cfg.ok ⟨QN,Zj,Z3,Xf,trivial⟩ trivial
theorem Le {c:Cf} (hm:eZ c=true) (a:Int):(if 1000000<upV (IntKind.wrap .i64 (c.up*aE a 1 1000000)) 1000 then 1000000 else upV (IntKind.wrap .i64 (c.up*aE a 1 1000000)) 1000)=O9 c a:=by
 obtain ⟨h1,h2,h3⟩:=upR hm a
 rw [h1,XD h2 h3]
 unfold O9 abv
 rw [if_pos hm]
theorem Ke {c:Cf} (hm:eZ c=true) (a:Int):(inR (IntKind.wrap .i64 (c.up*aE a 1 1000000))&&inR 1000)=true:=by
 obtain ⟨h1,h2,h3⟩:=upR hm a
 rw [h1,sF (by omega) (by omega)];rfl
theorem GH {c:Cf} (hm:eZ c=true) (a:Int):(inR (IntKind.wrap .i64 (1000*aE a 0 1000000))&&inR c.down)=true:=by
 obtain ⟨h1,-⟩:=dnR hm a
 have h2:=cU a (lo:=0) (hi:=1000000) (by omega)
 have h3:=(may_of hm).down
 rw [h1,sF (by omega) (by omega),sF (by omega) (by omega)];rfl
theorem EO {c:Cf} (hm:eZ c=true) (a:Int):dnV (IntKind.wrap .i64 (1000*aE a 0 1000000)) c.down=Br c a:=by
 obtain ⟨h1,h2,-⟩:=dnR hm a
 rw [h1,h2];unfold Br;rw [if_pos hm]
theorem kR:SpecOk Tryz.prog 216 tT:=by
 refine SpecOk.cII (af vc mixed Tryz.func216 (by kernel_rfl) (by kernel_rfl)) (fun _ _ _=>rfl) fun c w a _=>⟨_,?_,rfl,rfl⟩
 have e:T.anon (aC Q2 aa 216 [cM c,bM w,bM a])=T.ite none (!eZ c) (T.ret (bM 0)) (T.ite none (inR (IntKind.wrap .i64 (1000*aE a 0 1000000))&&inR c.down) (T.ite none (inR (IntKind.wrap .i64 (c.up*if 1>aE a 0 1000000 then 1 else aE a 0 1000000))&&inR 1000)
  (T.ret (bM (abe (dnV (IntKind.wrap .i64 (1000*aE a 0 1000000)) c.down) w (if 1000000<upV (IntKind.wrap .i64 (c.up*if 1>aE a 0 1000000 then 1 else aE a 0 1000000)) 1000 then 1000000 else upV (IntKind.wrap .i64 (c.up*if 1>aE a 0 1000000 then 1 else aE a 0 1000000)) 1000)))) T.fail) T.fail):=by kernel_rfl
 rw [<- T.eval_anon,e,Dt]
 refine aV (fun h1 => ?_) fun h1 => ?_
 ·exact iR (by unfold Bc;rw [Bool.not_eq_true'] at h1;rw [h1];rfl)
 ·rw [Bool.not_eq_false'] at h1
  refine gV (GH h1 a) (gV (Ke h1 a) (iR ?_))
  rw [EO h1,Le h1];unfold Bc;rw [if_pos h1]
def PO (c:Cf) (r q:Int):Int:=if eZ c then (if c.burst = -1000 then -1000 else cE (cE (aE r 0 1000000*c.limit*1000 - q) - c.burst)) else 0
def proxyB (c:Cf) (r e:Int):Bool := !eZ c||c.burst == -1000||decide (r<1)||(decide (0<c.burst)&&decide (e<0))
def Wh:Eng.Spec:=cII (fun _ _ q=>inR q) fun c r q=>bM (PO c r q)
def zS:Eng.Spec:=cII (fun _ _ _=>true) fun c r e=>.s (.bool (proxyB c r e))
noncomputable def A1:Cfg:=⟨Tryz.prog,lookG [(19,lg),(61,Zq),(60,mU)],[],0⟩
theorem Zz:A1.Ok:=Cfg.ok ⟨dj,HF,lJ,trivial⟩ trivial
noncomputable def HW:Eng.Spec:=aC A1 aa 59
theorem Fw:SpecOk Tryz.prog 59 HW:=af Zz mixed Tryz.func59 (by kernel_rfl) (by kernel_rfl)
noncomputable def A2:Cfg:=⟨Tryz.prog,lookG [(61,Zq),(60,mU),(59,HW)],[],0⟩
theorem PU:A2.Ok:=Cfg.ok ⟨HF,lJ,Fw,trivial⟩ trivial
def YC (k:Int->Int) (c:Cf) (r q:Int):T V :=
 T.ite none (!eZ c) (T.ret (bM 0)) (T.ite none (c.burst == -1000) (T.ret (bM (-1000))) (T.ite none (inR (IntKind.wrap .i64 (IntKind.wrap .i64 (k r*c.limit)*1000))&&inR q) (T.ite none (inR (cE (IntKind.wrap .i64 (IntKind.wrap .i64 (k r*c.limit)*1000) - q))&&inR c.burst)
  (T.ret (bM (cE (cE (IntKind.wrap .i64 (IntKind.wrap .i64 (k r*c.limit)*1000) - q) - c.burst)))) T.fail) T.fail))
theorem JJ {c:Cf} (h:c.May) (r:Int):IntKind.wrap .i64 (IntKind.wrap .i64 (aE r 0 1000000*c.limit)*1000)=aE r 0 1000000*c.limit*1000/\0<=aE r 0 1000000*c.limit/\aE r 0 1000000*c.limit<=1000000000:=by
 have h1:=h.limit
 have h2:=cU r (lo:=0) (hi:=1000000) (by omega)
 have h4:aE r 0 1000000*c.limit<=1000000*1000:=Int.mul_le_mul h2.2 h1.2 (by omega) (by omega)
 have h5:0<=aE r 0 1000000*c.limit:=Int.mul_nonneg (by omega) (by omega)
 rw [wrap64_in (n:=aE r 0 1000000*c.limit) (by omega) (by omega),wrap64_in (by omega) (by omega)]
 omega
theorem Hf {c:Cf} (h:c.May) : -1000<=c.burst/\c.burst<=100000000:=by have:=h.burst;omega
theorem zU {k:Int->Int} (hk:∀ r,k r=aE r 0 1000000) {c:Cf} {r q:Int} (hq:inR q=true):(YC k c r q).eval=some (bM (PO c r q)):=by
 unfold YC
 rw [hk]
 refine aV (fun h => ?_) fun h=>aV (fun h2 => ?_) fun h2 => ?_
 ·rw [Bool.not_eq_true'] at h;exact iR (by unfold PO;rw [h];rfl)
 ·rw [Bool.not_eq_false'] at h;rw [beq_iff_eq] at h2;exact iR (by unfold PO;rw [if_pos h,if_pos h2])
 ·rw [Bool.not_eq_false'] at h;rw [beq_eq_false_iff_ne] at h2
  obtain ⟨e,r1,r2⟩:=JJ (may_of h) r
  have hb:=Hf (may_of h)
  rw [e]
  refine gV (by rw [sF (by omega) (by omega),hq];rfl) (gV (by rw [pR,sF (by omega) (by omega)];rfl) (iR ?_))
  unfold PO;rw [if_pos h,if_neg h2]
theorem Ba:SpecOk Tryz.prog 30 Wh:=by
 refine SpecOk.cII (af PU mixed Tryz.func30 (by kernel_rfl) (by kernel_rfl)) (fun _ _ _=>rfl) fun c r q h=>⟨_,?_,rfl,rfl⟩
 have e:T.anon (aC A2 aa 30 [cM c,bM r,bM q])=YC (fun r=>aE r 0 1000000) c r q:=by kernel_rfl
 rw [<- T.eval_anon,e]
 exact zU (fun _=>rfl) h
theorem wM:SpecOk Tryz.prog 29 zS:=by
 refine SpecOk.cII (af PU mixed Tryz.func29 (by kernel_rfl) (by kernel_rfl)) (fun _ _ _=>rfl) fun c r q h => ?_
 have e:T.anon (aC A2 aa 29 [cM c,bM r,bM q])=T.ite none (!eZ c) (T.ret V.tt) (T.ite none (c.burst == -1000) (T.ret V.tt) (T.ret (V.s (S.bool (bif decide (r<1) then true else bif decide (0<c.burst) then decide (q<0) else false))))):=by kernel_rfl
 rw [<- T.eval_anon,e]
 unfold proxyB
 cases h1 : !eZ c
 ·cases h2:c.burst == -1000
  ·exact ⟨_,rfl,rfl,by simp [V.den,S.den,pq,nR]⟩
  ·exact ⟨_,rfl,rfl,by simp [V.den,S.den]⟩
 ·exact ⟨_,rfl,rfl,by simp [V.den,S.den]⟩
def bv:V->V
 | .tt=>.s (.bool true)
 | .ff=>.s (.bool false)
 | v=>v
theorem FO {n:Nat} {w:World} {v:V} {x:Value} (h:iU n w v x):iU n w (bv v) x:=by cases v<;>exact h
theorem NV {v:V}:fe (bv v)=fe v:=by cases v<;>rfl
theorem r7 {n:Nat} {w:World}:∀ {l:List V} {xs:List Value},iS n w l xs->iS n w (l.map bv) xs
 | [],[],_=>trivial
 | v::r,x::xs,h=>⟨FO h.1,r7 h.2⟩
 | [],_::_,h=>h.elim
 | _::_,[],h=>h.elim
theorem SpecOk.bv {P:Program} {f:Nat} {sp:Eng.Spec} (h:SpecOk P f sp):SpecOk P f (fun args=>sp (args.map Conf.bv)) :=
 ⟨h.body,fun args v xs w hG ha he hr hh=>h.calls (args.map Conf.bv) v xs w hG (by
  unfold gk at *
  rw [List.all_map,List.all_eq_true] at *
  intro x hx
  show fe (Conf.bv x)=true
  rw [NV]
  exact ha x hx) he hr (r7 hh)⟩
def kd (s m:Int):V:=.agg [bM s,bM m]
structure Md where
 since:Int
 most:Int
def Md.v (m:Md):V:=kd m.since m.most
def RC (c:Cf) (m:Md) (n:Int) (b:Bool):Md :=
 if !eZ c||decide (n<0)||decide (1099511627776<n) then m else if b then ⟨n,if m.since<0 then 0 else m.most⟩ else if m.since<0 then m else if c.stable<=n - m.since then ⟨-1,0⟩ else m
def keepA (m:Md) (w:Int):Md:=if m.since<0 then m else ⟨m.since,if w>m.most then w else m.most⟩
def keepW (m:Md) (w:Int):Int:=if m.since<0 then w else if w>m.most then w else m.most
def zZ:Eng.Spec
 | [x,.agg [.s (.int .i64 s),.s (.int .i64 m)],.s (.int .i64 n),.s (.bool b)]=>gg x fun c=>.ite none (inR s&&inR n) (.ret (RC c ⟨s,m⟩ n b).v) .fail
 | _=>.fail
def Pj:Eng.Spec:=fun args=>zZ (args.map bv)
def uE:Eng.Spec
 | [.agg [.s (.int .i64 s),.s (.int .i64 m)],.s (.int .i64 w)]=>.ret (.tup [(keepA ⟨s,m⟩ w).v,bM (keepW ⟨s,m⟩ w)])
 | _=>.fail
def isS:Eng.Spec
 | [.agg [.s (.int .i64 s),.s (.int .i64 m)]]=>.ret (.s (.bool (decide (0<=s))))
 | _=>.fail
noncomputable def YE:Eng.Spec:=aC C0 aa 212
theorem Jh:SpecOk Tryz.prog 212 YE:=af jg mixed Tryz.func212 (by kernel_rfl) (by kernel_rfl)
def zK:Eng.Spec
 | []=>.ret (kd (-1) 0)
 | _=>.fail
theorem uS:SpecOk Tryz.prog 56 zK:=by
 refine (af jg mixed Tryz.func56 (by kernel_rfl) (by kernel_rfl)).of_den fun args v hfl h => ?_
 clear hfl
 unfold zK at h
 split at h
 ·obtain rfl:=Option.some.inj h
  have e:aC C0 aa 56 []=.ret (kd (-1) 0):=by kernel_rfl
  rw [e]
  exact ⟨_,rfl,⟨rfl,rfl⟩,rfl⟩
 ·cases h
noncomputable def A4:Cfg:=⟨Tryz.prog,lookG [(212,YE)],[],0⟩
theorem L1:A4.Ok:=Cfg.ok ⟨Jh,trivial⟩ trivial
noncomputable def aa1:Eng.Spec:=aC A4 aa 211
theorem Ta:SpecOk Tryz.prog 211 aa1:=af L1 mixed Tryz.func211 (by kernel_rfl) (by kernel_rfl)
noncomputable def A5:Cfg:=⟨Tryz.prog,lookG [(19,lg),(212,YE),(56,zK),(211,aa1)],[],0⟩
theorem Z0:A5.Ok:=Cfg.ok ⟨dj,Jh,uS,Ta,trivial⟩ trivial
theorem FN:SpecOk Tryz.prog 185 isS:=by
 refine (af L1 mixed Tryz.func185 (by kernel_rfl) (by kernel_rfl)).of_den fun args v hfl h => ?_
 clear hfl
 unfold isS at h
 split at h
 ·rename_i s m
  obtain rfl:=Option.some.inj h
  have e:T.anon (aC A4 aa 185 [kd s m])=.ite none (decide (s<0)) (.ret .ff) (.ret .tt):=by kernel_rfl
  rw [<- T.eval_anon,show aC A4 aa 185 [.agg [.s (.int .i64 s),.s (.int .i64 m)]]=aC A4 aa 185 [kd s m] from rfl,e]
  by_cases hs:s<0
  ·rw [decide_eq_true hs];exact ⟨_,rfl,⟨rfl,rfl⟩,by rw [decide_eq_false (by omega)];rfl⟩
  ·rw [decide_eq_false hs];exact ⟨_,rfl,⟨rfl,rfl⟩,by rw [decide_eq_true (by omega)];rfl⟩
 ·cases h
theorem B5 {i:Md} {a b:Int} (h1:a=i.since) (h2:b=i.most):(T.ret (V.agg [V.s (.int .i64 a),V.s (.int .i64 b)])).eval=some i.v:=by rw [h1,h2];rfl
theorem BU:SpecOk Tryz.prog 181 Pj:=by
 refine SpecOk.bv (sp:=zZ) ?_
 refine (af Z0 mixed Tryz.func181 (by kernel_rfl) (by kernel_rfl)).of_den fun args v hfl h => ?_
 clear hfl
 unfold zZ at h
 split at h
 ·rename_i x s m n b
  obtain ⟨c,rfl,h⟩:=bN h
  obtain ⟨hc,h⟩:=aF h
  obtain rfl:=Option.some.inj h
  refine ⟨_,?_,⟨rfl,rfl⟩,rfl⟩
  have e:T.anon (aC A5 aa 181 [cM c,.agg [.s (.int .i64 s),.s (.int .i64 m)],.s (.int .i64 n),.s (.bool b)])=T.ite none (bif bif !eZ c then true else decide (n<0) then true else decide (1099511627776<n)) (.ret (kd s m))
   (T.ite none b (T.ite none (decide (s<0)) (.ret (kd n 0)) (.ret (kd n m))) (T.ite none (decide (s<0)) (.ret (kd s m)) (T.ite none (decide (c.stable<=IntKind.wrap .i64 (n - s))) (.ret (kd (-1) 0)) (.ret (kd s m))))):=by kernel_rfl
  rw [<- T.eval_anon,e]
  simp only [Bool.and_eq_true,dN] at hc
  unfold RC
  simp only [nR]
  refine aV (fun h1 => ?_) fun h1 => ?_
  ·rw [if_pos h1];rfl
  ·rw [if_neg (by simp [h1])]
   have hn:0<=n/\n<=1099511627776:=by simp only [Bool.or_eq_false_iff,decide_eq_false_iff_not] at h1;omega
   refine aV (fun h2 => ?_) fun h2 => ?_
   ·rw [h2]
    refine aV (fun h3 => ?_) fun h3 => ?_<;>simp only [decide_eq_true_eq,decide_eq_false_iff_not] at h3
    ·exact B5 rfl (by simp [h3])
    ·exact B5 rfl (by simp [h3])
   ·rw [h2]
    refine aV (fun h3 => ?_) fun h3=>aV (fun h4 => ?_) fun h4 => ?_<;>simp only [decide_eq_true_eq,decide_eq_false_iff_not] at h3
    ·simp only [h3,if_true,Bool.false_eq_true,if_false];rfl
    ·rw [wrap64_in (by omega) (by omega),decide_eq_true_eq] at h4
     simp only [h3,h4,if_true,Bool.false_eq_true,if_false];rfl
    ·rw [wrap64_in (by omega) (by omega),decide_eq_false_iff_not] at h4
     simp only [h3,h4,Bool.false_eq_true,if_false];rfl
 ·cases h
theorem zu:SpecOk Tryz.prog 214 uE:=by
 refine (af L1 mixed Tryz.func214 (by kernel_rfl) (by kernel_rfl)).of_den fun args v hfl h => ?_
 clear hfl
 unfold uE at h
 split at h
 ·rename_i s m n
  obtain rfl:=Option.some.inj h
  refine ⟨_,?_,⟨rfl,rfl⟩,rfl⟩
  have e:T.anon (aC A4 aa 214 [.agg [.s (.int .i64 s),.s (.int .i64 m)],.s (.int .i64 n)])=T.ite none (decide (s<0)) (.ret (.tup [kd s m,bM n])) (.ret (.tup [kd s (if n>m then n else m),bM (if n>m then n else m)])):=by kernel_rfl
  rw [<- T.eval_anon,e]
  unfold keepA keepW
  by_cases hs:s<0
  ·rw [decide_eq_true hs,if_pos hs,if_pos hs];rfl
  ·rw [decide_eq_false hs,if_neg hs,if_neg hs];rfl
 ·cases h
def Rx (s n:Int) (b:Bool):Int:=if b then (if s<0 then n else s) else -1
def mayZ (c:Cf) (s n m w b:Int):Bool:=(m==0)&&(w==0)&&(b==0)&&decide (0<=s)&&eZ c&&(c.min==0)&&decide (s<=n)&&decide (c.grace<=n - s)
def Ld (c:Cf) (s n want have_ m w b:Int):Int:=if 0<want then want else if ((have_==0)&&(w==0))||mayZ c s n m w b then 0 else 1
def stV (s:Int):V:=.agg [bM s]
def uJ:Eng.Spec
 | [.agg [.s (.int .i64 s)],.s (.int .i64 n),.s (.bool b)]=>.ret (stV (Rx s n b))
 | _=>.fail
def H3:Eng.Spec:=fun args=>uJ (args.map bv)
def NC:Eng.Spec
 | [x,.agg [.s (.int .i64 s)],.s (.int .i64 n),.s (.int .i64 m),.s (.int .i64 w),.s (.int .i64 b)]=>gg x fun c=>.ite none (inR s&&inR n) (.ret (.s (.bool (mayZ c s n m w b)))) .fail
 | _=>.fail
def CD:Eng.Spec
 | [x,.agg [.s (.int .i64 s)],.s (.int .i64 n),.s (.int .i64 want),.s (.int .i64 hv),.s (.int .i64 m),.s (.int .i64 w),.s (.int .i64 b)]=>gg x fun c=>.ite none (inR s&&inR n) (.ret (bM (Ld c s n want hv m w b))) .fail
 | _=>.fail
noncomputable def abS:Eng.Spec:=aC C0 aa 164
theorem UL:SpecOk Tryz.prog 164 abS:=af jg mixed Tryz.func164 (by kernel_rfl) (by kernel_rfl)
noncomputable def grS:Eng.Spec:=aC C0 aa 217
theorem YX:SpecOk Tryz.prog 217 grS:=af jg mixed Tryz.func217 (by kernel_rfl) (by kernel_rfl)
noncomputable def Oo:Eng.Spec:=aC C0 aa 26
theorem BZ:SpecOk Tryz.prog 26 Oo:=af jg mixed Tryz.func26 (by kernel_rfl) (by kernel_rfl)
noncomputable def Z1:Cfg:=⟨Tryz.prog,lookG [(19,lg),(164,abS),(217,grS),(26,Oo)],[],0⟩
theorem P9:Z1.Ok:=Cfg.ok ⟨dj,UL,YX,BZ,trivial⟩ trivial
theorem Lh {a b:Int} (h:a=b):(T.ret (V.agg [V.s (.int .i64 a)])).eval=some (stV b):=by rw [h];rfl
theorem He:SpecOk Tryz.prog 136 H3:=by
 refine SpecOk.bv (sp:=uJ) ?_
 refine (af P9 mixed Tryz.func136 (by kernel_rfl) (by kernel_rfl)).of_den fun args v hfl h => ?_
 clear hfl
 unfold uJ at h
 split at h
 ·rename_i s n b
  obtain rfl:=Option.some.inj h
  refine ⟨_,?_,⟨rfl,rfl⟩,rfl⟩
  have e:T.anon (aC Z1 aa 136 [.agg [.s (.int .i64 s)],.s (.int .i64 n),.s (.bool b)])=T.ite none (!b) (.ret (stV (-1))) (T.ite none (decide (s<0)) (.ret (stV n)) (.ret (stV s))):=by kernel_rfl
  rw [<- T.eval_anon,e]
  unfold Rx
  refine aV (fun h => ?_) fun h=>aV (fun h2 => ?_) fun h2 => ?_<;>simp only [Bool.not_eq_true',Bool.not_eq_false',decide_eq_true_eq,decide_eq_false_iff_not] at *
  ·subst h;exact Lh rfl
  ·subst h;exact Lh (by simp [h2])
  ·subst h;exact Lh (by simp [h2])
 ·cases h
theorem B3 {c:Cf} {s n m w b:Int} (hs : -9223372036854775808<=s) (hn:n<=9223372036854775807):∃ v,(T.ite none (bif bif m != 0 then true else w != 0 then true else b != 0) (T.ret V.ff) (T.ite none (decide (s<0)) (T.ret V.ff) (T.ret (V.s (.bool (bif bif eZ c then c.min==0 else false then bif decide (s<=n) then decide (c.grace<=IntKind.wrap .i64 (n - s)) else false else false)))))).eval=some v/\flat v=true/\v.den nu0=.bool (mayZ c s n m w b):=by
 unfold mayZ
 by_cases h1:(bif bif m != 0 then true else w != 0 then true else b != 0)=true
 ·rw [h1]
  refine ⟨.ff,rfl,rfl,?_⟩
  have:((m==0)&&(w==0)&&(b==0))=false:=by
   simp only [nR,Bool.or_eq_true,bne_iff_ne] at h1
   simp only [Bool.and_eq_false_iff,beq_eq_false_iff_ne];exact h1
  simp only [V.den]
  rw [this];simp
 ·have h1:(bif bif m != 0 then true else w != 0 then true else b != 0)=false:=by simpa using h1
  have e1:((m==0)&&(w==0)&&(b==0))=true:=by
   simp only [nR,Bool.or_eq_false_iff] at h1
   simp only [Bool.and_eq_true];simpa [bne] using h1
  rw [h1,e1]
  by_cases h2:s<0
  ·rw [decide_eq_true h2,decide_eq_false (show ¬ 0<=s by omega)]
   exact ⟨.ff,rfl,rfl,by simp [V.den]⟩
  ·rw [decide_eq_false h2,decide_eq_true (show 0<=s by omega)]
   refine ⟨_,rfl,rfl,?_⟩
   simp only [V.den,S.den,pq,Bool.true_and]
   by_cases h3:s<=n
   ·rw [wrap64_in (n:=n - s) (by omega) (by omega)]
    simp only [Bool.and_assoc]
   ·rw [decide_eq_false h3];simp
theorem Js:SpecOk Tryz.prog 186 NC:=by
 refine (af P9 mixed Tryz.func186 (by kernel_rfl) (by kernel_rfl)).of_den fun args v hfl h => ?_
 clear hfl
 unfold NC at h
 split at h
 ·rename_i x s n m w b
  obtain ⟨c,rfl,h⟩:=bN h
  obtain ⟨hc,h⟩:=aF h
  obtain rfl:=Option.some.inj h
  simp only [Bool.and_eq_true,dN] at hc
  have e:T.anon (aC Z1 aa 186 [cM c,.agg [.s (.int .i64 s)],.s (.int .i64 n),.s (.int .i64 m),.s (.int .i64 w),.s (.int .i64 b)])=T.ite none (bif bif m != 0 then true else w != 0 then true else b != 0) (T.ret V.ff) (T.ite none (decide (s<0)) (T.ret V.ff) (T.ret (V.s (.bool (bif bif eZ c then c.min==0 else false then bif decide (s<=n) then decide (c.grace<=IntKind.wrap .i64 (n - s)) else false else false))))):=by kernel_rfl
  rw [<- T.eval_anon,e]
  obtain ⟨v,h1,h2,h3⟩:=B3 (c:=c) (m:=m) (w:=w) (b:=b) hc.1.1 hc.2.2
  exact ⟨v,h1,⟨h2,rfl⟩,h3⟩
 ·cases h
noncomputable def Z2:Cfg:=⟨Tryz.prog,lookG [(186,NC)],[],0⟩
theorem ZW:Z2.Ok:=Cfg.ok ⟨Js,trivial⟩ trivial
theorem xC {c:Cf} {s n wa hv m w b:Int} (hg:(inR s&&inR n)=true):(T.ite none (decide (0<wa)) (T.ret (bM wa)) (T.ite none (bif (bif hv==0 then w==0 else false)==false&&true then inR s&&inR n else true) (T.ite none (bif bif hv==0 then w==0 else false then true else mayZ c s n m w b) (T.ret (bM 0)) (T.ret (bM 1))) T.fail)).eval=some (bM (Ld c s n wa hv m w b)):=by
 unfold Ld
 refine aV (fun h => ?_) fun h=>gV (yW hg) (aV (fun h2 => ?_) fun h2 => ?_)<;>simp only [decide_eq_true_eq,decide_eq_false_iff_not] at h
 ·exact iR (by rw [if_pos h])
 ·rw [nR,pq] at h2
  exact iR (by rw [if_neg h,if_pos h2])
 ·rw [nR,pq] at h2
  exact iR (by rw [if_neg h,if_neg (by simp [h2])])
theorem GY:SpecOk Tryz.prog 165 CD:=by
 refine (af ZW mixed Tryz.func165 (by kernel_rfl) (by kernel_rfl)).of_den fun args v hfl h => ?_
 clear hfl
 unfold CD at h
 split at h
 ·rename_i x s n wa hv m w b
  obtain ⟨c,rfl,h⟩:=bN h
  obtain ⟨hc,h⟩:=aF h
  obtain rfl:=Option.some.inj h
  refine ⟨_,?_,⟨rfl,rfl⟩,rfl⟩
  have e:T.anon (aC Z2 aa 165 [cM c,.agg [.s (.int .i64 s)],.s (.int .i64 n),.s (.int .i64 wa),.s (.int .i64 hv),.s (.int .i64 m),.s (.int .i64 w),.s (.int .i64 b)])=T.ite none (decide (0<wa)) (T.ret (bM wa)) (T.ite none (bif (bif hv==0 then w==0 else false)==false&&true then inR s&&inR n else true) (T.ite none (bif bif hv==0 then w==0 else false then true else mayZ c s n m w b) (T.ret (bM 0)) (T.ret (bM 1))) T.fail):=by kernel_rfl
  rw [<- T.eval_anon,e]
  exact xC hc
 ·cases h
end Go.Proofs.YtncmdfdppmfeeaaGreatDoor.Conf
