import Derived.Test.YtggakaogidjjbaaGreatDoorGJ
namespace Go.Proofs.YtggakaogidjjbaaGreatDoor.Conf
open Go.Eng Go.RowKit Mil
set_option linter.unusedVariables false
set_option linter.unusedSimpArgs false
def inC (c:Cf):Bool:=inR c.target&&inR c.util
theorem rU (n:Int):inR (bT n)=true:=bV.2 (iU n)
theorem I2 (c:Cf):inR (Ka c)=true:=by
 have:=iU (mulI c.target c.util)
 rw [bV];unfold Ka;omega
theorem cu (a:Int) {lo hi:Int} (h:lo<=hi):lo<=aF a lo hi/\aF a lo hi<=hi:=by unfold aF;split<;>(try split)<;>omega
theorem s7 {n:Int} (h1 : -9223372036854775808<=n) (h2:n<=9223372036854775807):inR n=true:=bV.2 ⟨h1,h2⟩
def cI (g:Cf->Int->Bool) (f:Cf->Int->V):Eng.Spec
 | [x,.s (.int .i64 a)]=>gy x fun c=>.ite none (g c a) (.ret (f c a)) .fail
 | _=>.fail
theorem SpecOk.cI {P:Program} {n:Nat} {sp:Eng.Spec} {g:Cf->Int->Bool} {f:Cf->Int->V} (h:SpecOk P n sp) (hf:∀ c a,flat (f c a)=true)
  (he:∀ c a,g c a=true->∃ v,(sp [eF c,bU a]).eval=some v/\flat v=true/\v.den nu0=(f c a).den nu0):SpecOk P n (Conf.cI g f):=by
 refine h.of_den fun args v hfl h => ?_
 clear hfl
 unfold Conf.cI at h
 split at h
 ·rename_i x a
  obtain ⟨c,rfl,h⟩:=bF h
  obtain ⟨hc,h⟩:=aK h
  obtain rfl:=Option.some.inj h
  obtain ⟨v,h1,h2,h3⟩:=he c a hc
  exact ⟨v,h1,⟨h2,hf c a⟩,h3⟩
 ·cases h
def cII (g:Cf->Int->Int->Bool) (f:Cf->Int->Int->V):Eng.Spec
 | [x,.s (.int .i64 a),.s (.int .i64 b)]=>gy x fun c=>.ite none (g c a b) (.ret (f c a b)) .fail
 | _=>.fail
theorem SpecOk.cII {P:Program} {n:Nat} {sp:Eng.Spec} {g:Cf->Int->Int->Bool} {f:Cf->Int->Int->V} (h:SpecOk P n sp) (hf:∀ c a b,flat (f c a b)=true)
  (he:∀ c a b,g c a b=true->∃ v,(sp [eF c,bU a,bU b]).eval=some v/\flat v=true/\v.den nu0=(f c a b).den nu0):SpecOk P n (Conf.cII g f):=by
 refine h.of_den fun args v hfl h => ?_
 clear hfl
 unfold Conf.cII at h
 split at h
 ·rename_i x a b
  obtain ⟨c,rfl,h⟩:=bF h
  obtain ⟨hc,h⟩:=aK h
  obtain rfl:=Option.some.inj h
  obtain ⟨v,h1,h2,h3⟩:=he c a b hc
  exact ⟨v,h1,⟨h2,hf c a b⟩,h3⟩
 ·cases h
theorem gM {i:Option Nat} {c:Bool} {x y:T V} {v:V} (h:c=true) (h1:x.eval=some v):(T.ite i c x y).eval=some v:=by rw [h];exact h1
def ofC (c:Cf) (m:Int):Int:=if ee c then aF (upV m (Ka c)) 0 1000000 else 0
def zx (c:Cf) (w r:Int):Bool:=ee c&&decide (c.threshold*aF r 1 1000000<=aF w 0 1000000*1000)
theorem Ef (c:Cf) (m:Int):0<=ofC c m/\ofC c m<=1000000:=by
 unfold ofC;split
 ·exact cu _ (by omega)
 ·omega
def ofS:Eng.Spec:=cI (fun c a=>inC c&&inR a) fun c a=>bU (ofC c a)
def Mf:Eng.Spec:=cII (fun c a b=>inC c) fun c a b=>.s (.bool (zx c a b))
noncomputable def W1:Cfg:=⟨Tryz.prog,lookG [(31,jL),(196,aaL)],[],0⟩
theorem abo:W1.Ok:=Cfg.ok ⟨dn,XI,trivial⟩ trivial
noncomputable def byS:Eng.Spec:=aB W1 aa 167
theorem adf:SpecOk Tryz.prog 167 byS:=af abo mixed Tryz.func167 (by kernel_rfl) (by kernel_rfl)
noncomputable def W2:Cfg:=⟨Tryz.prog,lookG [(167,byS),(168,upS),(68,nk)],[],0⟩
theorem XA:W2.Ok:=Cfg.ok ⟨adf,Tq,mN,trivial⟩ trivial
theorem Sq {c:Cf} {a:Int} (h:(inC c&&inR a)=true):(T.ite none (!ee c) (T.ret (bU 0)) (T.ite none (inR c.target&&inR c.util) (T.ite none (inR a&&inR (Ka c)) (T.ret (bU (aF (upV a (Ka c)) 0 1000000))) T.fail) T.fail)).eval=some (bU (ofC c a)):=by
 rw [Bool.and_eq_true] at h
 refine bg (fun h1 => ?_) fun h1=>gM h.1 (gM (by rw [h.2,I2];rfl) ?_)
 ·exact jq (by unfold ofC;rw [Bool.not_eq_true'] at h1;rw [h1];rfl)
 ·exact jq (by unfold ofC;rw [Bool.not_eq_false'] at h1;rw [h1];rfl)
theorem VG:SpecOk Tryz.prog 131 ofS:=by
 refine SpecOk.cI (af XA mixed Tryz.func131 (by kernel_rfl) (by kernel_rfl)) (fun _ _=>rfl) fun c a h=>⟨_,?_,rfl,rfl⟩
 have e:T.anon (aB W2 aa 131 [eF c,bU a])=T.ite none (!ee c) (T.ret (bU 0)) (T.ite none (inR c.target&&inR c.util) (T.ite none (inR a&&inR (Ka c)) (T.ret (bU (aF (upV a (Ka c)) 0 1000000))) T.fail) T.fail):=by kernel_rfl
 rw [<- T.eval_anon,e]
 exact Sq h
theorem L8 {c:Cf} (h:ee c=true) (w r:Int):IntKind.wrap .i64 (c.threshold*aF r 1 1000000)=c.threshold*aF r 1 1000000/\IntKind.wrap .i64 (aF w 0 1000000*1000)=aF w 0 1000000*1000:=by
 have h1:=(may_of h).threshold
 have h2:=cu r (lo:=1) (hi:=1000000) (by omega)
 have h3:=cu w (lo:=0) (hi:=1000000) (by omega)
 have h4:c.threshold*aF r 1 1000000<=10000*1000000:=Int.mul_le_mul h1.2 h2.2 (by omega) (by omega)
 have h5:0<=c.threshold*aF r 1 1000000:=Int.mul_nonneg (by omega) (by omega)
 exact ⟨wrap64_in (by omega) (by omega),wrap64_in (by omega) (by omega)⟩
theorem Ch:SpecOk Tryz.prog 133 Mf:=by
 refine SpecOk.cII (af XA mixed Tryz.func133 (by kernel_rfl) (by kernel_rfl)) (fun _ _ _=>rfl) fun c a b h => ?_
 have e:T.anon (aB W2 aa 133 [eF c,bU a,bU b])=T.ite none (!ee c) (T.ret V.ff) (T.ite none (inR c.target&&inR c.util) (T.ret (V.s (S.bool (decide (IntKind.wrap .i64 (c.threshold*aF b 1 1000000)<=IntKind.wrap .i64 (aF a 0 1000000*1000)))))) T.fail):=by kernel_rfl
 rw [<- T.eval_anon,e]
 cases hm:ee c
 ·exact ⟨.ff,rfl,rfl,by unfold zx;rw [hm];rfl⟩
 ·refine ⟨.s (.bool (zx c a b)),bg (fun h1=>by cases h1) fun _=>gM h ?_,rfl,rfl⟩
  exact PK (by unfold zx;rw [hm,(L8 hm a b).1,(L8 hm a b).2];rfl)
set_option maxRecDepth 100000
theorem zo {x y g:Bool} (h:g=true):(bif (x&&y) then g else true)=true:=by rw [h];cases x&&y<;>rfl
theorem MX (v:Int) {p:Int} (hp:0<p):v<=upI v p*p/\upI v p*p<v+p:=by
 unfold upI
 rw [Int.fdiv_eq_ediv_of_nonneg _ (by omega)]
 have h1:=Int.ediv_mul_le (-v) (b:=p) (by omega)
 have h2:=Int.lt_ediv_add_one_mul_self (-v) hp
 rw [Int.neg_mul]
 rw [Int.add_mul] at h2
 omega
theorem tR {v p:Int} (hv:0<=v) (hp:0<p):0<=upI v p/\upI v p<=v:=by
 obtain ⟨h1,h2⟩:=MX v hp
 constructor
 ·by_cases h:upI v p<0
  ·have:upI v p*p<0:=Int.mul_neg_of_neg_of_pos h hp
   omega
  ·omega
 ·by_cases h:v<upI v p
  ·have h3:(v+1)*p<=upI v p*p:=Int.mul_le_mul_of_nonneg_right (by omega) (by omega)
   have h4:v*1<=v*p:=Int.mul_le_mul_of_nonneg_left (by omega) hv
   rw [Int.add_mul] at h3
   omega
  ·omega
def adn (q:Int):Int:=if 1000000<q then 1000000 else q
def zG (c:Cf) (a:Int):Int:=if ee c then adn (upI (c.up*aF a 1 1000000) 1000) else 0
def x9 (c:Cf) (a:Int):Int:=if ee c then 1000*aF a 0 1000000 / c.down else 0
def abb (lo w hi:Int):Int:=if hi<(if lo>w then lo else w) then hi else (if lo>w then lo else w)
def gS (c:Cf) (w a:Int):Int:=if ee c then abb (x9 c a) w (zG c a) else 0
theorem Ej (a:Int):(if 1>aF a 0 1000000 then 1 else aF a 0 1000000)=aF a 1 1000000:=by
 unfold aF;repeat' split
 all_goals omega
theorem upR {c:Cf} (h:ee c=true) (a:Int):IntKind.wrap .i64 (c.up*aF a 1 1000000)=c.up*aF a 1 1000000/\0<=c.up*aF a 1 1000000/\c.up*aF a 1 1000000<=1000000000000:=by
 have h1:=(may_of h).up
 have h2:=cu a (lo:=1) (hi:=1000000) (by omega)
 have h4:c.up*aF a 1 1000000<=1000000*1000000:=Int.mul_le_mul h1.2 h2.2 (by omega) (by omega)
 have h5:0<=c.up*aF a 1 1000000:=Int.mul_nonneg (by omega) (by omega)
 exact ⟨wrap64_in (by omega) (by omega),h5,by omega⟩
theorem acD {x:Int} (h1:0<=x) (h2:x<=1000000000000):upV x 1000=upI x 1000:=by
 have:=tR h1 (show (0:Int)<1000 by decide)
 unfold upV
 rw [if_neg (by decide),(eO _ (by omega) (by omega)).1]
theorem dnR {c:Cf} (h:ee c=true) (a:Int):IntKind.wrap .i64 (1000*aF a 0 1000000)=1000*aF a 0 1000000/\dnV (1000*aF a 0 1000000) c.down=1000*aF a 0 1000000 / c.down/\0<=1000*aF a 0 1000000 / c.down/\1000*aF a 0 1000000 / c.down<=1000*aF a 0 1000000:=by
 have h1:=(may_of h).down
 have h2:=cu a (lo:=0) (hi:=1000000) (by omega)
 have h3:=Int.ediv_nonneg (a:=1000*aF a 0 1000000) (b:=c.down) (by omega) (by omega)
 have h4:=Int.ediv_le_self (a:=1000*aF a 0 1000000) c.down (by omega)
 refine ⟨wrap64_in (by omega) (by omega),?_,h3,h4⟩
 unfold dnV dnI
 rw [if_neg (by omega),Int.fdiv_eq_ediv_of_nonneg _ (by omega),(eO _ (by omega) (by omega)).1]
def xf:Eng.Spec:=cII (fun _ _ _=>true) fun c w a=>bU (gS c w a)
noncomputable def Q1:Cfg:=⟨Tryz.prog,lookG [(31,jL),(168,upS),(224,dnS),(68,nk)],[],0⟩
theorem o6:Q1.Ok:=Cfg.ok ⟨dn,Tq,aam,mN,trivial⟩ trivial
noncomputable def adu:Eng.Spec:=aB Q1 aa 201
noncomputable def rwS:Eng.Spec:=aB Q1 aa 202
noncomputable def rlS:Eng.Spec:=aB Q1 aa 203
noncomputable def rmS:Eng.Spec:=aB Q1 aa 204
theorem Wt:SpecOk Tryz.prog 201 adu:=af o6 mixed Tryz.func201 (by kernel_rfl) (by kernel_rfl)
theorem aat:SpecOk Tryz.prog 202 rwS:=af o6 mixed Tryz.func202 (by kernel_rfl) (by kernel_rfl)
theorem adi:SpecOk Tryz.prog 203 rlS:=af o6 mixed Tryz.func203 (by kernel_rfl) (by kernel_rfl)
theorem aaN:SpecOk Tryz.prog 204 rmS:=af o6 mixed Tryz.func204 (by kernel_rfl) (by kernel_rfl)
noncomputable def Q2:Cfg:=⟨Tryz.prog,lookG [(201,adu),(202,rwS),(203,rlS),(204,rmS),(30,jL)],[],0⟩
theorem DJ:Q2.Ok:=Cfg.ok ⟨Wt,aat,adi,aaN,nK,trivial⟩ trivial
theorem OW {c:Cf} (hm:ee c=true) (a:Int):(if 1000000<upV (IntKind.wrap .i64 (c.up*aF a 1 1000000)) 1000 then 1000000 else upV (IntKind.wrap .i64 (c.up*aF a 1 1000000)) 1000)=zG c a:=by
 obtain ⟨h1,h2,h3⟩:=upR hm a
 rw [h1,acD h2 h3]
 unfold zG adn
 rw [if_pos hm]
theorem QN {c:Cf} (hm:ee c=true) (a:Int):(inR (IntKind.wrap .i64 (c.up*aF a 1 1000000))&&inR 1000)=true:=by
 obtain ⟨h1,h2,h3⟩:=upR hm a
 rw [h1,s7 (by omega) (by omega)];rfl
theorem JR {c:Cf} (hm:ee c=true) (a:Int):(inR (IntKind.wrap .i64 (1000*aF a 0 1000000))&&inR c.down)=true:=by
 obtain ⟨h1,-⟩:=dnR hm a
 have h2:=cu a (lo:=0) (hi:=1000000) (by omega)
 have h3:=(may_of hm).down
 rw [h1,s7 (by omega) (by omega),s7 (by omega) (by omega)];rfl
theorem I3 {c:Cf} (hm:ee c=true) (a:Int):dnV (IntKind.wrap .i64 (1000*aF a 0 1000000)) c.down=x9 c a:=by
 obtain ⟨h1,h2,-⟩:=dnR hm a
 rw [h1,h2];unfold x9;rw [if_pos hm]
theorem mi:SpecOk Tryz.prog 174 xf:=by
 refine SpecOk.cII (af DJ mixed Tryz.func174 (by kernel_rfl) (by kernel_rfl)) (fun _ _ _=>rfl) fun c w a _=>⟨_,?_,rfl,rfl⟩
 have e:T.anon (aB Q2 aa 174 [eF c,bU w,bU a])=T.ite none (!ee c) (T.ret (bU 0)) (T.ite none (inR (IntKind.wrap .i64 (1000*aF a 0 1000000))&&inR c.down) (T.ite none (inR (IntKind.wrap .i64 (c.up*if 1>aF a 0 1000000 then 1 else aF a 0 1000000))&&inR 1000)
  (T.ret (bU (abb (dnV (IntKind.wrap .i64 (1000*aF a 0 1000000)) c.down) w (if 1000000<upV (IntKind.wrap .i64 (c.up*if 1>aF a 0 1000000 then 1 else aF a 0 1000000)) 1000 then 1000000 else upV (IntKind.wrap .i64 (c.up*if 1>aF a 0 1000000 then 1 else aF a 0 1000000)) 1000)))) T.fail) T.fail):=by kernel_rfl
 rw [<- T.eval_anon,e,Ej]
 refine bg (fun h1 => ?_) fun h1 => ?_
 ·exact jq (by unfold gS;rw [Bool.not_eq_true'] at h1;rw [h1];rfl)
 ·rw [Bool.not_eq_false'] at h1
  refine gM (JR h1 a) (gM (QN h1 a) (jq ?_))
  rw [I3 h1,OW h1];unfold gS;rw [if_pos h1]
def L5 (c:Cf) (r q:Int):Int:=if ee c then (if c.burst = -1000 then -1000 else bT (bT (aF r 0 1000000*c.limit*1000 - q) - c.burst)) else 0
def proxyB (c:Cf) (r e:Int):Bool := !ee c||c.burst == -1000||decide (r<1)||(decide (0<c.burst)&&decide (e<0))
def ZP:Eng.Spec:=cII (fun _ _ q=>inR q) fun c r q=>bU (L5 c r q)
def xV:Eng.Spec:=cII (fun _ _ _=>true) fun c r e=>.s (.bool (proxyB c r e))
noncomputable def A1:Cfg:=⟨Tryz.prog,lookG [(31,jL),(69,abf),(68,nk)],[],0⟩
theorem abn:A1.Ok:=Cfg.ok ⟨dn,KU,mN,trivial⟩ trivial
noncomputable def Ke:Eng.Spec:=aB A1 aa 67
theorem Gb:SpecOk Tryz.prog 67 Ke:=af abn mixed Tryz.func67 (by kernel_rfl) (by kernel_rfl)
noncomputable def A2:Cfg:=⟨Tryz.prog,lookG [(69,abf),(68,nk),(67,Ke)],[],0⟩
theorem WD:A2.Ok:=Cfg.ok ⟨KU,mN,Gb,trivial⟩ trivial
def ab9 (k:Int->Int) (c:Cf) (r q:Int):T V :=
 T.ite none (!ee c) (T.ret (bU 0)) (T.ite none (c.burst == -1000) (T.ret (bU (-1000))) (T.ite none (inR (IntKind.wrap .i64 (IntKind.wrap .i64 (k r*c.limit)*1000))&&inR q) (T.ite none (inR (bT (IntKind.wrap .i64 (IntKind.wrap .i64 (k r*c.limit)*1000) - q))&&inR c.burst)
  (T.ret (bU (bT (bT (IntKind.wrap .i64 (IntKind.wrap .i64 (k r*c.limit)*1000) - q) - c.burst)))) T.fail) T.fail))
theorem PU {c:Cf} (h:c.May) (r:Int):IntKind.wrap .i64 (IntKind.wrap .i64 (aF r 0 1000000*c.limit)*1000)=aF r 0 1000000*c.limit*1000/\0<=aF r 0 1000000*c.limit/\aF r 0 1000000*c.limit<=1000000000:=by
 have h1:=h.limit
 have h2:=cu r (lo:=0) (hi:=1000000) (by omega)
 have h4:aF r 0 1000000*c.limit<=1000000*1000:=Int.mul_le_mul h2.2 h1.2 (by omega) (by omega)
 have h5:0<=aF r 0 1000000*c.limit:=Int.mul_nonneg (by omega) (by omega)
 rw [wrap64_in (n:=aF r 0 1000000*c.limit) (by omega) (by omega),wrap64_in (by omega) (by omega)]
 omega
theorem GG {c:Cf} (h:c.May) : -1000<=c.burst/\c.burst<=100000000:=by have:=h.burst;omega
theorem Dr {k:Int->Int} (hk:∀ r,k r=aF r 0 1000000) {c:Cf} {r q:Int} (hq:inR q=true):(ab9 k c r q).eval=some (bU (L5 c r q)):=by
 unfold ab9
 rw [hk]
 refine bg (fun h => ?_) fun h=>bg (fun h2 => ?_) fun h2 => ?_
 ·rw [Bool.not_eq_true'] at h;exact jq (by unfold L5;rw [h];rfl)
 ·rw [Bool.not_eq_false'] at h;rw [beq_iff_eq] at h2;exact jq (by unfold L5;rw [if_pos h,if_pos h2])
 ·rw [Bool.not_eq_false'] at h;rw [beq_eq_false_iff_ne] at h2
  obtain ⟨e,r1,r2⟩:=PU (may_of h) r
  have hb:=GG (may_of h)
  rw [e]
  refine gM (by rw [s7 (by omega) (by omega),hq];rfl) (gM (by rw [rU,s7 (by omega) (by omega)];rfl) (jq ?_))
  unfold L5;rw [if_pos h,if_neg h2]
theorem DZ:SpecOk Tryz.prog 39 ZP:=by
 refine SpecOk.cII (af WD mixed Tryz.func39 (by kernel_rfl) (by kernel_rfl)) (fun _ _ _=>rfl) fun c r q h=>⟨_,?_,rfl,rfl⟩
 have e:T.anon (aB A2 aa 39 [eF c,bU r,bU q])=ab9 (fun r=>aF r 0 1000000) c r q:=by kernel_rfl
 rw [<- T.eval_anon,e]
 exact Dr (fun _=>rfl) h
theorem qy:SpecOk Tryz.prog 38 xV:=by
 refine SpecOk.cII (af WD mixed Tryz.func38 (by kernel_rfl) (by kernel_rfl)) (fun _ _ _=>rfl) fun c r q h => ?_
 have e:T.anon (aB A2 aa 38 [eF c,bU r,bU q])=T.ite none (!ee c) (T.ret V.tt) (T.ite none (c.burst == -1000) (T.ret V.tt) (T.ret (V.s (S.bool (bif decide (r<1) then true else bif decide (0<c.burst) then decide (q<0) else false))))):=by kernel_rfl
 rw [<- T.eval_anon,e]
 unfold proxyB
 cases h1 : !ee c
 ·cases h2:c.burst == -1000
  ·exact ⟨_,rfl,rfl,by simp [V.den,S.den,nC,nS]⟩
  ·exact ⟨_,rfl,rfl,by simp [V.den,S.den]⟩
 ·exact ⟨_,rfl,rfl,by simp [V.den,S.den]⟩
def bv:V->V
 | .tt=>.s (.bool true)
 | .ff=>.s (.bool false)
 | v=>v
theorem GC {n:Nat} {w:World} {v:V} {x:Value} (h:ku n w v x):ku n w (bv v) x:=by cases v<;>exact h
theorem PE {v:V}:fx (bv v)=fx v:=by cases v<;>rfl
theorem tf {n:Nat} {w:World}:∀ {l:List V} {xs:List Value},ju n w l xs->ju n w (l.map bv) xs
 | [],[],_=>trivial
 | v::r,x::xs,h=>⟨GC h.1,tf h.2⟩
 | [],_::_,h=>h.elim
 | _::_,[],h=>h.elim
theorem SpecOk.bv {P:Program} {f:Nat} {sp:Eng.Spec} (h:SpecOk P f sp):SpecOk P f (fun args=>sp (args.map Conf.bv)) :=
 ⟨h.body,fun args v xs w hG ha he hr hh=>h.calls (args.map Conf.bv) v xs w hG (by
  unfold gF at *
  rw [List.all_map,List.all_eq_true] at *
  intro x hx
  show fx (Conf.bv x)=true
  rw [PE]
  exact ha x hx) he hr (tf hh)⟩
def kT (s m:Int):V:=.agg [bU s,bU m]
structure Md where
 since:Int
 most:Int
def Md.v (m:Md):V:=kT m.since m.most
def A6 (c:Cf) (m:Md) (n:Int) (b:Bool):Md :=
 if !ee c||decide (n<0)||decide (1099511627776<n) then m else if b then ⟨n,if m.since<0 then 0 else m.most⟩ else if m.since<0 then m else if c.stable<=n - m.since then ⟨-1,0⟩ else m
def keepA (m:Md) (w:Int):Md:=if m.since<0 then m else ⟨m.since,if w>m.most then w else m.most⟩
def keepW (m:Md) (w:Int):Int:=if m.since<0 then w else if w>m.most then w else m.most
def D6:Eng.Spec
 | [x,.agg [.s (.int .i64 s),.s (.int .i64 m)],.s (.int .i64 n),.s (.bool b)]=>gy x fun c=>.ite none (inR s&&inR n) (.ret (A6 c ⟨s,m⟩ n b).v) .fail
 | _=>.fail
def OC:Eng.Spec:=fun args=>D6 (args.map bv)
def w7:Eng.Spec
 | [.agg [.s (.int .i64 s),.s (.int .i64 m)],.s (.int .i64 w)]=>.ret (.tup [(keepA ⟨s,m⟩ w).v,bU (keepW ⟨s,m⟩ w)])
 | _=>.fail
def isS:Eng.Spec
 | [.agg [.s (.int .i64 s),.s (.int .i64 m)]]=>.ret (.s (.bool (decide (0<=s))))
 | _=>.fail
noncomputable def aaU:Eng.Spec:=aB C0 aa 170
theorem KF:SpecOk Tryz.prog 170 aaU:=af gK mixed Tryz.func170 (by kernel_rfl) (by kernel_rfl)
def DY:Eng.Spec
 | []=>.ret (kT (-1) 0)
 | _=>.fail
theorem vU:SpecOk Tryz.prog 64 DY:=by
 refine (af gK mixed Tryz.func64 (by kernel_rfl) (by kernel_rfl)).of_den fun args v hfl h => ?_
 clear hfl
 unfold DY at h
 split at h
 ·obtain rfl:=Option.some.inj h
  have e:aB C0 aa 64 []=.ret (kT (-1) 0):=by kernel_rfl
  rw [e]
  exact ⟨_,rfl,⟨rfl,rfl⟩,rfl⟩
 ·cases h
noncomputable def A4:Cfg:=⟨Tryz.prog,lookG [(170,aaU)],[],0⟩
theorem Rp:A4.Ok:=Cfg.ok ⟨KF,trivial⟩ trivial
noncomputable def ado:Eng.Spec:=aB A4 aa 169
theorem WT:SpecOk Tryz.prog 169 ado:=af Rp mixed Tryz.func169 (by kernel_rfl) (by kernel_rfl)
noncomputable def A5:Cfg:=⟨Tryz.prog,lookG [(31,jL),(170,aaU),(64,DY),(169,ado)],[],0⟩
theorem aa0:A5.Ok:=Cfg.ok ⟨dn,KF,vU,WT,trivial⟩ trivial
theorem G1:SpecOk Tryz.prog 136 isS:=by
 refine (af Rp mixed Tryz.func136 (by kernel_rfl) (by kernel_rfl)).of_den fun args v hfl h => ?_
 clear hfl
 unfold isS at h
 split at h
 ·rename_i s m
  obtain rfl:=Option.some.inj h
  have e:T.anon (aB A4 aa 136 [kT s m])=.ite none (decide (s<0)) (.ret .ff) (.ret .tt):=by kernel_rfl
  rw [<- T.eval_anon,show aB A4 aa 136 [.agg [.s (.int .i64 s),.s (.int .i64 m)]]=aB A4 aa 136 [kT s m] from rfl,e]
  by_cases hs:s<0
  ·rw [decide_eq_true hs];exact ⟨_,rfl,⟨rfl,rfl⟩,by rw [decide_eq_false (by omega)];rfl⟩
  ·rw [decide_eq_false hs];exact ⟨_,rfl,⟨rfl,rfl⟩,by rw [decide_eq_true (by omega)];rfl⟩
 ·cases h
theorem C9 {i:Md} {a b:Int} (h1:a=i.since) (h2:b=i.most):(T.ret (V.agg [V.s (.int .i64 a),V.s (.int .i64 b)])).eval=some i.v:=by rw [h1,h2];rfl
theorem Cm:SpecOk Tryz.prog 132 OC:=by
 refine SpecOk.bv (sp:=D6) ?_
 refine (af aa0 mixed Tryz.func132 (by kernel_rfl) (by kernel_rfl)).of_den fun args v hfl h => ?_
 clear hfl
 unfold D6 at h
 split at h
 ·rename_i x s m n b
  obtain ⟨c,rfl,h⟩:=bF h
  obtain ⟨hc,h⟩:=aK h
  obtain rfl:=Option.some.inj h
  refine ⟨_,?_,⟨rfl,rfl⟩,rfl⟩
  have e:T.anon (aB A5 aa 132 [eF c,.agg [.s (.int .i64 s),.s (.int .i64 m)],.s (.int .i64 n),.s (.bool b)])=T.ite none (bif bif !ee c then true else decide (n<0) then true else decide (1099511627776<n)) (.ret (kT s m))
   (T.ite none b (T.ite none (decide (s<0)) (.ret (kT n 0)) (.ret (kT n m))) (T.ite none (decide (s<0)) (.ret (kT s m)) (T.ite none (decide (c.stable<=IntKind.wrap .i64 (n - s))) (.ret (kT (-1) 0)) (.ret (kT s m))))):=by kernel_rfl
  rw [<- T.eval_anon,e]
  simp only [Bool.and_eq_true,bV] at hc
  unfold A6
  simp only [nS]
  refine bg (fun h1 => ?_) fun h1 => ?_
  ·rw [if_pos h1];rfl
  ·rw [if_neg (by simp [h1])]
   have hn:0<=n/\n<=1099511627776:=by simp only [Bool.or_eq_false_iff,decide_eq_false_iff_not] at h1;omega
   refine bg (fun h2 => ?_) fun h2 => ?_
   ·rw [h2]
    refine bg (fun h3 => ?_) fun h3 => ?_<;>simp only [decide_eq_true_eq,decide_eq_false_iff_not] at h3
    ·exact C9 rfl (by simp [h3])
    ·exact C9 rfl (by simp [h3])
   ·rw [h2]
    refine bg (fun h3 => ?_) fun h3=>bg (fun h4 => ?_) fun h4 => ?_<;>simp only [decide_eq_true_eq,decide_eq_false_iff_not] at h3
    ·simp only [h3,if_true,Bool.false_eq_true,if_false];rfl
    ·rw [wrap64_in (by omega) (by omega),decide_eq_true_eq] at h4
     simp only [h3,h4,if_true,Bool.false_eq_true,if_false];rfl
    ·rw [wrap64_in (by omega) (by omega),decide_eq_false_iff_not] at h4
     simp only [h3,h4,Bool.false_eq_true,if_false];rfl
 ·cases h
theorem Eu:SpecOk Tryz.prog 172 w7:=by
 refine (af Rp mixed Tryz.func172 (by kernel_rfl) (by kernel_rfl)).of_den fun args v hfl h => ?_
 clear hfl
 unfold w7 at h
 split at h
 ·rename_i s m n
  obtain rfl:=Option.some.inj h
  refine ⟨_,?_,⟨rfl,rfl⟩,rfl⟩
  have e:T.anon (aB A4 aa 172 [.agg [.s (.int .i64 s),.s (.int .i64 m)],.s (.int .i64 n)])=T.ite none (decide (s<0)) (.ret (.tup [kT s m,bU n])) (.ret (.tup [kT s (if n>m then n else m),bU (if n>m then n else m)])):=by kernel_rfl
  rw [<- T.eval_anon,e]
  unfold keepA keepW
  by_cases hs:s<0
  ·rw [decide_eq_true hs,if_pos hs,if_pos hs];rfl
  ·rw [decide_eq_false hs,if_neg hs,if_neg hs];rfl
 ·cases h
def zI (s n:Int) (b:Bool):Int:=if b then (if s<0 then n else s) else -1
def mayZ (c:Cf) (s n m w b:Int):Bool:=(m==0)&&(w==0)&&(b==0)&&decide (0<=s)&&ee c&&(c.min==0)&&decide (s<=n)&&decide (c.grace<=n - s)
def vx (c:Cf) (s n want have_ m w b:Int):Int:=if 0<want then want else if ((have_==0)&&(w==0))||mayZ c s n m w b then 0 else 1
def stV (s:Int):V:=.agg [bU s]
def wu:Eng.Spec
 | [.agg [.s (.int .i64 s)],.s (.int .i64 n),.s (.bool b)]=>.ret (stV (zI s n b))
 | _=>.fail
def Ds:Eng.Spec:=fun args=>wu (args.map bv)
def MU:Eng.Spec
 | [x,.agg [.s (.int .i64 s)],.s (.int .i64 n),.s (.int .i64 m),.s (.int .i64 w),.s (.int .i64 b)]=>gy x fun c=>.ite none (inR s&&inR n) (.ret (.s (.bool (mayZ c s n m w b)))) .fail
 | _=>.fail
def xE:Eng.Spec
 | [x,.agg [.s (.int .i64 s)],.s (.int .i64 n),.s (.int .i64 want),.s (.int .i64 hv),.s (.int .i64 m),.s (.int .i64 w),.s (.int .i64 b)]=>gy x fun c=>.ite none (inR s&&inR n) (.ret (bU (vx c s n want hv m w b))) .fail
 | _=>.fail
noncomputable def adX:Eng.Spec:=aB C0 aa 104
theorem T2:SpecOk Tryz.prog 104 adX:=af gK mixed Tryz.func104 (by kernel_rfl) (by kernel_rfl)
noncomputable def grS:Eng.Spec:=aB C0 aa 175
theorem abU:SpecOk Tryz.prog 175 grS:=af gK mixed Tryz.func175 (by kernel_rfl) (by kernel_rfl)
noncomputable def PZ:Eng.Spec:=aB C0 aa 35
theorem Em:SpecOk Tryz.prog 35 PZ:=af gK mixed Tryz.func35 (by kernel_rfl) (by kernel_rfl)
noncomputable def Z1:Cfg:=⟨Tryz.prog,lookG [(31,jL),(104,adX),(175,grS),(35,PZ),(30,jL)],[],0⟩
theorem JU:Z1.Ok:=Cfg.ok ⟨dn,T2,abU,Em,nK,trivial⟩ trivial
theorem MA {a b:Int} (h:a=b):(T.ret (V.agg [V.s (.int .i64 a)])).eval=some (stV b):=by rw [h];rfl
theorem yK:SpecOk Tryz.prog 75 Ds:=by
 refine SpecOk.bv (sp:=wu) ?_
 refine (af JU mixed Tryz.func75 (by kernel_rfl) (by kernel_rfl)).of_den fun args v hfl h => ?_
 clear hfl
 unfold wu at h
 split at h
 ·rename_i s n b
  obtain rfl:=Option.some.inj h
  refine ⟨_,?_,⟨rfl,rfl⟩,rfl⟩
  have e:T.anon (aB Z1 aa 75 [.agg [.s (.int .i64 s)],.s (.int .i64 n),.s (.bool b)])=T.ite none (!b) (.ret (stV (-1))) (T.ite none (decide (s<0)) (.ret (stV n)) (.ret (stV s))):=by kernel_rfl
  rw [<- T.eval_anon,e]
  unfold zI
  refine bg (fun h => ?_) fun h=>bg (fun h2 => ?_) fun h2 => ?_<;>simp only [Bool.not_eq_true',Bool.not_eq_false',decide_eq_true_eq,decide_eq_false_iff_not] at *
  ·subst h;exact MA rfl
  ·subst h;exact MA (by simp [h2])
  ·subst h;exact MA (by simp [h2])
 ·cases h
theorem DF {c:Cf} {s n m w b:Int} (hs : -9223372036854775808<=s) (hn:n<=9223372036854775807):∃ v,(T.ite none (bif bif m != 0 then true else w != 0 then true else b != 0) (T.ret V.ff) (T.ite none (decide (s<0)) (T.ret V.ff) (T.ret (V.s (.bool (bif bif ee c then c.min==0 else false then bif decide (s<=n) then decide (c.grace<=IntKind.wrap .i64 (n - s)) else false else false)))))).eval=some v/\flat v=true/\v.den nu0=.bool (mayZ c s n m w b):=by
 unfold mayZ
 by_cases h1:(bif bif m != 0 then true else w != 0 then true else b != 0)=true
 ·rw [h1]
  refine ⟨.ff,rfl,rfl,?_⟩
  have:((m==0)&&(w==0)&&(b==0))=false:=by
   simp only [nS,Bool.or_eq_true,bne_iff_ne] at h1
   simp only [Bool.and_eq_false_iff,beq_eq_false_iff_ne];exact h1
  simp only [V.den]
  rw [this];simp
 ·have h1:(bif bif m != 0 then true else w != 0 then true else b != 0)=false:=by simpa using h1
  have e1:((m==0)&&(w==0)&&(b==0))=true:=by
   simp only [nS,Bool.or_eq_false_iff] at h1
   simp only [Bool.and_eq_true];simpa [bne] using h1
  rw [h1,e1]
  by_cases h2:s<0
  ·rw [decide_eq_true h2,decide_eq_false (show ¬ 0<=s by omega)]
   exact ⟨.ff,rfl,rfl,by simp [V.den]⟩
  ·rw [decide_eq_false h2,decide_eq_true (show 0<=s by omega)]
   refine ⟨_,rfl,rfl,?_⟩
   simp only [V.den,S.den,nC,Bool.true_and]
   by_cases h3:s<=n
   ·rw [wrap64_in (n:=n - s) (by omega) (by omega)]
    simp only [Bool.and_assoc]
   ·rw [decide_eq_false h3];simp
theorem Pk:SpecOk Tryz.prog 137 MU:=by
 refine (af JU mixed Tryz.func137 (by kernel_rfl) (by kernel_rfl)).of_den fun args v hfl h => ?_
 clear hfl
 unfold MU at h
 split at h
 ·rename_i x s n m w b
  obtain ⟨c,rfl,h⟩:=bF h
  obtain ⟨hc,h⟩:=aK h
  obtain rfl:=Option.some.inj h
  simp only [Bool.and_eq_true,bV] at hc
  have e:T.anon (aB Z1 aa 137 [eF c,.agg [.s (.int .i64 s)],.s (.int .i64 n),.s (.int .i64 m),.s (.int .i64 w),.s (.int .i64 b)])=T.ite none (bif bif m != 0 then true else w != 0 then true else b != 0) (T.ret V.ff) (T.ite none (decide (s<0)) (T.ret V.ff) (T.ret (V.s (.bool (bif bif ee c then c.min==0 else false then bif decide (s<=n) then decide (c.grace<=IntKind.wrap .i64 (n - s)) else false else false))))):=by kernel_rfl
  rw [<- T.eval_anon,e]
  obtain ⟨v,h1,h2,h3⟩:=DF (c:=c) (m:=m) (w:=w) (b:=b) hc.1.1 hc.2.2
  exact ⟨v,h1,⟨h2,rfl⟩,h3⟩
 ·cases h
noncomputable def Z2:Cfg:=⟨Tryz.prog,lookG [(137,MU)],[],0⟩
theorem MT:Z2.Ok:=Cfg.ok ⟨Pk,trivial⟩ trivial
theorem AK {c:Cf} {s n wa hv m w b:Int} (hg:(inR s&&inR n)=true):(T.ite none (decide (0<wa)) (T.ret (bU wa)) (T.ite none (bif (bif hv==0 then w==0 else false)==false&&true then inR s&&inR n else true) (T.ite none (bif bif hv==0 then w==0 else false then true else mayZ c s n m w b) (T.ret (bU 0)) (T.ret (bU 1))) T.fail)).eval=some (bU (vx c s n wa hv m w b)):=by
 unfold vx
 refine bg (fun h => ?_) fun h=>gM (zo hg) (bg (fun h2 => ?_) fun h2 => ?_)<;>simp only [decide_eq_true_eq,decide_eq_false_iff_not] at h
 ·exact jq (by rw [if_pos h])
 ·rw [nS,nC] at h2
  exact jq (by rw [if_neg h,if_pos h2])
 ·rw [nS,nC] at h2
  exact jq (by rw [if_neg h,if_neg (by simp [h2])])
theorem yB:SpecOk Tryz.prog 105 xE:=by
 refine (af MT mixed Tryz.func105 (by kernel_rfl) (by kernel_rfl)).of_den fun args v hfl h => ?_
 clear hfl
 unfold xE at h
 split at h
 ·rename_i x s n wa hv m w b
  obtain ⟨c,rfl,h⟩:=bF h
  obtain ⟨hc,h⟩:=aK h
  obtain rfl:=Option.some.inj h
  refine ⟨_,?_,⟨rfl,rfl⟩,rfl⟩
  have e:T.anon (aB Z2 aa 105 [eF c,.agg [.s (.int .i64 s)],.s (.int .i64 n),.s (.int .i64 wa),.s (.int .i64 hv),.s (.int .i64 m),.s (.int .i64 w),.s (.int .i64 b)])=T.ite none (decide (0<wa)) (T.ret (bU wa)) (T.ite none (bif (bif hv==0 then w==0 else false)==false&&true then inR s&&inR n else true) (T.ite none (bif bif hv==0 then w==0 else false then true else mayZ c s n m w b) (T.ret (bU 0)) (T.ret (bU 1))) T.fail):=by kernel_rfl
  rw [<- T.eval_anon,e]
  exact AK hc
 ·cases h
end Go.Proofs.YtggakaogidjjbaaGreatDoor.Conf
