import Derived.Test.YtncmdfdppmfeeaaGreatDoorGJ
namespace Go.Proofs.YtncmdfdppmfeeaaGreatDoor.Conf
open Go.Eng Go.RowKit Mil
set_option linter.unusedVariables false
set_option linter.unusedSimpArgs false
def inC (c:Cf):Bool:=inR c.target&&inR c.util
theorem pq (n:Int):inR (cA n)=true:=dA.2 (ir n)
theorem Gy (c:Cf):inR (GS c)=true:=by
 have:=ir (mulI c.target c.util)
 rw [dA];unfold GS;omega
theorem cQ (a:Int) {lo hi:Int} (h:lo<=hi):lo<=aE a lo hi/\aE a lo hi<=hi:=by unfold aE;split<;>(try split)<;>omega
theorem r9 {n:Int} (h1 : -9223372036854775808<=n) (h2:n<=9223372036854775807):inR n=true:=dA.2 ⟨h1,h2⟩
def cI (g:Cf->Int->Bool) (f:Cf->Int->V):Eng.Spec
 | [x,.s (.int .i64 a)]=>ga x fun c=>.ite none (g c a) (.ret (f c a)) .fail
 | _=>.fail
theorem SpecOk.cI {P:Program} {n:Nat} {sp:Eng.Spec} {g:Cf->Int->Bool} {f:Cf->Int->V} (h:SpecOk P n sp) (hf:∀ c a,flat (f c a)=true)
  (he:∀ c a,g c a=true->∃ v,(sp [cG c,bK a]).eval=some v/\flat v=true/\v.den nu0=(f c a).den nu0):SpecOk P n (Conf.cI g f):=by
 refine h.of_den fun args v hfl h => ?_
 clear hfl
 unfold Conf.cI at h
 split at h
 ·rename_i x a
  obtain ⟨c,rfl,h⟩:=bM h
  obtain ⟨hc,h⟩:=aF h
  obtain rfl:=Option.some.inj h
  obtain ⟨v,h1,h2,h3⟩:=he c a hc
  exact ⟨v,h1,⟨h2,hf c a⟩,h3⟩
 ·cases h
def cII (g:Cf->Int->Int->Bool) (f:Cf->Int->Int->V):Eng.Spec
 | [x,.s (.int .i64 a),.s (.int .i64 b)]=>ga x fun c=>.ite none (g c a b) (.ret (f c a b)) .fail
 | _=>.fail
theorem SpecOk.cII {P:Program} {n:Nat} {sp:Eng.Spec} {g:Cf->Int->Int->Bool} {f:Cf->Int->Int->V} (h:SpecOk P n sp) (hf:∀ c a b,flat (f c a b)=true)
  (he:∀ c a b,g c a b=true->∃ v,(sp [cG c,bK a,bK b]).eval=some v/\flat v=true/\v.den nu0=(f c a b).den nu0):SpecOk P n (Conf.cII g f):=by
 refine h.of_den fun args v hfl h => ?_
 clear hfl
 unfold Conf.cII at h
 split at h
 ·rename_i x a b
  obtain ⟨c,rfl,h⟩:=bM h
  obtain ⟨hc,h⟩:=aF h
  obtain rfl:=Option.some.inj h
  obtain ⟨v,h1,h2,h3⟩:=he c a b hc
  exact ⟨v,h1,⟨h2,hf c a b⟩,h3⟩
 ·cases h
theorem gv {i:Option Nat} {c:Bool} {x y:T V} {v:V} (h:c=true) (h1:x.eval=some v):(T.ite i c x y).eval=some v:=by rw [h];exact h1
def ofC (c:Cf) (m:Int):Int:=if eR c then aE (upV m (GS c)) 0 1000000 else 0
def E7 (c:Cf) (w r:Int):Bool:=eR c&&decide (c.threshold*aE r 1 1000000<=aE w 0 1000000*1000)
def ofS:Eng.Spec:=cI (fun c a=>inC c&&inR a) fun c a=>bK (ofC c a)
def JJ:Eng.Spec:=cII (fun c a b=>inC c) fun c a b=>.s (.bool (E7 c a b))
noncomputable def W1:Cfg:=⟨Tryz.prog,lookG [(19,kW),(230,VU)],[],0⟩
theorem XW:W1.Ok:=Cfg.ok ⟨db,PI,trivial⟩ trivial
noncomputable def byS:Eng.Spec:=aC W1 aa 209
theorem W7:SpecOk Tryz.prog 209 byS:=ae XW mixed Tryz.func209 (by kernel_rfl) (by kernel_rfl)
noncomputable def W2:Cfg:=⟨Tryz.prog,lookG [(209,byS),(210,upS),(60,mF)],[],0⟩
theorem Th:W2.Ok:=Cfg.ok ⟨W7,SJ,lx,trivial⟩ trivial
theorem LJ {c:Cf} {a:Int} (h:(inC c&&inR a)=true):(T.ite none (!eR c) (T.ret (bK 0)) (T.ite none (inR c.target&&inR c.util) (T.ite none (inR a&&inR (GS c)) (T.ret (bK (aE (upV a (GS c)) 0 1000000))) T.fail) T.fail)).eval=some (bK (ofC c a)):=by
 rw [Bool.and_eq_true] at h
 refine aU (fun h1 => ?_) fun h1=>gv h.1 (gv (by rw [h.2,Gy];rfl) ?_)
 ·exact iI (by unfold ofC;rw [Bool.not_eq_true'] at h1;rw [h1];rfl)
 ·exact iI (by unfold ofC;rw [Bool.not_eq_false'] at h1;rw [h1];rfl)
theorem SB:SpecOk Tryz.prog 180 ofS:=by
 refine SpecOk.cI (ae Th mixed Tryz.func180 (by kernel_rfl) (by kernel_rfl)) (fun _ _=>rfl) fun c a h=>⟨_,?_,rfl,rfl⟩
 have e:T.anon (aC W2 aa 180 [cG c,bK a])=T.ite none (!eR c) (T.ret (bK 0)) (T.ite none (inR c.target&&inR c.util) (T.ite none (inR a&&inR (GS c)) (T.ret (bK (aE (upV a (GS c)) 0 1000000))) T.fail) T.fail):=by kernel_rfl
 rw [<- T.eval_anon,e]
 exact LJ h
theorem Hf {c:Cf} (h:eR c=true) (w r:Int):IntKind.wrap .i64 (c.threshold*aE r 1 1000000)=c.threshold*aE r 1 1000000/\IntKind.wrap .i64 (aE w 0 1000000*1000)=aE w 0 1000000*1000:=by
 have h1:=(may_of h).threshold
 have h2:=cQ r (lo:=1) (hi:=1000000) (by omega)
 have h3:=cQ w (lo:=0) (hi:=1000000) (by omega)
 have h4:c.threshold*aE r 1 1000000<=10000*1000000:=Int.mul_le_mul h1.2 h2.2 (by omega) (by omega)
 have h5:0<=c.threshold*aE r 1 1000000:=Int.mul_nonneg (by omega) (by omega)
 exact ⟨wrap64_in (by omega) (by omega),wrap64_in (by omega) (by omega)⟩
theorem BB:SpecOk Tryz.prog 182 JJ:=by
 refine SpecOk.cII (ae Th mixed Tryz.func182 (by kernel_rfl) (by kernel_rfl)) (fun _ _ _=>rfl) fun c a b h => ?_
 have e:T.anon (aC W2 aa 182 [cG c,bK a,bK b])=T.ite none (!eR c) (T.ret V.ff) (T.ite none (inR c.target&&inR c.util) (T.ret (V.s (S.bool (decide (IntKind.wrap .i64 (c.threshold*aE b 1 1000000)<=IntKind.wrap .i64 (aE a 0 1000000*1000)))))) T.fail):=by kernel_rfl
 rw [<- T.eval_anon,e]
 cases hm:eR c
 ·exact ⟨.ff,rfl,rfl,by unfold E7;rw [hm];rfl⟩
 ·refine ⟨.s (.bool (E7 c a b)),aU (fun h1=>by cases h1) fun _=>gv h ?_,rfl,rfl⟩
  exact NP (by unfold E7;rw [hm,(Hf hm a b).1,(Hf hm a b).2];rfl)
set_option maxRecDepth 100000
theorem xv {x y g:Bool} (h:g=true):(bif (x&&y) then g else true)=true:=by rw [h];cases x&&y<;>rfl
theorem Kj (v:Int) {p:Int} (hp:0<p):v<=upI v p*p/\upI v p*p<v+p:=by
 unfold upI
 rw [Int.fdiv_eq_ediv_of_nonneg _ (by omega)]
 have h1:=Int.ediv_mul_le (-v) (b:=p) (by omega)
 have h2:=Int.lt_ediv_add_one_mul_self (-v) hp
 rw [Int.neg_mul]
 rw [Int.add_mul] at h2
 omega
theorem AD {v p:Int} (hv:0<=v) (hp:0<p):0<=upI v p/\upI v p<=v:=by
 obtain ⟨h1,h2⟩:=Kj v hp
 constructor
 ·by_cases h:upI v p<0
  ·have:upI v p*p<0:=Int.mul_neg_of_neg_of_pos h hp
   omega
  ·omega
 ·by_cases h:v<upI v p
  ·have h3:(v+1)*p<=upI v p*p:=Int.mul_le_mul_of_nonneg_right (by omega) (by omega)
   have h4:v*1<=v*p:=Int.mul_le_mul_of_nonneg_left (by omega) hv
   rw [Int.add_mul] at h3
   omega
  ·omega
def Zl (q:Int):Int:=if 1000000<q then 1000000 else q
def L9 (c:Cf) (a:Int):Int:=if eR c then Zl (upI (c.up*aE a 1 1000000) 1000) else 0
def zL (c:Cf) (a:Int):Int:=if eR c then 1000*aE a 0 1000000 / c.down else 0
def ZE (lo w hi:Int):Int:=if hi<(if lo>w then lo else w) then hi else (if lo>w then lo else w)
def Cx (c:Cf) (w a:Int):Int:=if eR c then ZE (zL c a) w (L9 c a) else 0
theorem Bv (a:Int):(if 1>aE a 0 1000000 then 1 else aE a 0 1000000)=aE a 1 1000000:=by
 unfold aE;repeat' split
 all_goals omega
theorem upR {c:Cf} (h:eR c=true) (a:Int):IntKind.wrap .i64 (c.up*aE a 1 1000000)=c.up*aE a 1 1000000/\0<=c.up*aE a 1 1000000/\c.up*aE a 1 1000000<=1000000000000:=by
 have h1:=(may_of h).up
 have h2:=cQ a (lo:=1) (hi:=1000000) (by omega)
 have h4:c.up*aE a 1 1000000<=1000000*1000000:=Int.mul_le_mul h1.2 h2.2 (by omega) (by omega)
 have h5:0<=c.up*aE a 1 1000000:=Int.mul_nonneg (by omega) (by omega)
 exact ⟨wrap64_in (by omega) (by omega),h5,by omega⟩
theorem XH {x:Int} (h1:0<=x) (h2:x<=1000000000000):upV x 1000=upI x 1000:=by
 have:=AD h1 (show (0:Int)<1000 by decide)
 unfold upV
 rw [if_neg (by decide),(eK _ (by omega) (by omega)).1]
theorem dnR {c:Cf} (h:eR c=true) (a:Int):IntKind.wrap .i64 (1000*aE a 0 1000000)=1000*aE a 0 1000000/\dnV (1000*aE a 0 1000000) c.down=1000*aE a 0 1000000 / c.down/\0<=1000*aE a 0 1000000 / c.down/\1000*aE a 0 1000000 / c.down<=1000*aE a 0 1000000:=by
 have h1:=(may_of h).down
 have h2:=cQ a (lo:=0) (hi:=1000000) (by omega)
 have h3:=Int.ediv_nonneg (a:=1000*aE a 0 1000000) (b:=c.down) (by omega) (by omega)
 have h4:=Int.ediv_le_self (a:=1000*aE a 0 1000000) c.down (by omega)
 refine ⟨wrap64_in (by omega) (by omega),?_,h3,h4⟩
 unfold dnV dnI
 rw [if_neg (by omega),Int.fdiv_eq_ediv_of_nonneg _ (by omega),(eK _ (by omega) (by omega)).1]
def tF:Eng.Spec:=cII (fun _ _ _=>true) fun c w a=>bK (Cx c w a)
noncomputable def Q1:Cfg:=⟨Tryz.prog,lookG [(19,kW),(210,upS),(252,dnS),(60,mF)],[],0⟩
theorem kZ:Q1.Ok:=Cfg.ok ⟨db,SJ,WD,lx,trivial⟩ trivial
noncomputable def Y9:Eng.Spec:=aC Q1 aa 235
noncomputable def rwS:Eng.Spec:=aC Q1 aa 236
noncomputable def rlS:Eng.Spec:=aC Q1 aa 237
noncomputable def rmS:Eng.Spec:=aC Q1 aa 238
theorem Rc:SpecOk Tryz.prog 235 Y9:=ae kZ mixed Tryz.func235 (by kernel_rfl) (by kernel_rfl)
theorem Yx:SpecOk Tryz.prog 236 rwS:=ae kZ mixed Tryz.func236 (by kernel_rfl) (by kernel_rfl)
theorem WI:SpecOk Tryz.prog 237 rlS:=ae kZ mixed Tryz.func237 (by kernel_rfl) (by kernel_rfl)
theorem VZ:SpecOk Tryz.prog 238 rmS:=ae kZ mixed Tryz.func238 (by kernel_rfl) (by kernel_rfl)
noncomputable def Q2:Cfg:=⟨Tryz.prog,lookG [(235,Y9),(236,rwS),(237,rlS),(238,rmS)],[],0⟩
theorem tL:Q2.Ok:=Cfg.ok ⟨Rc,Yx,WI,VZ,trivial⟩ trivial
theorem NY {c:Cf} (hm:eR c=true) (a:Int):(if 1000000<upV (IntKind.wrap .i64 (c.up*aE a 1 1000000)) 1000 then 1000000 else upV (IntKind.wrap .i64 (c.up*aE a 1 1000000)) 1000)=L9 c a:=by
 obtain ⟨h1,h2,h3⟩:=upR hm a
 rw [h1,XH h2 h3]
 unfold L9 Zl
 rw [if_pos hm]
theorem LI {c:Cf} (hm:eR c=true) (a:Int):(inR (IntKind.wrap .i64 (c.up*aE a 1 1000000))&&inR 1000)=true:=by
 obtain ⟨h1,h2,h3⟩:=upR hm a
 rw [h1,r9 (by omega) (by omega)];rfl
theorem EZ {c:Cf} (hm:eR c=true) (a:Int):(inR (IntKind.wrap .i64 (1000*aE a 0 1000000))&&inR c.down)=true:=by
 obtain ⟨h1,-⟩:=dnR hm a
 have h2:=cQ a (lo:=0) (hi:=1000000) (by omega)
 have h3:=(may_of hm).down
 rw [h1,r9 (by omega) (by omega),r9 (by omega) (by omega)];rfl
theorem DI {c:Cf} (hm:eR c=true) (a:Int):dnV (IntKind.wrap .i64 (1000*aE a 0 1000000)) c.down=zL c a:=by
 obtain ⟨h1,h2,-⟩:=dnR hm a
 rw [h1,h2];unfold zL;rw [if_pos hm]
theorem kP:SpecOk Tryz.prog 216 tF:=by
 refine SpecOk.cII (ae tL mixed Tryz.func216 (by kernel_rfl) (by kernel_rfl)) (fun _ _ _=>rfl) fun c w a _=>⟨_,?_,rfl,rfl⟩
 have e:T.anon (aC Q2 aa 216 [cG c,bK w,bK a])=T.ite none (!eR c) (T.ret (bK 0)) (T.ite none (inR (IntKind.wrap .i64 (1000*aE a 0 1000000))&&inR c.down) (T.ite none (inR (IntKind.wrap .i64 (c.up*if 1>aE a 0 1000000 then 1 else aE a 0 1000000))&&inR 1000)
  (T.ret (bK (ZE (dnV (IntKind.wrap .i64 (1000*aE a 0 1000000)) c.down) w (if 1000000<upV (IntKind.wrap .i64 (c.up*if 1>aE a 0 1000000 then 1 else aE a 0 1000000)) 1000 then 1000000 else upV (IntKind.wrap .i64 (c.up*if 1>aE a 0 1000000 then 1 else aE a 0 1000000)) 1000)))) T.fail) T.fail):=by kernel_rfl
 rw [<- T.eval_anon,e,Bv]
 refine aU (fun h1 => ?_) fun h1 => ?_
 ·exact iI (by unfold Cx;rw [Bool.not_eq_true'] at h1;rw [h1];rfl)
 ·rw [Bool.not_eq_false'] at h1
  refine gv (EZ h1 a) (gv (LI h1 a) (iI ?_))
  rw [DI h1,NY h1];unfold Cx;rw [if_pos h1]
def Oe (c:Cf) (r q:Int):Int:=if eR c then (if c.burst = -1000 then -1000 else cA (cA (aE r 0 1000000*c.limit*1000 - q) - c.burst)) else 0
def proxyB (c:Cf) (r e:Int):Bool := !eR c||c.burst == -1000||decide (r<1)||(decide (0<c.burst)&&decide (e<0))
def UQ:Eng.Spec:=cII (fun _ _ q=>inR q) fun c r q=>bK (Oe c r q)
def Cy:Eng.Spec:=cII (fun _ _ _=>true) fun c r e=>.s (.bool (proxyB c r e))
noncomputable def A1:Cfg:=⟨Tryz.prog,lookG [(19,kW),(61,WS),(60,mF)],[],0⟩
theorem Yf:A1.Ok:=Cfg.ok ⟨db,Ha,lx,trivial⟩ trivial
noncomputable def G2:Eng.Spec:=aC A1 aa 59
theorem Dt:SpecOk Tryz.prog 59 G2:=ae Yf mixed Tryz.func59 (by kernel_rfl) (by kernel_rfl)
noncomputable def A2:Cfg:=⟨Tryz.prog,lookG [(61,WS),(60,mF),(59,G2)],[],0⟩
theorem O1:A2.Ok:=Cfg.ok ⟨Ha,lx,Dt,trivial⟩ trivial
def V6 (k:Int->Int) (c:Cf) (r q:Int):T V :=
 T.ite none (!eR c) (T.ret (bK 0)) (T.ite none (c.burst == -1000) (T.ret (bK (-1000))) (T.ite none (inR (IntKind.wrap .i64 (IntKind.wrap .i64 (k r*c.limit)*1000))&&inR q) (T.ite none (inR (cA (IntKind.wrap .i64 (IntKind.wrap .i64 (k r*c.limit)*1000) - q))&&inR c.burst)
  (T.ret (bK (cA (cA (IntKind.wrap .i64 (IntKind.wrap .i64 (k r*c.limit)*1000) - q) - c.burst)))) T.fail) T.fail))
theorem JD {c:Cf} (h:c.May) (r:Int):IntKind.wrap .i64 (IntKind.wrap .i64 (aE r 0 1000000*c.limit)*1000)=aE r 0 1000000*c.limit*1000/\0<=aE r 0 1000000*c.limit/\aE r 0 1000000*c.limit<=1000000000:=by
 have h1:=h.limit
 have h2:=cQ r (lo:=0) (hi:=1000000) (by omega)
 have h4:aE r 0 1000000*c.limit<=1000000*1000:=Int.mul_le_mul h2.2 h1.2 (by omega) (by omega)
 have h5:0<=aE r 0 1000000*c.limit:=Int.mul_nonneg (by omega) (by omega)
 rw [wrap64_in (n:=aE r 0 1000000*c.limit) (by omega) (by omega),wrap64_in (by omega) (by omega)]
 omega
theorem Fc {c:Cf} (h:c.May) : -1000<=c.burst/\c.burst<=100000000:=by have:=h.burst;omega
theorem BP {k:Int->Int} (hk:∀ r,k r=aE r 0 1000000) {c:Cf} {r q:Int} (hq:inR q=true):(V6 k c r q).eval=some (bK (Oe c r q)):=by
 unfold V6
 rw [hk]
 refine aU (fun h => ?_) fun h=>aU (fun h2 => ?_) fun h2 => ?_
 ·rw [Bool.not_eq_true'] at h;exact iI (by unfold Oe;rw [h];rfl)
 ·rw [Bool.not_eq_false'] at h;rw [beq_iff_eq] at h2;exact iI (by unfold Oe;rw [if_pos h,if_pos h2])
 ·rw [Bool.not_eq_false'] at h;rw [beq_eq_false_iff_ne] at h2
  obtain ⟨e,r1,r2⟩:=JD (may_of h) r
  have hb:=Fc (may_of h)
  rw [e]
  refine gv (by rw [r9 (by omega) (by omega),hq];rfl) (gv (by rw [pq,r9 (by omega) (by omega)];rfl) (iI ?_))
  unfold Oe;rw [if_pos h,if_neg h2]
theorem Ct:SpecOk Tryz.prog 30 UQ:=by
 refine SpecOk.cII (ae O1 mixed Tryz.func30 (by kernel_rfl) (by kernel_rfl)) (fun _ _ _=>rfl) fun c r q h=>⟨_,?_,rfl,rfl⟩
 have e:T.anon (aC A2 aa 30 [cG c,bK r,bK q])=V6 (fun r=>aE r 0 1000000) c r q:=by kernel_rfl
 rw [<- T.eval_anon,e]
 exact BP (fun _=>rfl) h
theorem vi:SpecOk Tryz.prog 29 Cy:=by
 refine SpecOk.cII (ae O1 mixed Tryz.func29 (by kernel_rfl) (by kernel_rfl)) (fun _ _ _=>rfl) fun c r q h => ?_
 have e:T.anon (aC A2 aa 29 [cG c,bK r,bK q])=T.ite none (!eR c) (T.ret V.tt) (T.ite none (c.burst == -1000) (T.ret V.tt) (T.ret (V.s (S.bool (bif decide (r<1) then true else bif decide (0<c.burst) then decide (q<0) else false))))):=by kernel_rfl
 rw [<- T.eval_anon,e]
 unfold proxyB
 cases h1 : !eR c
 ·cases h2:c.burst == -1000
  ·exact ⟨_,rfl,rfl,by simp [V.den,S.den,qF,nv]⟩
  ·exact ⟨_,rfl,rfl,by simp [V.den,S.den]⟩
 ·exact ⟨_,rfl,rfl,by simp [V.den,S.den]⟩
def bv:V->V
 | .tt=>.s (.bool true)
 | .ff=>.s (.bool false)
 | v=>v
theorem DL {n:Nat} {w:World} {v:V} {x:Value} (h:iH n w v x):iH n w (bv v) x:=by cases v<;>exact h
theorem NR {v:V}:eV (bv v)=eV v:=by cases v<;>rfl
theorem rb {n:Nat} {w:World}:∀ {l:List V} {xs:List Value},iO n w l xs->iO n w (l.map bv) xs
 | [],[],_=>trivial
 | v::r,x::xs,h=>⟨DL h.1,rb h.2⟩
 | [],_::_,h=>h.elim
 | _::_,[],h=>h.elim
theorem SpecOk.bv {P:Program} {f:Nat} {sp:Eng.Spec} (h:SpecOk P f sp):SpecOk P f (fun args=>sp (args.map Conf.bv)) :=
 ⟨h.body,fun args v xs w hG ha he hr hh=>h.calls (args.map Conf.bv) v xs w hG (by
  unfold gj at *
  rw [List.all_map,List.all_eq_true] at *
  intro x hx
  show eV (Conf.bv x)=true
  rw [NR]
  exact ha x hx) he hr (rb hh)⟩
def ko (s m:Int):V:=.agg [bK s,bK m]
structure Md where
 since:Int
 most:Int
def Md.v (m:Md):V:=ko m.since m.most
def RG (c:Cf) (m:Md) (n:Int) (b:Bool):Md :=
 if !eR c||decide (n<0)||decide (1099511627776<n) then m else if b then ⟨n,if m.since<0 then 0 else m.most⟩ else if m.since<0 then m else if c.stable<=n - m.since then ⟨-1,0⟩ else m
def keepA (m:Md) (w:Int):Md:=if m.since<0 then m else ⟨m.since,if w>m.most then w else m.most⟩
def keepW (m:Md) (w:Int):Int:=if m.since<0 then w else if w>m.most then w else m.most
def Af:Eng.Spec
 | [x,.agg [.s (.int .i64 s),.s (.int .i64 m)],.s (.int .i64 n),.s (.bool b)]=>ga x fun c=>.ite none (inR s&&inR n) (.ret (RG c ⟨s,m⟩ n b).v) .fail
 | _=>.fail
def Kv:Eng.Spec:=fun args=>Af (args.map bv)
def sV:Eng.Spec
 | [.agg [.s (.int .i64 s),.s (.int .i64 m)],.s (.int .i64 w)]=>.ret (.tup [(keepA ⟨s,m⟩ w).v,bK (keepW ⟨s,m⟩ w)])
 | _=>.fail
def isS:Eng.Spec
 | [.agg [.s (.int .i64 s),.s (.int .i64 m)]]=>.ret (.s (.bool (decide (0<=s))))
 | _=>.fail
noncomputable def Wt:Eng.Spec:=aC C0 aa 212
theorem Hb:SpecOk Tryz.prog 212 Wt:=ae iQ mixed Tryz.func212 (by kernel_rfl) (by kernel_rfl)
def Cd:Eng.Spec
 | []=>.ret (ko (-1) 0)
 | _=>.fail
theorem uK:SpecOk Tryz.prog 56 Cd:=by
 refine (ae iQ mixed Tryz.func56 (by kernel_rfl) (by kernel_rfl)).of_den fun args v hfl h => ?_
 clear hfl
 unfold Cd at h
 split at h
 ·obtain rfl:=Option.some.inj h
  have e:aC C0 aa 56 []=.ret (ko (-1) 0):=by kernel_rfl
  rw [e]
  exact ⟨_,rfl,⟨rfl,rfl⟩,rfl⟩
 ·cases h
noncomputable def A4:Cfg:=⟨Tryz.prog,lookG [(212,Wt)],[],0⟩
theorem MY:A4.Ok:=Cfg.ok ⟨Hb,trivial⟩ trivial
noncomputable def ZI:Eng.Spec:=aC A4 aa 211
theorem Qa:SpecOk Tryz.prog 211 ZI:=ae MY mixed Tryz.func211 (by kernel_rfl) (by kernel_rfl)
noncomputable def A5:Cfg:=⟨Tryz.prog,lookG [(19,kW),(212,Wt),(56,Cd),(211,ZI)],[],0⟩
theorem W3:A5.Ok:=Cfg.ok ⟨db,Hb,uK,Qa,trivial⟩ trivial
theorem F5:SpecOk Tryz.prog 185 isS:=by
 refine (ae MY mixed Tryz.func185 (by kernel_rfl) (by kernel_rfl)).of_den fun args v hfl h => ?_
 clear hfl
 unfold isS at h
 split at h
 ·rename_i s m
  obtain rfl:=Option.some.inj h
  have e:T.anon (aC A4 aa 185 [ko s m])=.ite none (decide (s<0)) (.ret .ff) (.ret .tt):=by kernel_rfl
  rw [<- T.eval_anon,show aC A4 aa 185 [.agg [.s (.int .i64 s),.s (.int .i64 m)]]=aC A4 aa 185 [ko s m] from rfl,e]
  by_cases hs:s<0
  ·rw [decide_eq_true hs];exact ⟨_,rfl,⟨rfl,rfl⟩,by rw [decide_eq_false (by omega)];rfl⟩
  ·rw [decide_eq_false hs];exact ⟨_,rfl,⟨rfl,rfl⟩,by rw [decide_eq_true (by omega)];rfl⟩
 ·cases h
theorem CJ {i:Md} {a b:Int} (h1:a=i.since) (h2:b=i.most):(T.ret (V.agg [V.s (.int .i64 a),V.s (.int .i64 b)])).eval=some i.v:=by rw [h1,h2];rfl
theorem zy:SpecOk Tryz.prog 181 Kv:=by
 refine SpecOk.bv (sp:=Af) ?_
 refine (ae W3 mixed Tryz.func181 (by kernel_rfl) (by kernel_rfl)).of_den fun args v hfl h => ?_
 clear hfl
 unfold Af at h
 split at h
 ·rename_i x s m n b
  obtain ⟨c,rfl,h⟩:=bM h
  obtain ⟨hc,h⟩:=aF h
  obtain rfl:=Option.some.inj h
  refine ⟨_,?_,⟨rfl,rfl⟩,rfl⟩
  have e:T.anon (aC A5 aa 181 [cG c,.agg [.s (.int .i64 s),.s (.int .i64 m)],.s (.int .i64 n),.s (.bool b)])=T.ite none (bif bif !eR c then true else decide (n<0) then true else decide (1099511627776<n)) (.ret (ko s m))
   (T.ite none b (T.ite none (decide (s<0)) (.ret (ko n 0)) (.ret (ko n m))) (T.ite none (decide (s<0)) (.ret (ko s m)) (T.ite none (decide (c.stable<=IntKind.wrap .i64 (n - s))) (.ret (ko (-1) 0)) (.ret (ko s m))))):=by kernel_rfl
  rw [<- T.eval_anon,e]
  simp only [Bool.and_eq_true,dA] at hc
  unfold RG
  simp only [nv]
  refine aU (fun h1 => ?_) fun h1 => ?_
  ·rw [if_pos h1];rfl
  ·rw [if_neg (by simp [h1])]
   have hn:0<=n/\n<=1099511627776:=by simp only [Bool.or_eq_false_iff,decide_eq_false_iff_not] at h1;omega
   refine aU (fun h2 => ?_) fun h2 => ?_
   ·rw [h2]
    refine aU (fun h3 => ?_) fun h3 => ?_<;>simp only [decide_eq_true_eq,decide_eq_false_iff_not] at h3
    ·exact CJ rfl (by simp [h3])
    ·exact CJ rfl (by simp [h3])
   ·rw [h2]
    refine aU (fun h3 => ?_) fun h3=>aU (fun h4 => ?_) fun h4 => ?_<;>simp only [decide_eq_true_eq,decide_eq_false_iff_not] at h3
    ·simp only [h3,if_true,Bool.false_eq_true,if_false];rfl
    ·rw [wrap64_in (by omega) (by omega),decide_eq_true_eq] at h4
     simp only [h3,h4,if_true,Bool.false_eq_true,if_false];rfl
    ·rw [wrap64_in (by omega) (by omega),decide_eq_false_iff_not] at h4
     simp only [h3,h4,Bool.false_eq_true,if_false];rfl
 ·cases h
theorem BD:SpecOk Tryz.prog 214 sV:=by
 refine (ae MY mixed Tryz.func214 (by kernel_rfl) (by kernel_rfl)).of_den fun args v hfl h => ?_
 clear hfl
 unfold sV at h
 split at h
 ·rename_i s m n
  obtain rfl:=Option.some.inj h
  refine ⟨_,?_,⟨rfl,rfl⟩,rfl⟩
  have e:T.anon (aC A4 aa 214 [.agg [.s (.int .i64 s),.s (.int .i64 m)],.s (.int .i64 n)])=T.ite none (decide (s<0)) (.ret (.tup [ko s m,bK n])) (.ret (.tup [ko s (if n>m then n else m),bK (if n>m then n else m)])):=by kernel_rfl
  rw [<- T.eval_anon,e]
  unfold keepA keepW
  by_cases hs:s<0
  ·rw [decide_eq_true hs,if_pos hs,if_pos hs];rfl
  ·rw [decide_eq_false hs,if_neg hs,if_neg hs];rfl
 ·cases h
def Tz (s n:Int) (b:Bool):Int:=if b then (if s<0 then n else s) else -1
def mayZ (c:Cf) (s n m w b:Int):Bool:=(m==0)&&(w==0)&&(b==0)&&decide (0<=s)&&eR c&&(c.min==0)&&decide (s<=n)&&decide (c.grace<=n - s)
def IA (c:Cf) (s n want have_ m w b:Int):Int:=if 0<want then want else if ((have_==0)&&(w==0))||mayZ c s n m w b then 0 else 1
def stV (s:Int):V:=.agg [bK s]
def tz:Eng.Spec
 | [.agg [.s (.int .i64 s)],.s (.int .i64 n),.s (.bool b)]=>.ret (stV (Tz s n b))
 | _=>.fail
def Hg:Eng.Spec:=fun args=>tz (args.map bv)
def LW:Eng.Spec
 | [x,.agg [.s (.int .i64 s)],.s (.int .i64 n),.s (.int .i64 m),.s (.int .i64 w),.s (.int .i64 b)]=>ga x fun c=>.ite none (inR s&&inR n) (.ret (.s (.bool (mayZ c s n m w b)))) .fail
 | _=>.fail
def Bl:Eng.Spec
 | [x,.agg [.s (.int .i64 s)],.s (.int .i64 n),.s (.int .i64 want),.s (.int .i64 hv),.s (.int .i64 m),.s (.int .i64 w),.s (.int .i64 b)]=>ga x fun c=>.ite none (inR s&&inR n) (.ret (bK (IA c s n want hv m w b))) .fail
 | _=>.fail
noncomputable def ZJ:Eng.Spec:=aC C0 aa 164
theorem SY:SpecOk Tryz.prog 164 ZJ:=ae iQ mixed Tryz.func164 (by kernel_rfl) (by kernel_rfl)
noncomputable def grS:Eng.Spec:=aC C0 aa 217
theorem XP:SpecOk Tryz.prog 217 grS:=ae iQ mixed Tryz.func217 (by kernel_rfl) (by kernel_rfl)
noncomputable def Ni:Eng.Spec:=aC C0 aa 26
theorem Br:SpecOk Tryz.prog 26 Ni:=ae iQ mixed Tryz.func26 (by kernel_rfl) (by kernel_rfl)
noncomputable def Z1:Cfg:=⟨Tryz.prog,lookG [(19,kW),(164,ZJ),(217,grS),(26,Ni)],[],0⟩
theorem SW:Z1.Ok:=Cfg.ok ⟨db,SY,XP,Br,trivial⟩ trivial
theorem Mw {a b:Int} (h:a=b):(T.ret (V.agg [V.s (.int .i64 a)])).eval=some (stV b):=by rw [h];rfl
theorem DH:SpecOk Tryz.prog 136 Hg:=by
 refine SpecOk.bv (sp:=tz) ?_
 refine (ae SW mixed Tryz.func136 (by kernel_rfl) (by kernel_rfl)).of_den fun args v hfl h => ?_
 clear hfl
 unfold tz at h
 split at h
 ·rename_i s n b
  obtain rfl:=Option.some.inj h
  refine ⟨_,?_,⟨rfl,rfl⟩,rfl⟩
  have e:T.anon (aC Z1 aa 136 [.agg [.s (.int .i64 s)],.s (.int .i64 n),.s (.bool b)])=T.ite none (!b) (.ret (stV (-1))) (T.ite none (decide (s<0)) (.ret (stV n)) (.ret (stV s))):=by kernel_rfl
  rw [<- T.eval_anon,e]
  unfold Tz
  refine aU (fun h => ?_) fun h=>aU (fun h2 => ?_) fun h2 => ?_<;>simp only [Bool.not_eq_true',Bool.not_eq_false',decide_eq_true_eq,decide_eq_false_iff_not] at *
  ·subst h;exact Mw rfl
  ·subst h;exact Mw (by simp [h2])
  ·subst h;exact Mw (by simp [h2])
 ·cases h
theorem As {c:Cf} {s n m w b:Int} (hs : -9223372036854775808<=s) (hn:n<=9223372036854775807):∃ v,(T.ite none (bif bif m != 0 then true else w != 0 then true else b != 0) (T.ret V.ff) (T.ite none (decide (s<0)) (T.ret V.ff) (T.ret (V.s (.bool (bif bif eR c then c.min==0 else false then bif decide (s<=n) then decide (c.grace<=IntKind.wrap .i64 (n - s)) else false else false)))))).eval=some v/\flat v=true/\v.den nu0=.bool (mayZ c s n m w b):=by
 unfold mayZ
 by_cases h1:(bif bif m != 0 then true else w != 0 then true else b != 0)=true
 ·rw [h1]
  refine ⟨.ff,rfl,rfl,?_⟩
  have:((m==0)&&(w==0)&&(b==0))=false:=by
   simp only [nv,Bool.or_eq_true,bne_iff_ne] at h1
   simp only [Bool.and_eq_false_iff,beq_eq_false_iff_ne];exact h1
  simp only [V.den]
  rw [this];simp
 ·have h1:(bif bif m != 0 then true else w != 0 then true else b != 0)=false:=by simpa using h1
  have e1:((m==0)&&(w==0)&&(b==0))=true:=by
   simp only [nv,Bool.or_eq_false_iff] at h1
   simp only [Bool.and_eq_true];simpa [bne] using h1
  rw [h1,e1]
  by_cases h2:s<0
  ·rw [decide_eq_true h2,decide_eq_false (show ¬ 0<=s by omega)]
   exact ⟨.ff,rfl,rfl,by simp [V.den]⟩
  ·rw [decide_eq_false h2,decide_eq_true (show 0<=s by omega)]
   refine ⟨_,rfl,rfl,?_⟩
   simp only [V.den,S.den,qF,Bool.true_and]
   by_cases h3:s<=n
   ·rw [wrap64_in (n:=n - s) (by omega) (by omega)]
    simp only [Bool.and_assoc]
   ·rw [decide_eq_false h3];simp
theorem JS:SpecOk Tryz.prog 186 LW:=by
 refine (ae SW mixed Tryz.func186 (by kernel_rfl) (by kernel_rfl)).of_den fun args v hfl h => ?_
 clear hfl
 unfold LW at h
 split at h
 ·rename_i x s n m w b
  obtain ⟨c,rfl,h⟩:=bM h
  obtain ⟨hc,h⟩:=aF h
  obtain rfl:=Option.some.inj h
  simp only [Bool.and_eq_true,dA] at hc
  have e:T.anon (aC Z1 aa 186 [cG c,.agg [.s (.int .i64 s)],.s (.int .i64 n),.s (.int .i64 m),.s (.int .i64 w),.s (.int .i64 b)])=T.ite none (bif bif m != 0 then true else w != 0 then true else b != 0) (T.ret V.ff) (T.ite none (decide (s<0)) (T.ret V.ff) (T.ret (V.s (.bool (bif bif eR c then c.min==0 else false then bif decide (s<=n) then decide (c.grace<=IntKind.wrap .i64 (n - s)) else false else false))))):=by kernel_rfl
  rw [<- T.eval_anon,e]
  obtain ⟨v,h1,h2,h3⟩:=As (c:=c) (m:=m) (w:=w) (b:=b) hc.1.1 hc.2.2
  exact ⟨v,h1,⟨h2,rfl⟩,h3⟩
 ·cases h
noncomputable def Z2:Cfg:=⟨Tryz.prog,lookG [(186,LW)],[],0⟩
theorem Xp:Z2.Ok:=Cfg.ok ⟨JS,trivial⟩ trivial
theorem wP {c:Cf} {s n wa hv m w b:Int} (hg:(inR s&&inR n)=true):(T.ite none (decide (0<wa)) (T.ret (bK wa)) (T.ite none (bif (bif hv==0 then w==0 else false)==false&&true then inR s&&inR n else true) (T.ite none (bif bif hv==0 then w==0 else false then true else mayZ c s n m w b) (T.ret (bK 0)) (T.ret (bK 1))) T.fail)).eval=some (bK (IA c s n wa hv m w b)):=by
 unfold IA
 refine aU (fun h => ?_) fun h=>gv (xv hg) (aU (fun h2 => ?_) fun h2 => ?_)<;>simp only [decide_eq_true_eq,decide_eq_false_iff_not] at h
 ·exact iI (by rw [if_pos h])
 ·rw [nv,qF] at h2
  exact iI (by rw [if_neg h,if_pos h2])
 ·rw [nv,qF] at h2
  exact iI (by rw [if_neg h,if_neg (by simp [h2])])
theorem DV:SpecOk Tryz.prog 165 Bl:=by
 refine (ae Xp mixed Tryz.func165 (by kernel_rfl) (by kernel_rfl)).of_den fun args v hfl h => ?_
 clear hfl
 unfold Bl at h
 split at h
 ·rename_i x s n wa hv m w b
  obtain ⟨c,rfl,h⟩:=bM h
  obtain ⟨hc,h⟩:=aF h
  obtain rfl:=Option.some.inj h
  refine ⟨_,?_,⟨rfl,rfl⟩,rfl⟩
  have e:T.anon (aC Z2 aa 165 [cG c,.agg [.s (.int .i64 s)],.s (.int .i64 n),.s (.int .i64 wa),.s (.int .i64 hv),.s (.int .i64 m),.s (.int .i64 w),.s (.int .i64 b)])=T.ite none (decide (0<wa)) (T.ret (bK wa)) (T.ite none (bif (bif hv==0 then w==0 else false)==false&&true then inR s&&inR n else true) (T.ite none (bif bif hv==0 then w==0 else false then true else mayZ c s n m w b) (T.ret (bK 0)) (T.ret (bK 1))) T.fail):=by kernel_rfl
  rw [<- T.eval_anon,e]
  exact wP hc
 ·cases h
end Go.Proofs.YtncmdfdppmfeeaaGreatDoor.Conf
