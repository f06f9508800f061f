import Derived.Test.YtggakaogidjjbaaGreatDoorGJ
namespace Go.Proofs.YtggakaogidjjbaaGreatDoor.Conf
open Go.Eng Go.RowKit Mil
set_option linter.unusedVariables false
set_option linter.unusedSimpArgs false
def inC (c:Cf):Bool:=inR c.target&&inR c.util
theorem qM (n:Int):inR (bV n)=true:=bX.2 (iT n)
theorem Ho (c:Cf):inR (Ll c)=true:=by
 have:=iT (mulI c.target c.util)
 rw [bX];unfold Ll;omega
theorem cv (a:Int) {lo hi:Int} (h:lo<=hi):lo<=aG a lo hi/\aG a lo hi<=hi:=by unfold aG;split<;>(try split)<;>omega
theorem uo {n:Int} (h1 : -9223372036854775808<=n) (h2:n<=9223372036854775807):inR n=true:=bX.2 ⟨h1,h2⟩
def cI (g:Cf->Int->Bool) (f:Cf->Int->V):Eng.Spec
 | [x,.s (.int .i64 a)]=>gF x fun c=>.ite none (g c a) (.ret (f c a)) .fail
 | _=>.fail
theorem SpecOk.cI {P:Program} {n:Nat} {sp:Eng.Spec} {g:Cf->Int->Bool} {f:Cf->Int->V} (h:SpecOk P n sp) (hf:∀ c a,flat (f c a)=true)
  (he:∀ c a,g c a=true->∃ v,(sp [fh c,bY a]).eval=some v/\flat v=true/\v.den nu0=(f c a).den nu0):SpecOk P n (Conf.cI g f):=by
 refine h.of_den fun args v hfl h => ?_
 clear hfl
 unfold Conf.cI at h
 split at h
 ·rename_i x a
  obtain ⟨c,rfl,h⟩:=bI h
  obtain ⟨hc,h⟩:=aK h
  obtain rfl:=Option.some.inj h
  obtain ⟨v,h1,h2,h3⟩:=he c a hc
  exact ⟨v,h1,⟨h2,hf c a⟩,h3⟩
 ·cases h
def cII (g:Cf->Int->Int->Bool) (f:Cf->Int->Int->V):Eng.Spec
 | [x,.s (.int .i64 a),.s (.int .i64 b)]=>gF x fun c=>.ite none (g c a b) (.ret (f c a b)) .fail
 | _=>.fail
theorem SpecOk.cII {P:Program} {n:Nat} {sp:Eng.Spec} {g:Cf->Int->Int->Bool} {f:Cf->Int->Int->V} (h:SpecOk P n sp) (hf:∀ c a b,flat (f c a b)=true)
  (he:∀ c a b,g c a b=true->∃ v,(sp [fh c,bY a,bY b]).eval=some v/\flat v=true/\v.den nu0=(f c a b).den nu0):SpecOk P n (Conf.cII g f):=by
 refine h.of_den fun args v hfl h => ?_
 clear hfl
 unfold Conf.cII at h
 split at h
 ·rename_i x a b
  obtain ⟨c,rfl,h⟩:=bI h
  obtain ⟨hc,h⟩:=aK h
  obtain rfl:=Option.some.inj h
  obtain ⟨v,h1,h2,h3⟩:=he c a b hc
  exact ⟨v,h1,⟨h2,hf c a b⟩,h3⟩
 ·cases h
theorem ik {i:Option Nat} {c:Bool} {x y:T V} {v:V} (h:c=true) (h1:x.eval=some v):(T.ite i c x y).eval=some v:=by rw [h];exact h1
def ofC (c:Cf) (m:Int):Int:=if dD c then aG (upV m (Ll c)) 0 1000000 else 0
def Al (c:Cf) (w r:Int):Bool:=dD c&&decide (c.threshold*aG r 1 1000000<=aG w 0 1000000*1000)
theorem Ce (c:Cf) (m:Int):0<=ofC c m/\ofC c m<=1000000:=by
 unfold ofC;split
 ·exact cv _ (by omega)
 ·omega
def ofS:Eng.Spec:=cI (fun c a=>inC c&&inR a) fun c a=>bY (ofC c a)
def MN:Eng.Spec:=cII (fun c a b=>inC c) fun c a b=>.s (.bool (Al c a b))
noncomputable def W1:Cfg:=⟨Tryz.prog,lookG [(31,jN),(196,ab2)],[],0⟩
theorem adP:W1.Ok:=Cfg.ok ⟨dr,UM,trivial⟩ trivial
noncomputable def byS:Eng.Spec:=aB W1 aa 167
theorem abY:SpecOk Tryz.prog 167 byS:=af adP mixed Tryz.func167 (by kernel_rfl) (by kernel_rfl)
noncomputable def W2:Cfg:=⟨Tryz.prog,lookG [(167,byS),(168,upS),(68,ng)],[],0⟩
theorem Y7:W2.Ok:=Cfg.ok ⟨abY,W8,mT,trivial⟩ trivial
theorem MI {c:Cf} {a:Int} (h:(inC c&&inR a)=true):(T.ite none (!dD c) (T.ret (bY 0)) (T.ite none (inR c.target&&inR c.util) (T.ite none (inR a&&inR (Ll c)) (T.ret (bY (aG (upV a (Ll c)) 0 1000000))) T.fail) T.fail)).eval=some (bY (ofC c a)):=by
 rw [Bool.and_eq_true] at h
 refine bg (fun h1 => ?_) fun h1=>ik h.1 (ik (by rw [h.2,Ho];rfl) ?_)
 ·exact jD (by unfold ofC;rw [Bool.not_eq_true'] at h1;rw [h1];rfl)
 ·exact jD (by unfold ofC;rw [Bool.not_eq_false'] at h1;rw [h1];rfl)
theorem Tr:SpecOk Tryz.prog 131 ofS:=by
 refine SpecOk.cI (af Y7 mixed Tryz.func131 (by kernel_rfl) (by kernel_rfl)) (fun _ _=>rfl) fun c a h=>⟨_,?_,rfl,rfl⟩
 have e:T.anon (aB W2 aa 131 [fh c,bY a])=T.ite none (!dD c) (T.ret (bY 0)) (T.ite none (inR c.target&&inR c.util) (T.ite none (inR a&&inR (Ll c)) (T.ret (bY (aG (upV a (Ll c)) 0 1000000))) T.fail) T.fail):=by kernel_rfl
 rw [<- T.eval_anon,e]
 exact MI h
theorem Kj {c:Cf} (h:dD c=true) (w r:Int):IntKind.wrap .i64 (c.threshold*aG r 1 1000000)=c.threshold*aG r 1 1000000/\IntKind.wrap .i64 (aG w 0 1000000*1000)=aG w 0 1000000*1000:=by
 have h1:=(may_of h).threshold
 have h2:=cv r (lo:=1) (hi:=1000000) (by omega)
 have h3:=cv w (lo:=0) (hi:=1000000) (by omega)
 have h4:c.threshold*aG r 1 1000000<=10000*1000000:=Int.mul_le_mul h1.2 h2.2 (by omega) (by omega)
 have h5:0<=c.threshold*aG r 1 1000000:=Int.mul_nonneg (by omega) (by omega)
 exact ⟨wrap64_in (by omega) (by omega),wrap64_in (by omega) (by omega)⟩
theorem D7:SpecOk Tryz.prog 133 MN:=by
 refine SpecOk.cII (af Y7 mixed Tryz.func133 (by kernel_rfl) (by kernel_rfl)) (fun _ _ _=>rfl) fun c a b h => ?_
 have e:T.anon (aB W2 aa 133 [fh c,bY a,bY b])=T.ite none (!dD c) (T.ret V.ff) (T.ite none (inR c.target&&inR c.util) (T.ret (V.s (S.bool (decide (IntKind.wrap .i64 (c.threshold*aG b 1 1000000)<=IntKind.wrap .i64 (aG a 0 1000000*1000)))))) T.fail):=by kernel_rfl
 rw [<- T.eval_anon,e]
 cases hm:dD c
 ·exact ⟨.ff,rfl,rfl,by unfold Al;rw [hm];rfl⟩
 ·refine ⟨.s (.bool (Al c a b)),bg (fun h1=>by cases h1) fun _=>ik h ?_,rfl,rfl⟩
  exact QT (by unfold Al;rw [hm,(Kj hm a b).1,(Kj hm a b).2];rfl)
set_option maxRecDepth 100000
theorem zO {x y g:Bool} (h:g=true):(bif (x&&y) then g else true)=true:=by rw [h];cases x&&y<;>rfl
theorem Ni (v:Int) {p:Int} (hp:0<p):v<=upI v p*p/\upI v p*p<v+p:=by
 unfold upI
 rw [Int.fdiv_eq_ediv_of_nonneg _ (by omega)]
 have h1:=Int.ediv_mul_le (-v) (b:=p) (by omega)
 have h2:=Int.lt_ediv_add_one_mul_self (-v) hp
 rw [Int.neg_mul]
 rw [Int.add_mul] at h2
 omega
theorem s8 {v p:Int} (hv:0<=v) (hp:0<p):0<=upI v p/\upI v p<=v:=by
 obtain ⟨h1,h2⟩:=Ni v hp
 constructor
 ·by_cases h:upI v p<0
  ·have:upI v p*p<0:=Int.mul_neg_of_neg_of_pos h hp
   omega
  ·omega
 ·by_cases h:v<upI v p
  ·have h3:(v+1)*p<=upI v p*p:=Int.mul_le_mul_of_nonneg_right (by omega) (by omega)
   have h4:v*1<=v*p:=Int.mul_le_mul_of_nonneg_left (by omega) hv
   rw [Int.add_mul] at h3
   omega
  ·omega
def aeS (q:Int):Int:=if 1000000<q then 1000000 else q
def zK (c:Cf) (a:Int):Int:=if dD c then aeS (upI (c.up*aG a 1 1000000) 1000) else 0
def x5 (c:Cf) (a:Int):Int:=if dD c then 1000*aG a 0 1000000 / c.down else 0
def adU (lo w hi:Int):Int:=if hi<(if lo>w then lo else w) then hi else (if lo>w then lo else w)
def iq (c:Cf) (w a:Int):Int:=if dD c then adU (x5 c a) w (zK c a) else 0
theorem FN (a:Int):(if 1>aG a 0 1000000 then 1 else aG a 0 1000000)=aG a 1 1000000:=by
 unfold aG;repeat' split
 all_goals omega
theorem upR {c:Cf} (h:dD c=true) (a:Int):IntKind.wrap .i64 (c.up*aG a 1 1000000)=c.up*aG a 1 1000000/\0<=c.up*aG a 1 1000000/\c.up*aG a 1 1000000<=1000000000000:=by
 have h1:=(may_of h).up
 have h2:=cv a (lo:=1) (hi:=1000000) (by omega)
 have h4:c.up*aG a 1 1000000<=1000000*1000000:=Int.mul_le_mul h1.2 h2.2 (by omega) (by omega)
 have h5:0<=c.up*aG a 1 1000000:=Int.mul_nonneg (by omega) (by omega)
 exact ⟨wrap64_in (by omega) (by omega),h5,by omega⟩
theorem ad0 {x:Int} (h1:0<=x) (h2:x<=1000000000000):upV x 1000=upI x 1000:=by
 have:=s8 h1 (show (0:Int)<1000 by decide)
 unfold upV
 rw [if_neg (by decide),(eP _ (by omega) (by omega)).1]
theorem dnR {c:Cf} (h:dD c=true) (a:Int):IntKind.wrap .i64 (1000*aG a 0 1000000)=1000*aG a 0 1000000/\dnV (1000*aG a 0 1000000) c.down=1000*aG a 0 1000000 / c.down/\0<=1000*aG a 0 1000000 / c.down/\1000*aG a 0 1000000 / c.down<=1000*aG a 0 1000000:=by
 have h1:=(may_of h).down
 have h2:=cv a (lo:=0) (hi:=1000000) (by omega)
 have h3:=Int.ediv_nonneg (a:=1000*aG a 0 1000000) (b:=c.down) (by omega) (by omega)
 have h4:=Int.ediv_le_self (a:=1000*aG a 0 1000000) c.down (by omega)
 refine ⟨wrap64_in (by omega) (by omega),?_,h3,h4⟩
 unfold dnV dnI
 rw [if_neg (by omega),Int.fdiv_eq_ediv_of_nonneg _ (by omega),(eP _ (by omega) (by omega)).1]
def wZ:Eng.Spec:=cII (fun _ _ _=>true) fun c w a=>bY (iq c w a)
noncomputable def Q1:Cfg:=⟨Tryz.prog,lookG [(31,jN),(168,upS),(224,dnS),(68,ng)],[],0⟩
theorem pf:Q1.Ok:=Cfg.ok ⟨dr,W8,abt,mT,trivial⟩ trivial
noncomputable def afp:Eng.Spec:=aB Q1 aa 201
noncomputable def rwS:Eng.Spec:=aB Q1 aa 202
noncomputable def rlS:Eng.Spec:=aB Q1 aa 203
noncomputable def rmS:Eng.Spec:=aB Q1 aa 204
theorem VL:SpecOk Tryz.prog 201 afp:=af pf mixed Tryz.func201 (by kernel_rfl) (by kernel_rfl)
theorem adt:SpecOk Tryz.prog 202 rwS:=af pf mixed Tryz.func202 (by kernel_rfl) (by kernel_rfl)
theorem aeo:SpecOk Tryz.prog 203 rlS:=af pf mixed Tryz.func203 (by kernel_rfl) (by kernel_rfl)
theorem adJ:SpecOk Tryz.prog 204 rmS:=af pf mixed Tryz.func204 (by kernel_rfl) (by kernel_rfl)
noncomputable def Q2:Cfg:=⟨Tryz.prog,lookG [(201,afp),(202,rwS),(203,rlS),(204,rmS),(30,jN)],[],0⟩
theorem Cu:Q2.Ok:=Cfg.ok ⟨VL,adt,aeo,adJ,ox,trivial⟩ trivial
theorem MP {c:Cf} (hm:dD c=true) (a:Int):(if 1000000<upV (IntKind.wrap .i64 (c.up*aG a 1 1000000)) 1000 then 1000000 else upV (IntKind.wrap .i64 (c.up*aG a 1 1000000)) 1000)=zK c a:=by
 obtain ⟨h1,h2,h3⟩:=upR hm a
 rw [h1,ad0 h2 h3]
 unfold zK aeS
 rw [if_pos hm]
theorem PK {c:Cf} (hm:dD c=true) (a:Int):(inR (IntKind.wrap .i64 (c.up*aG a 1 1000000))&&inR 1000)=true:=by
 obtain ⟨h1,h2,h3⟩:=upR hm a
 rw [h1,uo (by omega) (by omega)];rfl
theorem H4 {c:Cf} (hm:dD c=true) (a:Int):(inR (IntKind.wrap .i64 (1000*aG a 0 1000000))&&inR c.down)=true:=by
 obtain ⟨h1,-⟩:=dnR hm a
 have h2:=cv a (lo:=0) (hi:=1000000) (by omega)
 have h3:=(may_of hm).down
 rw [h1,uo (by omega) (by omega),uo (by omega) (by omega)];rfl
theorem GJ {c:Cf} (hm:dD c=true) (a:Int):dnV (IntKind.wrap .i64 (1000*aG a 0 1000000)) c.down=x5 c a:=by
 obtain ⟨h1,h2,-⟩:=dnR hm a
 rw [h1,h2];unfold x5;rw [if_pos hm]
theorem l9:SpecOk Tryz.prog 174 wZ:=by
 refine SpecOk.cII (af Cu mixed Tryz.func174 (by kernel_rfl) (by kernel_rfl)) (fun _ _ _=>rfl) fun c w a _=>⟨_,?_,rfl,rfl⟩
 have e:T.anon (aB Q2 aa 174 [fh c,bY w,bY a])=T.ite none (!dD c) (T.ret (bY 0)) (T.ite none (inR (IntKind.wrap .i64 (1000*aG a 0 1000000))&&inR c.down) (T.ite none (inR (IntKind.wrap .i64 (c.up*if 1>aG a 0 1000000 then 1 else aG a 0 1000000))&&inR 1000)
  (T.ret (bY (adU (dnV (IntKind.wrap .i64 (1000*aG a 0 1000000)) c.down) w (if 1000000<upV (IntKind.wrap .i64 (c.up*if 1>aG a 0 1000000 then 1 else aG a 0 1000000)) 1000 then 1000000 else upV (IntKind.wrap .i64 (c.up*if 1>aG a 0 1000000 then 1 else aG a 0 1000000)) 1000)))) T.fail) T.fail):=by kernel_rfl
 rw [<- T.eval_anon,e,FN]
 refine bg (fun h1 => ?_) fun h1 => ?_
 ·exact jD (by unfold iq;rw [Bool.not_eq_true'] at h1;rw [h1];rfl)
 ·rw [Bool.not_eq_false'] at h1
  refine ik (H4 h1 a) (ik (PK h1 a) (jD ?_))
  rw [GJ h1,MP h1];unfold iq;rw [if_pos h1]
def LK (c:Cf) (r q:Int):Int:=if dD c then (if c.burst = -1000 then -1000 else bV (bV (aG r 0 1000000*c.limit*1000 - q) - c.burst)) else 0
def proxyB (c:Cf) (r e:Int):Bool := !dD c||c.burst == -1000||decide (r<1)||(decide (0<c.burst)&&decide (e<0))
def aaf:Eng.Spec:=cII (fun _ _ q=>inR q) fun c r q=>bY (LK c r q)
def x9:Eng.Spec:=cII (fun _ _ _=>true) fun c r e=>.s (.bool (proxyB c r e))
noncomputable def A1:Cfg:=⟨Tryz.prog,lookG [(31,jN),(69,aeg),(68,ng)],[],0⟩
theorem abF:A1.Ok:=Cfg.ok ⟨dr,L4,mT,trivial⟩ trivial
noncomputable def KT:Eng.Spec:=aB A1 aa 67
theorem Jw:SpecOk Tryz.prog 67 KT:=af abF mixed Tryz.func67 (by kernel_rfl) (by kernel_rfl)
noncomputable def A2:Cfg:=⟨Tryz.prog,lookG [(69,aeg),(68,ng),(67,KT)],[],0⟩
theorem UC:A2.Ok:=Cfg.ok ⟨L4,mT,Jw,trivial⟩ trivial
def acV (k:Int->Int) (c:Cf) (r q:Int):T V :=
 T.ite none (!dD c) (T.ret (bY 0)) (T.ite none (c.burst == -1000) (T.ret (bY (-1000))) (T.ite none (inR (IntKind.wrap .i64 (IntKind.wrap .i64 (k r*c.limit)*1000))&&inR q) (T.ite none (inR (bV (IntKind.wrap .i64 (IntKind.wrap .i64 (k r*c.limit)*1000) - q))&&inR c.burst)
  (T.ret (bY (bV (bV (IntKind.wrap .i64 (IntKind.wrap .i64 (k r*c.limit)*1000) - q) - c.burst)))) T.fail) T.fail))
theorem QF {c:Cf} (h:c.May) (r:Int):IntKind.wrap .i64 (IntKind.wrap .i64 (aG r 0 1000000*c.limit)*1000)=aG r 0 1000000*c.limit*1000/\0<=aG r 0 1000000*c.limit/\aG r 0 1000000*c.limit<=1000000000:=by
 have h1:=h.limit
 have h2:=cv r (lo:=0) (hi:=1000000) (by omega)
 have h4:aG r 0 1000000*c.limit<=1000000*1000:=Int.mul_le_mul h2.2 h1.2 (by omega) (by omega)
 have h5:0<=aG r 0 1000000*c.limit:=Int.mul_nonneg (by omega) (by omega)
 rw [wrap64_in (n:=aG r 0 1000000*c.limit) (by omega) (by omega),wrap64_in (by omega) (by omega)]
 omega
theorem Gn {c:Cf} (h:c.May) : -1000<=c.burst/\c.burst<=100000000:=by have:=h.burst;omega
theorem Fc {k:Int->Int} (hk:∀ r,k r=aG r 0 1000000) {c:Cf} {r q:Int} (hq:inR q=true):(acV k c r q).eval=some (bY (LK c r q)):=by
 unfold acV
 rw [hk]
 refine bg (fun h => ?_) fun h=>bg (fun h2 => ?_) fun h2 => ?_
 ·rw [Bool.not_eq_true'] at h;exact jD (by unfold LK;rw [h];rfl)
 ·rw [Bool.not_eq_false'] at h;rw [beq_iff_eq] at h2;exact jD (by unfold LK;rw [if_pos h,if_pos h2])
 ·rw [Bool.not_eq_false'] at h;rw [beq_eq_false_iff_ne] at h2
  obtain ⟨e,r1,r2⟩:=QF (may_of h) r
  have hb:=Gn (may_of h)
  rw [e]
  refine ik (by rw [uo (by omega) (by omega),hq];rfl) (ik (by rw [qM,uo (by omega) (by omega)];rfl) (jD ?_))
  unfold LK;rw [if_pos h,if_neg h2]
theorem Fu:SpecOk Tryz.prog 39 aaf:=by
 refine SpecOk.cII (af UC mixed Tryz.func39 (by kernel_rfl) (by kernel_rfl)) (fun _ _ _=>rfl) fun c r q h=>⟨_,?_,rfl,rfl⟩
 have e:T.anon (aB A2 aa 39 [fh c,bY r,bY q])=acV (fun r=>aG r 0 1000000) c r q:=by kernel_rfl
 rw [<- T.eval_anon,e]
 exact Fc (fun _=>rfl) h
theorem qF:SpecOk Tryz.prog 38 x9:=by
 refine SpecOk.cII (af UC mixed Tryz.func38 (by kernel_rfl) (by kernel_rfl)) (fun _ _ _=>rfl) fun c r q h => ?_
 have e:T.anon (aB A2 aa 38 [fh c,bY r,bY q])=T.ite none (!dD c) (T.ret V.tt) (T.ite none (c.burst == -1000) (T.ret V.tt) (T.ret (V.s (S.bool (bif decide (r<1) then true else bif decide (0<c.burst) then decide (q<0) else false))))):=by kernel_rfl
 rw [<- T.eval_anon,e]
 unfold proxyB
 cases h1 : !dD c
 ·cases h2:c.burst == -1000
  ·exact ⟨_,rfl,rfl,by simp [V.den,S.den,oc,nR]⟩
  ·exact ⟨_,rfl,rfl,by simp [V.den,S.den]⟩
 ·exact ⟨_,rfl,rfl,by simp [V.den,S.den]⟩
def bv:V->V
 | .tt=>.s (.bool true)
 | .ff=>.s (.bool false)
 | v=>v
theorem Gv {n:Nat} {w:World} {v:V} {x:Value} (h:kr n w v x):kr n w (bv v) x:=by cases v<;>exact h
theorem ND {v:V}:fC (bv v)=fC v:=by cases v<;>rfl
theorem td {n:Nat} {w:World}:∀ {l:List V} {xs:List Value},jB n w l xs->jB n w (l.map bv) xs
 | [],[],_=>trivial
 | v::r,x::xs,h=>⟨Gv h.1,td h.2⟩
 | [],_::_,h=>h.elim
 | _::_,[],h=>h.elim
theorem SpecOk.bv {P:Program} {f:Nat} {sp:Eng.Spec} (h:SpecOk P f sp):SpecOk P f (fun args=>sp (args.map Conf.bv)) :=
 ⟨h.body,fun args v xs w hG ha he hr hh=>h.calls (args.map Conf.bv) v xs w hG (by
  unfold gL at *
  rw [List.all_map,List.all_eq_true] at *
  intro x hx
  show fC (Conf.bv x)=true
  rw [ND]
  exact ha x hx) he hr (td hh)⟩
def lf (s m:Int):V:=.agg [bY s,bY m]
structure Md where
 since:Int
 most:Int
def Md.v (m:Md):V:=lf m.since m.most
def Ad (c:Cf) (m:Md) (n:Int) (b:Bool):Md :=
 if !dD c||decide (n<0)||decide (1099511627776<n) then m else if b then ⟨n,if m.since<0 then 0 else m.most⟩ else if m.since<0 then m else if c.stable<=n - m.since then ⟨-1,0⟩ else m
def keepA (m:Md) (w:Int):Md:=if m.since<0 then m else ⟨m.since,if w>m.most then w else m.most⟩
def keepW (m:Md) (w:Int):Int:=if m.since<0 then w else if w>m.most then w else m.most
def Fw:Eng.Spec
 | [x,.agg [.s (.int .i64 s),.s (.int .i64 m)],.s (.int .i64 n),.s (.bool b)]=>gF x fun c=>.ite none (inR s&&inR n) (.ret (Ad c ⟨s,m⟩ n b).v) .fail
 | _=>.fail
def OW:Eng.Spec:=fun args=>Fw (args.map bv)
def xw:Eng.Spec
 | [.agg [.s (.int .i64 s),.s (.int .i64 m)],.s (.int .i64 w)]=>.ret (.tup [(keepA ⟨s,m⟩ w).v,bY (keepW ⟨s,m⟩ w)])
 | _=>.fail
def isS:Eng.Spec
 | [.agg [.s (.int .i64 s),.s (.int .i64 m)]]=>.ret (.s (.bool (decide (0<=s))))
 | _=>.fail
noncomputable def acx:Eng.Spec:=aB C0 aa 170
theorem LZ:SpecOk Tryz.prog 170 acx:=af gJ mixed Tryz.func170 (by kernel_rfl) (by kernel_rfl)
def BU:Eng.Spec
 | []=>.ret (lf (-1) 0)
 | _=>.fail
theorem vk:SpecOk Tryz.prog 64 BU:=by
 refine (af gJ mixed Tryz.func64 (by kernel_rfl) (by kernel_rfl)).of_den fun args v hfl h => ?_
 clear hfl
 unfold BU at h
 split at h
 ·obtain rfl:=Option.some.inj h
  have e:aB C0 aa 64 []=.ret (lf (-1) 0):=by kernel_rfl
  rw [e]
  exact ⟨_,rfl,⟨rfl,rfl⟩,rfl⟩
 ·cases h
noncomputable def A4:Cfg:=⟨Tryz.prog,lookG [(170,acx)],[],0⟩
theorem PU:A4.Ok:=Cfg.ok ⟨LZ,trivial⟩ trivial
noncomputable def afg:Eng.Spec:=aB A4 aa 169
theorem WT:SpecOk Tryz.prog 169 afg:=af PU mixed Tryz.func169 (by kernel_rfl) (by kernel_rfl)
noncomputable def A5:Cfg:=⟨Tryz.prog,lookG [(31,jN),(170,acx),(64,BU),(169,afg)],[],0⟩
theorem ac6:A5.Ok:=Cfg.ok ⟨dr,LZ,vk,WT,trivial⟩ trivial
theorem I8:SpecOk Tryz.prog 136 isS:=by
 refine (af PU mixed Tryz.func136 (by kernel_rfl) (by kernel_rfl)).of_den fun args v hfl h => ?_
 clear hfl
 unfold isS at h
 split at h
 ·rename_i s m
  obtain rfl:=Option.some.inj h
  have e:T.anon (aB A4 aa 136 [lf s m])=.ite none (decide (s<0)) (.ret .ff) (.ret .tt):=by kernel_rfl
  rw [<- T.eval_anon,show aB A4 aa 136 [.agg [.s (.int .i64 s),.s (.int .i64 m)]]=aB A4 aa 136 [lf s m] from rfl,e]
  by_cases hs:s<0
  ·rw [decide_eq_true hs];exact ⟨_,rfl,⟨rfl,rfl⟩,by rw [decide_eq_false (by omega)];rfl⟩
  ·rw [decide_eq_false hs];exact ⟨_,rfl,⟨rfl,rfl⟩,by rw [decide_eq_true (by omega)];rfl⟩
 ·cases h
theorem Ej {i:Md} {a b:Int} (h1:a=i.since) (h2:b=i.most):(T.ret (V.agg [V.s (.int .i64 a),V.s (.int .i64 b)])).eval=some i.v:=by rw [h1,h2];rfl
theorem BF:SpecOk Tryz.prog 132 OW:=by
 refine SpecOk.bv (sp:=Fw) ?_
 refine (af ac6 mixed Tryz.func132 (by kernel_rfl) (by kernel_rfl)).of_den fun args v hfl h => ?_
 clear hfl
 unfold Fw at h
 split at h
 ·rename_i x s m n b
  obtain ⟨c,rfl,h⟩:=bI h
  obtain ⟨hc,h⟩:=aK h
  obtain rfl:=Option.some.inj h
  refine ⟨_,?_,⟨rfl,rfl⟩,rfl⟩
  have e:T.anon (aB A5 aa 132 [fh c,.agg [.s (.int .i64 s),.s (.int .i64 m)],.s (.int .i64 n),.s (.bool b)])=T.ite none (bif bif !dD c then true else decide (n<0) then true else decide (1099511627776<n)) (.ret (lf s m))
   (T.ite none b (T.ite none (decide (s<0)) (.ret (lf n 0)) (.ret (lf n m))) (T.ite none (decide (s<0)) (.ret (lf s m)) (T.ite none (decide (c.stable<=IntKind.wrap .i64 (n - s))) (.ret (lf (-1) 0)) (.ret (lf s m))))):=by kernel_rfl
  rw [<- T.eval_anon,e]
  simp only [Bool.and_eq_true,bX] at hc
  unfold Ad
  simp only [nR]
  refine bg (fun h1 => ?_) fun h1 => ?_
  ·rw [if_pos h1];rfl
  ·rw [if_neg (by simp [h1])]
   have hn:0<=n/\n<=1099511627776:=by simp only [Bool.or_eq_false_iff,decide_eq_false_iff_not] at h1;omega
   refine bg (fun h2 => ?_) fun h2 => ?_
   ·rw [h2]
    refine bg (fun h3 => ?_) fun h3 => ?_<;>simp only [decide_eq_true_eq,decide_eq_false_iff_not] at h3
    ·exact Ej rfl (by simp [h3])
    ·exact Ej rfl (by simp [h3])
   ·rw [h2]
    refine bg (fun h3 => ?_) fun h3=>bg (fun h4 => ?_) fun h4 => ?_<;>simp only [decide_eq_true_eq,decide_eq_false_iff_not] at h3
    ·simp only [h3,if_true,Bool.false_eq_true,if_false];rfl
    ·rw [wrap64_in (by omega) (by omega),decide_eq_true_eq] at h4
     simp only [h3,h4,if_true,Bool.false_eq_true,if_false];rfl
    ·rw [wrap64_in (by omega) (by omega),decide_eq_false_iff_not] at h4
     simp only [h3,h4,Bool.false_eq_true,if_false];rfl
 ·cases h
theorem Ci:SpecOk Tryz.prog 172 xw:=by
 refine (af PU mixed Tryz.func172 (by kernel_rfl) (by kernel_rfl)).of_den fun args v hfl h => ?_
 clear hfl
 unfold xw at h
 split at h
 ·rename_i s m n
  obtain rfl:=Option.some.inj h
  refine ⟨_,?_,⟨rfl,rfl⟩,rfl⟩
  have e:T.anon (aB A4 aa 172 [.agg [.s (.int .i64 s),.s (.int .i64 m)],.s (.int .i64 n)])=T.ite none (decide (s<0)) (.ret (.tup [lf s m,bY n])) (.ret (.tup [lf s (if n>m then n else m),bY (if n>m then n else m)])):=by kernel_rfl
  rw [<- T.eval_anon,e]
  unfold keepA keepW
  by_cases hs:s<0
  ·rw [decide_eq_true hs,if_pos hs,if_pos hs];rfl
  ·rw [decide_eq_false hs,if_neg hs,if_neg hs];rfl
 ·cases h
def AD (s n:Int) (b:Bool):Int:=if b then (if s<0 then n else s) else -1
def mayZ (c:Cf) (s n m w b:Int):Bool:=(m==0)&&(w==0)&&(b==0)&&decide (0<=s)&&dD c&&(c.min==0)&&decide (s<=n)&&decide (c.grace<=n - s)
def uJ (c:Cf) (s n want have_ m w b:Int):Int:=if 0<want then want else if ((have_==0)&&(w==0))||mayZ c s n m w b then 0 else 1
def stV (s:Int):V:=.agg [bY s]
def vA:Eng.Spec
 | [.agg [.s (.int .i64 s)],.s (.int .i64 n),.s (.bool b)]=>.ret (stV (AD s n b))
 | _=>.fail
def EF:Eng.Spec:=fun args=>vA (args.map bv)
def PQ:Eng.Spec
 | [x,.agg [.s (.int .i64 s)],.s (.int .i64 n),.s (.int .i64 m),.s (.int .i64 w),.s (.int .i64 b)]=>gF x fun c=>.ite none (inR s&&inR n) (.ret (.s (.bool (mayZ c s n m w b)))) .fail
 | _=>.fail
def yi:Eng.Spec
 | [x,.agg [.s (.int .i64 s)],.s (.int .i64 n),.s (.int .i64 want),.s (.int .i64 hv),.s (.int .i64 m),.s (.int .i64 w),.s (.int .i64 b)]=>gF x fun c=>.ite none (inR s&&inR n) (.ret (bY (uJ c s n want hv m w b))) .fail
 | _=>.fail
noncomputable def agO:Eng.Spec:=aB C0 aa 104
theorem Wf:SpecOk Tryz.prog 104 agO:=af gJ mixed Tryz.func104 (by kernel_rfl) (by kernel_rfl)
noncomputable def grS:Eng.Spec:=aB C0 aa 175
theorem ae2:SpecOk Tryz.prog 175 grS:=af gJ mixed Tryz.func175 (by kernel_rfl) (by kernel_rfl)
noncomputable def Se:Eng.Spec:=aB C0 aa 35
theorem FE:SpecOk Tryz.prog 35 Se:=af gJ mixed Tryz.func35 (by kernel_rfl) (by kernel_rfl)
noncomputable def Z1:Cfg:=⟨Tryz.prog,lookG [(31,jN),(104,agO),(175,grS),(35,Se),(30,jN)],[],0⟩
theorem JQ:Z1.Ok:=Cfg.ok ⟨dr,Wf,ae2,FE,ox,trivial⟩ trivial
theorem Qs {a b:Int} (h:a=b):(T.ret (V.agg [V.s (.int .i64 a)])).eval=some (stV b):=by rw [h];rfl
theorem zi:SpecOk Tryz.prog 75 EF:=by
 refine SpecOk.bv (sp:=vA) ?_
 refine (af JQ mixed Tryz.func75 (by kernel_rfl) (by kernel_rfl)).of_den fun args v hfl h => ?_
 clear hfl
 unfold vA at h
 split at h
 ·rename_i s n b
  obtain rfl:=Option.some.inj h
  refine ⟨_,?_,⟨rfl,rfl⟩,rfl⟩
  have e:T.anon (aB Z1 aa 75 [.agg [.s (.int .i64 s)],.s (.int .i64 n),.s (.bool b)])=T.ite none (!b) (.ret (stV (-1))) (T.ite none (decide (s<0)) (.ret (stV n)) (.ret (stV s))):=by kernel_rfl
  rw [<- T.eval_anon,e]
  unfold AD
  refine bg (fun h => ?_) fun h=>bg (fun h2 => ?_) fun h2 => ?_<;>simp only [Bool.not_eq_true',Bool.not_eq_false',decide_eq_true_eq,decide_eq_false_iff_not] at *
  ·subst h;exact Qs rfl
  ·subst h;exact Qs (by simp [h2])
  ·subst h;exact Qs (by simp [h2])
 ·cases h
theorem Fb {c:Cf} {s n m w b:Int} (hs : -9223372036854775808<=s) (hn:n<=9223372036854775807):∃ v,(T.ite none (bif bif m != 0 then true else w != 0 then true else b != 0) (T.ret V.ff) (T.ite none (decide (s<0)) (T.ret V.ff) (T.ret (V.s (.bool (bif bif dD c then c.min==0 else false then bif decide (s<=n) then decide (c.grace<=IntKind.wrap .i64 (n - s)) else false else false)))))).eval=some v/\flat v=true/\v.den nu0=.bool (mayZ c s n m w b):=by
 unfold mayZ
 by_cases h1:(bif bif m != 0 then true else w != 0 then true else b != 0)=true
 ·rw [h1]
  refine ⟨.ff,rfl,rfl,?_⟩
  have:((m==0)&&(w==0)&&(b==0))=false:=by
   simp only [nR,Bool.or_eq_true,bne_iff_ne] at h1
   simp only [Bool.and_eq_false_iff,beq_eq_false_iff_ne];exact h1
  simp only [V.den]
  rw [this];simp
 ·have h1:(bif bif m != 0 then true else w != 0 then true else b != 0)=false:=by simpa using h1
  have e1:((m==0)&&(w==0)&&(b==0))=true:=by
   simp only [nR,Bool.or_eq_false_iff] at h1
   simp only [Bool.and_eq_true];simpa [bne] using h1
  rw [h1,e1]
  by_cases h2:s<0
  ·rw [decide_eq_true h2,decide_eq_false (show ¬ 0<=s by omega)]
   exact ⟨.ff,rfl,rfl,by simp [V.den]⟩
  ·rw [decide_eq_false h2,decide_eq_true (show 0<=s by omega)]
   refine ⟨_,rfl,rfl,?_⟩
   simp only [V.den,S.den,oc,Bool.true_and]
   by_cases h3:s<=n
   ·rw [wrap64_in (n:=n - s) (by omega) (by omega)]
    simp only [Bool.and_assoc]
   ·rw [decide_eq_false h3];simp
theorem MB:SpecOk Tryz.prog 137 PQ:=by
 refine (af JQ mixed Tryz.func137 (by kernel_rfl) (by kernel_rfl)).of_den fun args v hfl h => ?_
 clear hfl
 unfold PQ at h
 split at h
 ·rename_i x s n m w b
  obtain ⟨c,rfl,h⟩:=bI h
  obtain ⟨hc,h⟩:=aK h
  obtain rfl:=Option.some.inj h
  simp only [Bool.and_eq_true,bX] at hc
  have e:T.anon (aB Z1 aa 137 [fh c,.agg [.s (.int .i64 s)],.s (.int .i64 n),.s (.int .i64 m),.s (.int .i64 w),.s (.int .i64 b)])=T.ite none (bif bif m != 0 then true else w != 0 then true else b != 0) (T.ret V.ff) (T.ite none (decide (s<0)) (T.ret V.ff) (T.ret (V.s (.bool (bif bif dD c then c.min==0 else false then bif decide (s<=n) then decide (c.grace<=IntKind.wrap .i64 (n - s)) else false else false))))):=by kernel_rfl
  rw [<- T.eval_anon,e]
  obtain ⟨v,h1,h2,h3⟩:=Fb (c:=c) (m:=m) (w:=w) (b:=b) hc.1.1 hc.2.2
  exact ⟨v,h1,⟨h2,rfl⟩,h3⟩
 ·cases h
noncomputable def Z2:Cfg:=⟨Tryz.prog,lookG [(137,PQ)],[],0⟩
theorem Ol:Z2.Ok:=Cfg.ok ⟨MB,trivial⟩ trivial
theorem zn {c:Cf} {s n wa hv m w b:Int} (hg:(inR s&&inR n)=true):(T.ite none (decide (0<wa)) (T.ret (bY wa)) (T.ite none (bif (bif hv==0 then w==0 else false)==false&&true then inR s&&inR n else true) (T.ite none (bif bif hv==0 then w==0 else false then true else mayZ c s n m w b) (T.ret (bY 0)) (T.ret (bY 1))) T.fail)).eval=some (bY (uJ c s n wa hv m w b)):=by
 unfold uJ
 refine bg (fun h => ?_) fun h=>ik (zO hg) (bg (fun h2 => ?_) fun h2 => ?_)<;>simp only [decide_eq_true_eq,decide_eq_false_iff_not] at h
 ·exact jD (by rw [if_pos h])
 ·rw [nR,oc] at h2
  exact jD (by rw [if_neg h,if_pos h2])
 ·rw [nR,oc] at h2
  exact jD (by rw [if_neg h,if_neg (by simp [h2])])
theorem xI:SpecOk Tryz.prog 105 yi:=by
 refine (af Ol mixed Tryz.func105 (by kernel_rfl) (by kernel_rfl)).of_den fun args v hfl h => ?_
 clear hfl
 unfold yi at h
 split at h
 ·rename_i x s n wa hv m w b
  obtain ⟨c,rfl,h⟩:=bI h
  obtain ⟨hc,h⟩:=aK h
  obtain rfl:=Option.some.inj h
  refine ⟨_,?_,⟨rfl,rfl⟩,rfl⟩
  have e:T.anon (aB Z2 aa 105 [fh c,.agg [.s (.int .i64 s)],.s (.int .i64 n),.s (.int .i64 wa),.s (.int .i64 hv),.s (.int .i64 m),.s (.int .i64 w),.s (.int .i64 b)])=T.ite none (decide (0<wa)) (T.ret (bY wa)) (T.ite none (bif (bif hv==0 then w==0 else false)==false&&true then inR s&&inR n else true) (T.ite none (bif bif hv==0 then w==0 else false then true else mayZ c s n m w b) (T.ret (bY 0)) (T.ret (bY 1))) T.fail):=by kernel_rfl
  rw [<- T.eval_anon,e]
  exact zn hc
 ·cases h
end Go.Proofs.YtggakaogidjjbaaGreatDoor.Conf
