import Derived.Test.YtggakaogidjjbaaGreatDoorGJ
namespace Go.Proofs.YtggakaogidjjbaaGreatDoor.Conf
open Go.Eng Go.RowKit Mil
set_option linter.unusedVariables false
set_option linter.unusedSimpArgs false
def inC (c:Cf):Bool:=inR c.target&&inR c.util
theorem cutV_inR (n:Int):inR (cutV n)=true:=inR_iff.2 (cutV_range n)
theorem perC_inR (c:Cf):inR (perC c)=true:=by
 have:=cutV_range (mulI c.target c.util)
 rw [inR_iff];unfold perC;omega
theorem clampI_range (a:Int) {lo hi:Int} (h:lo<=hi):lo<=clampI a lo hi/\clampI a lo hi<=hi:=by unfold clampI;split<;>(try split)<;>omega
theorem inR_in {n:Int} (h1 : -9223372036854775808<=n) (h2:n<=9223372036854775807):inR n=true:=inR_iff.2 ⟨h1,h2⟩
def cI (g:Cf->Int->Bool) (f:Cf->Int->V):Eng.Spec
 | [x,.s (.int .i64 a)]=>asConf x fun c=>.ite none (g c a) (.ret (f c a)) .fail
 | _=>.fail
theorem SpecOk.cI {P:Program} {n:Nat} {sp:Eng.Spec} {g:Cf->Int->Bool} {f:Cf->Int->V} (h:SpecOk P n sp) (hf:∀ c a,flat (f c a)=true)
  (he:∀ c a,g c a=true->∃ v,(sp [confV c,intV a]).eval=some v/\flat v=true/\v.den nu0=(f c a).den nu0):SpecOk P n (Conf.cI g f):=by
 refine h.of_den fun args v hfl h => ?_
 clear hfl
 unfold Conf.cI at h
 split at h
 ·rename_i x a
  obtain ⟨c,rfl,h⟩:=asConf_some h
  obtain ⟨hc,h⟩:=guard_eval h
  obtain rfl:=Option.some.inj h
  obtain ⟨v,h1,h2,h3⟩:=he c a hc
  exact ⟨v,h1,⟨h2,hf c a⟩,h3⟩
 ·cases h
def cII (g:Cf->Int->Int->Bool) (f:Cf->Int->Int->V):Eng.Spec
 | [x,.s (.int .i64 a),.s (.int .i64 b)]=>asConf x fun c=>.ite none (g c a b) (.ret (f c a b)) .fail
 | _=>.fail
theorem SpecOk.cII {P:Program} {n:Nat} {sp:Eng.Spec} {g:Cf->Int->Int->Bool} {f:Cf->Int->Int->V} (h:SpecOk P n sp) (hf:∀ c a b,flat (f c a b)=true)
  (he:∀ c a b,g c a b=true->∃ v,(sp [confV c,intV a,intV b]).eval=some v/\flat v=true/\v.den nu0=(f c a b).den nu0):SpecOk P n (Conf.cII g f):=by
 refine h.of_den fun args v hfl h => ?_
 clear hfl
 unfold Conf.cII at h
 split at h
 ·rename_i x a b
  obtain ⟨c,rfl,h⟩:=asConf_some h
  obtain ⟨hc,h⟩:=guard_eval h
  obtain rfl:=Option.some.inj h
  obtain ⟨v,h1,h2,h3⟩:=he c a b hc
  exact ⟨v,h1,⟨h2,hf c a b⟩,h3⟩
 ·cases h
theorem ev_then {i:Option Nat} {c:Bool} {x y:T V} {v:V} (h:c=true) (h1:x.eval=some v):(T.ite i c x y).eval=some v:=by rw [h];exact h1
def ofC (c:Cf) (m:Int):Int:=if mayB c then clampI (upV m (perC c)) 0 1000000 else 0
def overC (c:Cf) (w r:Int):Bool:=mayB c&&decide (c.threshold*clampI r 1 1000000<=clampI w 0 1000000*1000)
def ofS:Eng.Spec:=cI (fun c a=>inC c&&inR a) fun c a=>intV (ofC c a)
def overS:Eng.Spec:=cII (fun c a b=>inC c) fun c a b=>.s (.bool (overC c a b))
noncomputable def W1:Cfg:=⟨Tryz.prog,lookG [(31,mayS),(196,perS)],[],0⟩
theorem W1_ok:W1.Ok:=Cfg.ok ⟨may_ok,per_ok,trivial⟩ trivial
noncomputable def byS:Eng.Spec:=execS W1 noLoops 167
theorem by_ok:SpecOk Tryz.prog 167 byS:=execS_plain W1_ok mixed Tryz.func167 (by kernel_rfl) (by kernel_rfl)
noncomputable def W2:Cfg:=⟨Tryz.prog,lookG [(167,byS),(168,upS),(68,clampS)],[],0⟩
theorem W2_ok:W2.Ok:=Cfg.ok ⟨by_ok,up_ok,clamp_ok,trivial⟩ trivial
theorem of_tree {c:Cf} {a:Int} (h:(inC c&&inR a)=true):(T.ite none (!mayB c) (T.ret (intV 0)) (T.ite none (inR c.target&&inR c.util) (T.ite none (inR a&&inR (perC c)) (T.ret (intV (clampI (upV a (perC c)) 0 1000000))) T.fail) T.fail)).eval=some (intV (ofC c a)):=by
 rw [Bool.and_eq_true] at h
 refine ev_ite (fun h1 => ?_) fun h1=>ev_then h.1 (ev_then (by rw [h.2,perC_inR];rfl) ?_)
 ·exact ev_int (by unfold ofC;rw [Bool.not_eq_true'] at h1;rw [h1];rfl)
 ·exact ev_int (by unfold ofC;rw [Bool.not_eq_false'] at h1;rw [h1];rfl)
theorem of_ok:SpecOk Tryz.prog 131 ofS:=by
 refine SpecOk.cI (execS_plain W2_ok mixed Tryz.func131 (by kernel_rfl) (by kernel_rfl)) (fun _ _=>rfl) fun c a h=>⟨_,?_,rfl,rfl⟩
 have e:T.anon (execS W2 noLoops 131 [confV c,intV a])=T.ite none (!mayB c) (T.ret (intV 0)) (T.ite none (inR c.target&&inR c.util) (T.ite none (inR a&&inR (perC c)) (T.ret (intV (clampI (upV a (perC c)) 0 1000000))) T.fail) T.fail):=by kernel_rfl
 rw [<- T.eval_anon,e]
 exact of_tree h
theorem thr_of {c:Cf} (h:mayB c=true) (w r:Int):IntKind.wrap .i64 (c.threshold*clampI r 1 1000000)=c.threshold*clampI r 1 1000000/\IntKind.wrap .i64 (clampI w 0 1000000*1000)=clampI w 0 1000000*1000:=by
 have h1:=(may_of h).threshold
 have h2:=clampI_range r (lo:=1) (hi:=1000000) (by omega)
 have h3:=clampI_range w (lo:=0) (hi:=1000000) (by omega)
 have h4:c.threshold*clampI r 1 1000000<=10000*1000000:=Int.mul_le_mul h1.2 h2.2 (by omega) (by omega)
 have h5:0<=c.threshold*clampI r 1 1000000:=Int.mul_nonneg (by omega) (by omega)
 exact ⟨wrap64_in (by omega) (by omega),wrap64_in (by omega) (by omega)⟩
theorem over_ok:SpecOk Tryz.prog 133 overS:=by
 refine SpecOk.cII (execS_plain W2_ok mixed Tryz.func133 (by kernel_rfl) (by kernel_rfl)) (fun _ _ _=>rfl) fun c a b h => ?_
 have e:T.anon (execS W2 noLoops 133 [confV c,intV a,intV b])=T.ite none (!mayB c) (T.ret V.ff) (T.ite none (inR c.target&&inR c.util) (T.ret (V.s (S.bool (decide (IntKind.wrap .i64 (c.threshold*clampI b 1 1000000)<=IntKind.wrap .i64 (clampI a 0 1000000*1000)))))) T.fail):=by kernel_rfl
 rw [<- T.eval_anon,e]
 cases hm:mayB c
 ·exact ⟨.ff,rfl,rfl,by unfold overC;rw [hm];rfl⟩
 ·refine ⟨.s (.bool (overC c a b)),ev_ite (fun h1=>by cases h1) fun _=>ev_then h ?_,rfl,rfl⟩
  exact ev_bool (by unfold overC;rw [hm,(thr_of hm a b).1,(thr_of hm a b).2];rfl)
end Go.Proofs.YtggakaogidjjbaaGreatDoor.Conf
namespace Go.Proofs.YtggakaogidjjbaaGreatDoor.Conf
open Go.Eng Go.RowKit Mil
set_option linter.unusedVariables false
set_option linter.unusedSimpArgs false
end Go.Proofs.YtggakaogidjjbaaGreatDoor.Conf
namespace Go.Proofs.YtggakaogidjjbaaGreatDoor.Conf
open Go.Eng Go.RowKit Mil
set_option linter.unusedVariables false
set_option maxRecDepth 100000
end Go.Proofs.YtggakaogidjjbaaGreatDoor.Conf
namespace Go.Proofs.YtggakaogidjjbaaGreatDoor.Conf
open Go.Eng Go.RowKit Mil
set_option linter.unusedVariables false
set_option linter.unusedSimpArgs false
theorem guards_and {x y g:Bool} (h:g=true):(bif (x&&y) then g else true)=true:=by rw [h];cases x&&y<;>rfl
theorem up_spec (v:Int) {p:Int} (hp:0<p):v<=upI v p*p/\upI v p*p<v+p:=by
 unfold upI
 rw [Int.fdiv_eq_ediv_of_nonneg _ (by omega)]
 have h1:=Int.ediv_mul_le (-v) (b:=p) (by omega)
 have h2:=Int.lt_ediv_add_one_mul_self (-v) hp
 rw [Int.neg_mul]
 rw [Int.add_mul] at h2
 omega
theorem up_nonneg {v p:Int} (hv:0<=v) (hp:0<p):0<=upI v p/\upI v p<=v:=by
 obtain ⟨h1,h2⟩:=up_spec v hp
 constructor
 ·by_cases h:upI v p<0
  ·have:upI v p*p<0:=Int.mul_neg_of_neg_of_pos h hp
   omega
  ·omega
 ·by_cases h:v<upI v p
  ·have h3:(v+1)*p<=upI v p*p:=Int.mul_le_mul_of_nonneg_right (by omega) (by omega)
   have h4:v*1<=v*p:=Int.mul_le_mul_of_nonneg_left (by omega) hv
   rw [Int.add_mul] at h3
   omega
  ·omega
end Go.Proofs.YtggakaogidjjbaaGreatDoor.Conf
namespace Go.Proofs.YtggakaogidjjbaaGreatDoor.Conf
open Go.Eng Go.RowKit Mil
set_option linter.unusedVariables false
set_option linter.unusedSimpArgs false
def capM (q:Int):Int:=if 1000000<q then 1000000 else q
def mostR (c:Cf) (a:Int):Int:=if mayB c then capM (upI (c.up*clampI a 1 1000000) 1000) else 0
def leastR (c:Cf) (a:Int):Int:=if mayB c then 1000*clampI a 0 1000000 / c.down else 0
def midR (lo w hi:Int):Int:=if hi<(if lo>w then lo else w) then hi else (if lo>w then lo else w)
def limitR (c:Cf) (w a:Int):Int:=if mayB c then midR (leastR c a) w (mostR c a) else 0
theorem clamp_one (a:Int):(if 1>clampI a 0 1000000 then 1 else clampI a 0 1000000)=clampI a 1 1000000:=by
 unfold clampI;repeat' split
 all_goals omega
theorem upR {c:Cf} (h:mayB c=true) (a:Int):IntKind.wrap .i64 (c.up*clampI a 1 1000000)=c.up*clampI a 1 1000000/\0<=c.up*clampI a 1 1000000/\c.up*clampI a 1 1000000<=1000000000000:=by
 have h1:=(may_of h).up
 have h2:=clampI_range a (lo:=1) (hi:=1000000) (by omega)
 have h4:c.up*clampI a 1 1000000<=1000000*1000000:=Int.mul_le_mul h1.2 h2.2 (by omega) (by omega)
 have h5:0<=c.up*clampI a 1 1000000:=Int.mul_nonneg (by omega) (by omega)
 exact ⟨wrap64_in (by omega) (by omega),h5,by omega⟩
theorem upV_k {x:Int} (h1:0<=x) (h2:x<=1000000000000):upV x 1000=upI x 1000:=by
 have:=up_nonneg h1 (show (0:Int)<1000 by decide)
 unfold upV
 rw [if_neg (by decide),(cut_in _ (by omega) (by omega)).1]
theorem dnR {c:Cf} (h:mayB c=true) (a:Int):IntKind.wrap .i64 (1000*clampI a 0 1000000)=1000*clampI a 0 1000000/\dnV (1000*clampI a 0 1000000) c.down=1000*clampI a 0 1000000 / c.down/\0<=1000*clampI a 0 1000000 / c.down/\1000*clampI a 0 1000000 / c.down<=1000*clampI a 0 1000000:=by
 have h1:=(may_of h).down
 have h2:=clampI_range a (lo:=0) (hi:=1000000) (by omega)
 have h3:=Int.ediv_nonneg (a:=1000*clampI a 0 1000000) (b:=c.down) (by omega) (by omega)
 have h4:=Int.ediv_le_self (a:=1000*clampI a 0 1000000) c.down (by omega)
 refine ⟨wrap64_in (by omega) (by omega),?_,h3,h4⟩
 unfold dnV dnI
 rw [if_neg (by omega),Int.fdiv_eq_ediv_of_nonneg _ (by omega),(cut_in _ (by omega) (by omega)).1]
def limitS2:Eng.Spec:=cII (fun _ _ _=>true) fun c w a=>intV (limitR c w a)
noncomputable def Q1:Cfg:=⟨Tryz.prog,lookG [(31,mayS),(168,upS),(224,dnS),(68,clampS)],[],0⟩
theorem Q1_ok:Q1.Ok:=Cfg.ok ⟨may_ok,up_ok,dn_ok,clamp_ok,trivial⟩ trivial
noncomputable def rofS:Eng.Spec:=execS Q1 noLoops 201
noncomputable def rwS:Eng.Spec:=execS Q1 noLoops 202
noncomputable def rlS:Eng.Spec:=execS Q1 noLoops 203
noncomputable def rmS:Eng.Spec:=execS Q1 noLoops 204
theorem rof_ok:SpecOk Tryz.prog 201 rofS:=execS_plain Q1_ok mixed Tryz.func201 (by kernel_rfl) (by kernel_rfl)
theorem rw_ok:SpecOk Tryz.prog 202 rwS:=execS_plain Q1_ok mixed Tryz.func202 (by kernel_rfl) (by kernel_rfl)
theorem rl_ok:SpecOk Tryz.prog 203 rlS:=execS_plain Q1_ok mixed Tryz.func203 (by kernel_rfl) (by kernel_rfl)
theorem rm_ok:SpecOk Tryz.prog 204 rmS:=execS_plain Q1_ok mixed Tryz.func204 (by kernel_rfl) (by kernel_rfl)
noncomputable def Q2:Cfg:=⟨Tryz.prog,lookG [(201,rofS),(202,rwS),(203,rlS),(204,rmS),(30,mayS)],[],0⟩
theorem Q2_ok:Q2.Ok:=Cfg.ok ⟨rof_ok,rw_ok,rl_ok,rm_ok,refmay_ok,trivial⟩ trivial
theorem most_eq {c:Cf} (hm:mayB c=true) (a:Int):(if 1000000<upV (IntKind.wrap .i64 (c.up*clampI a 1 1000000)) 1000 then 1000000 else upV (IntKind.wrap .i64 (c.up*clampI a 1 1000000)) 1000)=mostR c a:=by
 obtain ⟨h1,h2,h3⟩:=upR hm a
 rw [h1,upV_k h2 h3]
 unfold mostR capM
 rw [if_pos hm]
theorem most_in {c:Cf} (hm:mayB c=true) (a:Int):(inR (IntKind.wrap .i64 (c.up*clampI a 1 1000000))&&inR 1000)=true:=by
 obtain ⟨h1,h2,h3⟩:=upR hm a
 rw [h1,inR_in (by omega) (by omega)];rfl
theorem least_in {c:Cf} (hm:mayB c=true) (a:Int):(inR (IntKind.wrap .i64 (1000*clampI a 0 1000000))&&inR c.down)=true:=by
 obtain ⟨h1,-⟩:=dnR hm a
 have h2:=clampI_range a (lo:=0) (hi:=1000000) (by omega)
 have h3:=(may_of hm).down
 rw [h1,inR_in (by omega) (by omega),inR_in (by omega) (by omega)];rfl
theorem least_eq {c:Cf} (hm:mayB c=true) (a:Int):dnV (IntKind.wrap .i64 (1000*clampI a 0 1000000)) c.down=leastR c a:=by
 obtain ⟨h1,h2,-⟩:=dnR hm a
 rw [h1,h2];unfold leastR;rw [if_pos hm]
theorem ratelimit_ok:SpecOk Tryz.prog 174 limitS2:=by
 refine SpecOk.cII (execS_plain Q2_ok mixed Tryz.func174 (by kernel_rfl) (by kernel_rfl)) (fun _ _ _=>rfl) fun c w a _=>⟨_,?_,rfl,rfl⟩
 have e:T.anon (execS Q2 noLoops 174 [confV c,intV w,intV a])=T.ite none (!mayB c) (T.ret (intV 0)) (T.ite none (inR (IntKind.wrap .i64 (1000*clampI a 0 1000000))&&inR c.down) (T.ite none (inR (IntKind.wrap .i64 (c.up*if 1>clampI a 0 1000000 then 1 else clampI a 0 1000000))&&inR 1000)
  (T.ret (intV (midR (dnV (IntKind.wrap .i64 (1000*clampI a 0 1000000)) c.down) w (if 1000000<upV (IntKind.wrap .i64 (c.up*if 1>clampI a 0 1000000 then 1 else clampI a 0 1000000)) 1000 then 1000000 else upV (IntKind.wrap .i64 (c.up*if 1>clampI a 0 1000000 then 1 else clampI a 0 1000000)) 1000)))) T.fail) T.fail):=by kernel_rfl
 rw [<- T.eval_anon,e,clamp_one]
 refine ev_ite (fun h1 => ?_) fun h1 => ?_
 ·exact ev_int (by unfold limitR;rw [Bool.not_eq_true'] at h1;rw [h1];rfl)
 ·rw [Bool.not_eq_false'] at h1
  refine ev_then (least_in h1 a) (ev_then (most_in h1 a) (ev_int ?_))
  rw [least_eq h1,most_eq h1];unfold limitR;rw [if_pos h1]
end Go.Proofs.YtggakaogidjjbaaGreatDoor.Conf
namespace Go.Proofs.YtggakaogidjjbaaGreatDoor.Conf
open Go.Eng Go.RowKit Mil
set_option linter.unusedVariables false
set_option maxRecDepth 100000
end Go.Proofs.YtggakaogidjjbaaGreatDoor.Conf
namespace Go.Proofs.YtggakaogidjjbaaGreatDoor.Conf
open Go.Eng Go.RowKit Mil
set_option linter.unusedVariables false
set_option linter.unusedSimpArgs false
end Go.Proofs.YtggakaogidjjbaaGreatDoor.Conf
namespace Go.Proofs.YtggakaogidjjbaaGreatDoor.Conf
open Go.Eng Go.RowKit Mil
set_option linter.unusedVariables false
set_option linter.unusedSimpArgs false
def excB (c:Cf) (r q:Int):Int:=if mayB c then (if c.burst = -1000 then -1000 else cutV (cutV (clampI r 0 1000000*c.limit*1000 - q) - c.burst)) else 0
def proxyB (c:Cf) (r e:Int):Bool := !mayB c||c.burst == -1000||decide (r<1)||(decide (0<c.burst)&&decide (e<0))
def excS:Eng.Spec:=cII (fun _ _ q=>inR q) fun c r q=>intV (excB c r q)
def proxyS:Eng.Spec:=cII (fun _ _ _=>true) fun c r e=>.s (.bool (proxyB c r e))
noncomputable def A1:Cfg:=⟨Tryz.prog,lookG [(31,mayS),(69,subS),(68,clampS)],[],0⟩
theorem A1_ok:A1.Ok:=Cfg.ok ⟨may_ok,sub_ok,clamp_ok,trivial⟩ trivial
noncomputable def basksS:Eng.Spec:=execS A1 noLoops 67
theorem basks_ok:SpecOk Tryz.prog 67 basksS:=execS_plain A1_ok mixed Tryz.func67 (by kernel_rfl) (by kernel_rfl)
noncomputable def A2:Cfg:=⟨Tryz.prog,lookG [(69,subS),(68,clampS),(67,basksS)],[],0⟩
theorem A2_ok:A2.Ok:=Cfg.ok ⟨sub_ok,clamp_ok,basks_ok,trivial⟩ trivial
def excT (k:Int->Int) (c:Cf) (r q:Int):T V :=
 T.ite none (!mayB c) (T.ret (intV 0)) (T.ite none (c.burst == -1000) (T.ret (intV (-1000))) (T.ite none (inR (IntKind.wrap .i64 (IntKind.wrap .i64 (k r*c.limit)*1000))&&inR q) (T.ite none (inR (cutV (IntKind.wrap .i64 (IntKind.wrap .i64 (k r*c.limit)*1000) - q))&&inR c.burst)
  (T.ret (intV (cutV (cutV (IntKind.wrap .i64 (IntKind.wrap .i64 (k r*c.limit)*1000) - q) - c.burst)))) T.fail) T.fail))
theorem room_of {c:Cf} (h:c.May) (r:Int):IntKind.wrap .i64 (IntKind.wrap .i64 (clampI r 0 1000000*c.limit)*1000)=clampI r 0 1000000*c.limit*1000/\0<=clampI r 0 1000000*c.limit/\clampI r 0 1000000*c.limit<=1000000000:=by
 have h1:=h.limit
 have h2:=clampI_range r (lo:=0) (hi:=1000000) (by omega)
 have h4:clampI r 0 1000000*c.limit<=1000000*1000:=Int.mul_le_mul h2.2 h1.2 (by omega) (by omega)
 have h5:0<=clampI r 0 1000000*c.limit:=Int.mul_nonneg (by omega) (by omega)
 rw [wrap64_in (n:=clampI r 0 1000000*c.limit) (by omega) (by omega),wrap64_in (by omega) (by omega)]
 omega
theorem burst_in {c:Cf} (h:c.May) : -1000<=c.burst/\c.burst<=100000000:=by have:=h.burst;omega
theorem excT_eval {k:Int->Int} (hk:∀ r,k r=clampI r 0 1000000) {c:Cf} {r q:Int} (hq:inR q=true):(excT k c r q).eval=some (intV (excB c r q)):=by
 unfold excT
 rw [hk]
 refine ev_ite (fun h => ?_) fun h=>ev_ite (fun h2 => ?_) fun h2 => ?_
 ·rw [Bool.not_eq_true'] at h;exact ev_int (by unfold excB;rw [h];rfl)
 ·rw [Bool.not_eq_false'] at h;rw [beq_iff_eq] at h2;exact ev_int (by unfold excB;rw [if_pos h,if_pos h2])
 ·rw [Bool.not_eq_false'] at h;rw [beq_eq_false_iff_ne] at h2
  obtain ⟨e,r1,r2⟩:=room_of (may_of h) r
  have hb:=burst_in (may_of h)
  rw [e]
  refine ev_then (by rw [inR_in (by omega) (by omega),hq];rfl) (ev_then (by rw [cutV_inR,inR_in (by omega) (by omega)];rfl) (ev_int ?_))
  unfold excB;rw [if_pos h,if_neg h2]
theorem exc_ok:SpecOk Tryz.prog 39 excS:=by
 refine SpecOk.cII (execS_plain A2_ok mixed Tryz.func39 (by kernel_rfl) (by kernel_rfl)) (fun _ _ _=>rfl) fun c r q h=>⟨_,?_,rfl,rfl⟩
 have e:T.anon (execS A2 noLoops 39 [confV c,intV r,intV q])=excT (fun r=>clampI r 0 1000000) c r q:=by kernel_rfl
 rw [<- T.eval_anon,e]
 exact excT_eval (fun _=>rfl) h
theorem proxy_ok:SpecOk Tryz.prog 38 proxyS:=by
 refine SpecOk.cII (execS_plain A2_ok mixed Tryz.func38 (by kernel_rfl) (by kernel_rfl)) (fun _ _ _=>rfl) fun c r q h => ?_
 have e:T.anon (execS A2 noLoops 38 [confV c,intV r,intV q])=T.ite none (!mayB c) (T.ret V.tt) (T.ite none (c.burst == -1000) (T.ret V.tt) (T.ret (V.s (S.bool (bif decide (r<1) then true else bif decide (0<c.burst) then decide (q<0) else false))))):=by kernel_rfl
 rw [<- T.eval_anon,e]
 unfold proxyB
 cases h1 : !mayB c
 ·cases h2:c.burst == -1000
  ·exact ⟨_,rfl,rfl,by simp [V.den,S.den,bif_and,bif_or]⟩
  ·exact ⟨_,rfl,rfl,by simp [V.den,S.den]⟩
 ·exact ⟨_,rfl,rfl,by simp [V.den,S.den]⟩
def bv:V->V
 | .tt=>.s (.bool true)
 | .ff=>.s (.bool false)
 | v=>v
theorem holds_bv {n:Nat} {w:World} {v:V} {x:Value} (h:holdsP n w v x):holdsP n w (bv v) x:=by cases v<;>exact h
theorem rowy_bv {v:V}:rowy (bv v)=rowy v:=by cases v<;>rfl
theorem holdsL_bv {n:Nat} {w:World}:∀ {l:List V} {xs:List Value},holdsL n w l xs->holdsL n w (l.map bv) xs
 | [],[],_=>trivial
 | v::r,x::xs,h=>⟨holds_bv h.1,holdsL_bv h.2⟩
 | [],_::_,h=>h.elim
 | _::_,[],h=>h.elim
theorem SpecOk.bv {P:Program} {f:Nat} {sp:Eng.Spec} (h:SpecOk P f sp):SpecOk P f (fun args=>sp (args.map Conf.bv)) :=
 ⟨h.body,fun args v xs w hG ha he hr hh=>h.calls (args.map Conf.bv) v xs w hG (by
  unfold rowyL at *
  rw [List.all_map,List.all_eq_true] at *
  intro x hx
  show rowy (Conf.bv x)=true
  rw [rowy_bv]
  exact ha x hx) he hr (holdsL_bv hh)⟩
def modeV (s m:Int):V:=.agg [intV s,intV m]
structure Md where
 since:Int
 most:Int
def Md.v (m:Md):V:=modeV m.since m.most
def nextA (c:Cf) (m:Md) (n:Int) (b:Bool):Md :=
 if !mayB c||decide (n<0)||decide (1099511627776<n) then m else if b then ⟨n,if m.since<0 then 0 else m.most⟩ else if m.since<0 then m else if c.stable<=n - m.since then ⟨-1,0⟩ else m
def keepA (m:Md) (w:Int):Md:=if m.since<0 then m else ⟨m.since,if w>m.most then w else m.most⟩
def keepW (m:Md) (w:Int):Int:=if m.since<0 then w else if w>m.most then w else m.most
def nextS':Eng.Spec
 | [x,.agg [.s (.int .i64 s),.s (.int .i64 m)],.s (.int .i64 n),.s (.bool b)]=>asConf x fun c=>.ite none (inR s&&inR n) (.ret (nextA c ⟨s,m⟩ n b).v) .fail
 | _=>.fail
def nextS:Eng.Spec:=fun args=>nextS' (args.map bv)
def keepS:Eng.Spec
 | [.agg [.s (.int .i64 s),.s (.int .i64 m)],.s (.int .i64 w)]=>.ret (.tup [(keepA ⟨s,m⟩ w).v,intV (keepW ⟨s,m⟩ w)])
 | _=>.fail
def isS:Eng.Spec
 | [.agg [.s (.int .i64 s),.s (.int .i64 m)]]=>.ret (.s (.bool (decide (0<=s))))
 | _=>.fail
noncomputable def astS:Eng.Spec:=execS C0 noLoops 170
theorem ast_ok:SpecOk Tryz.prog 170 astS:=execS_plain C0_ok mixed Tryz.func170 (by kernel_rfl) (by kernel_rfl)
def calmS:Eng.Spec
 | []=>.ret (modeV (-1) 0)
 | _=>.fail
theorem calm_ok:SpecOk Tryz.prog 64 calmS:=by
 refine (execS_plain C0_ok mixed Tryz.func64 (by kernel_rfl) (by kernel_rfl)).of_den fun args v hfl h => ?_
 clear hfl
 unfold calmS at h
 split at h
 ·obtain rfl:=Option.some.inj h
  have e:execS C0 noLoops 64 []=.ret (modeV (-1) 0):=by kernel_rfl
  rw [e]
  exact ⟨_,rfl,⟨rfl,rfl⟩,rfl⟩
 ·cases h
noncomputable def A4:Cfg:=⟨Tryz.prog,lookG [(170,astS)],[],0⟩
theorem A4_ok:A4.Ok:=Cfg.ok ⟨ast_ok,trivial⟩ trivial
noncomputable def arnS:Eng.Spec:=execS A4 noLoops 169
theorem arn_ok:SpecOk Tryz.prog 169 arnS:=execS_plain A4_ok mixed Tryz.func169 (by kernel_rfl) (by kernel_rfl)
noncomputable def A5:Cfg:=⟨Tryz.prog,lookG [(31,mayS),(170,astS),(64,calmS),(169,arnS)],[],0⟩
theorem A5_ok:A5.Ok:=Cfg.ok ⟨may_ok,ast_ok,calm_ok,arn_ok,trivial⟩ trivial
theorem is_ok:SpecOk Tryz.prog 136 isS:=by
 refine (execS_plain A4_ok mixed Tryz.func136 (by kernel_rfl) (by kernel_rfl)).of_den fun args v hfl h => ?_
 clear hfl
 unfold isS at h
 split at h
 ·rename_i s m
  obtain rfl:=Option.some.inj h
  have e:T.anon (execS A4 noLoops 136 [modeV s m])=.ite none (decide (s<0)) (.ret .ff) (.ret .tt):=by kernel_rfl
  rw [<- T.eval_anon,show execS A4 noLoops 136 [.agg [.s (.int .i64 s),.s (.int .i64 m)]]=execS A4 noLoops 136 [modeV s m] from rfl,e]
  by_cases hs:s<0
  ·rw [decide_eq_true hs];exact ⟨_,rfl,⟨rfl,rfl⟩,by rw [decide_eq_false (by omega)];rfl⟩
  ·rw [decide_eq_false hs];exact ⟨_,rfl,⟨rfl,rfl⟩,by rw [decide_eq_true (by omega)];rfl⟩
 ·cases h
theorem ev_mode {i:Md} {a b:Int} (h1:a=i.since) (h2:b=i.most):(T.ret (V.agg [V.s (.int .i64 a),V.s (.int .i64 b)])).eval=some i.v:=by rw [h1,h2];rfl
theorem next_ok:SpecOk Tryz.prog 132 nextS:=by
 refine SpecOk.bv (sp:=nextS') ?_
 refine (execS_plain A5_ok mixed Tryz.func132 (by kernel_rfl) (by kernel_rfl)).of_den fun args v hfl h => ?_
 clear hfl
 unfold nextS' at h
 split at h
 ·rename_i x s m n b
  obtain ⟨c,rfl,h⟩:=asConf_some h
  obtain ⟨hc,h⟩:=guard_eval h
  obtain rfl:=Option.some.inj h
  refine ⟨_,?_,⟨rfl,rfl⟩,rfl⟩
  have e:T.anon (execS A5 noLoops 132 [confV c,.agg [.s (.int .i64 s),.s (.int .i64 m)],.s (.int .i64 n),.s (.bool b)])=T.ite none (bif bif !mayB c then true else decide (n<0) then true else decide (1099511627776<n)) (.ret (modeV s m))
   (T.ite none b (T.ite none (decide (s<0)) (.ret (modeV n 0)) (.ret (modeV n m))) (T.ite none (decide (s<0)) (.ret (modeV s m)) (T.ite none (decide (c.stable<=IntKind.wrap .i64 (n - s))) (.ret (modeV (-1) 0)) (.ret (modeV s m))))):=by kernel_rfl
  rw [<- T.eval_anon,e]
  simp only [Bool.and_eq_true,inR_iff] at hc
  unfold nextA
  simp only [bif_or]
  refine ev_ite (fun h1 => ?_) fun h1 => ?_
  ·rw [if_pos h1];rfl
  ·rw [if_neg (by simp [h1])]
   have hn:0<=n/\n<=1099511627776:=by simp only [Bool.or_eq_false_iff,decide_eq_false_iff_not] at h1;omega
   refine ev_ite (fun h2 => ?_) fun h2 => ?_
   ·rw [h2]
    refine ev_ite (fun h3 => ?_) fun h3 => ?_<;>simp only [decide_eq_true_eq,decide_eq_false_iff_not] at h3
    ·exact ev_mode rfl (by simp [h3])
    ·exact ev_mode rfl (by simp [h3])
   ·rw [h2]
    refine ev_ite (fun h3 => ?_) fun h3=>ev_ite (fun h4 => ?_) fun h4 => ?_<;>simp only [decide_eq_true_eq,decide_eq_false_iff_not] at h3
    ·simp only [h3,if_true,Bool.false_eq_true,if_false];rfl
    ·rw [wrap64_in (by omega) (by omega),decide_eq_true_eq] at h4
     simp only [h3,h4,if_true,Bool.false_eq_true,if_false];rfl
    ·rw [wrap64_in (by omega) (by omega),decide_eq_false_iff_not] at h4
     simp only [h3,h4,Bool.false_eq_true,if_false];rfl
 ·cases h
theorem keep_ok:SpecOk Tryz.prog 172 keepS:=by
 refine (execS_plain A4_ok mixed Tryz.func172 (by kernel_rfl) (by kernel_rfl)).of_den fun args v hfl h => ?_
 clear hfl
 unfold keepS at h
 split at h
 ·rename_i s m n
  obtain rfl:=Option.some.inj h
  refine ⟨_,?_,⟨rfl,rfl⟩,rfl⟩
  have e:T.anon (execS A4 noLoops 172 [.agg [.s (.int .i64 s),.s (.int .i64 m)],.s (.int .i64 n)])=T.ite none (decide (s<0)) (.ret (.tup [modeV s m,intV n])) (.ret (.tup [modeV s (if n>m then n else m),intV (if n>m then n else m)])):=by kernel_rfl
  rw [<- T.eval_anon,e]
  unfold keepA keepW
  by_cases hs:s<0
  ·rw [decide_eq_true hs,if_pos hs,if_pos hs];rfl
  ·rw [decide_eq_false hs,if_neg hs,if_neg hs];rfl
 ·cases h
def nextZ (s n:Int) (b:Bool):Int:=if b then (if s<0 then n else s) else -1
def mayZ (c:Cf) (s n m w b:Int):Bool:=(m==0)&&(w==0)&&(b==0)&&decide (0<=s)&&mayB c&&(c.min==0)&&decide (s<=n)&&decide (c.grace<=n - s)
def wantZ (c:Cf) (s n want have_ m w b:Int):Int:=if 0<want then want else if ((have_==0)&&(w==0))||mayZ c s n m w b then 0 else 1
def stV (s:Int):V:=.agg [intV s]
def znextS':Eng.Spec
 | [.agg [.s (.int .i64 s)],.s (.int .i64 n),.s (.bool b)]=>.ret (stV (nextZ s n b))
 | _=>.fail
def znextS:Eng.Spec:=fun args=>znextS' (args.map bv)
def zmayS:Eng.Spec
 | [x,.agg [.s (.int .i64 s)],.s (.int .i64 n),.s (.int .i64 m),.s (.int .i64 w),.s (.int .i64 b)]=>asConf x fun c=>.ite none (inR s&&inR n) (.ret (.s (.bool (mayZ c s n m w b)))) .fail
 | _=>.fail
def zwantS:Eng.Spec
 | [x,.agg [.s (.int .i64 s)],.s (.int .i64 n),.s (.int .i64 want),.s (.int .i64 hv),.s (.int .i64 m),.s (.int .i64 w),.s (.int .i64 b)]=>asConf x fun c=>.ite none (inR s&&inR n) (.ret (intV (wantZ c s n want hv m w b))) .fail
 | _=>.fail
noncomputable def wayS:Eng.Spec:=execS C0 noLoops 104
theorem way_ok:SpecOk Tryz.prog 104 wayS:=execS_plain C0_ok mixed Tryz.func104 (by kernel_rfl) (by kernel_rfl)
noncomputable def grS:Eng.Spec:=execS C0 noLoops 175
theorem gr_ok:SpecOk Tryz.prog 175 grS:=execS_plain C0_ok mixed Tryz.func175 (by kernel_rfl) (by kernel_rfl)
noncomputable def znewS:Eng.Spec:=execS C0 noLoops 35
theorem znew_ok:SpecOk Tryz.prog 35 znewS:=execS_plain C0_ok mixed Tryz.func35 (by kernel_rfl) (by kernel_rfl)
noncomputable def Z1:Cfg:=⟨Tryz.prog,lookG [(31,mayS),(104,wayS),(175,grS),(35,znewS),(30,mayS)],[],0⟩
theorem Z1_ok:Z1.Ok:=Cfg.ok ⟨may_ok,way_ok,gr_ok,znew_ok,refmay_ok,trivial⟩ trivial
theorem ev_st {a b:Int} (h:a=b):(T.ret (V.agg [V.s (.int .i64 a)])).eval=some (stV b):=by rw [h];rfl
theorem znext_ok:SpecOk Tryz.prog 75 znextS:=by
 refine SpecOk.bv (sp:=znextS') ?_
 refine (execS_plain Z1_ok mixed Tryz.func75 (by kernel_rfl) (by kernel_rfl)).of_den fun args v hfl h => ?_
 clear hfl
 unfold znextS' at h
 split at h
 ·rename_i s n b
  obtain rfl:=Option.some.inj h
  refine ⟨_,?_,⟨rfl,rfl⟩,rfl⟩
  have e:T.anon (execS Z1 noLoops 75 [.agg [.s (.int .i64 s)],.s (.int .i64 n),.s (.bool b)])=T.ite none (!b) (.ret (stV (-1))) (T.ite none (decide (s<0)) (.ret (stV n)) (.ret (stV s))):=by kernel_rfl
  rw [<- T.eval_anon,e]
  unfold nextZ
  refine ev_ite (fun h => ?_) fun h=>ev_ite (fun h2 => ?_) fun h2 => ?_<;>simp only [Bool.not_eq_true',Bool.not_eq_false',decide_eq_true_eq,decide_eq_false_iff_not] at *
  ·subst h;exact ev_st rfl
  ·subst h;exact ev_st (by simp [h2])
  ·subst h;exact ev_st (by simp [h2])
 ·cases h
theorem zmay_tree {c:Cf} {s n m w b:Int} (hs : -9223372036854775808<=s) (hn:n<=9223372036854775807):∃ v,(T.ite none (bif bif m != 0 then true else w != 0 then true else b != 0) (T.ret V.ff) (T.ite none (decide (s<0)) (T.ret V.ff) (T.ret (V.s (.bool (bif bif mayB c then c.min==0 else false then bif decide (s<=n) then decide (c.grace<=IntKind.wrap .i64 (n - s)) else false else false)))))).eval=some v/\flat v=true/\v.den nu0=.bool (mayZ c s n m w b):=by
 unfold mayZ
 by_cases h1:(bif bif m != 0 then true else w != 0 then true else b != 0)=true
 ·rw [h1]
  refine ⟨.ff,rfl,rfl,?_⟩
  have:((m==0)&&(w==0)&&(b==0))=false:=by
   simp only [bif_or,Bool.or_eq_true,bne_iff_ne] at h1
   simp only [Bool.and_eq_false_iff,beq_eq_false_iff_ne];exact h1
  simp only [V.den]
  rw [this];simp
 ·have h1:(bif bif m != 0 then true else w != 0 then true else b != 0)=false:=by simpa using h1
  have e1:((m==0)&&(w==0)&&(b==0))=true:=by
   simp only [bif_or,Bool.or_eq_false_iff] at h1
   simp only [Bool.and_eq_true];simpa [bne] using h1
  rw [h1,e1]
  by_cases h2:s<0
  ·rw [decide_eq_true h2,decide_eq_false (show ¬ 0<=s by omega)]
   exact ⟨.ff,rfl,rfl,by simp [V.den]⟩
  ·rw [decide_eq_false h2,decide_eq_true (show 0<=s by omega)]
   refine ⟨_,rfl,rfl,?_⟩
   simp only [V.den,S.den,bif_and,Bool.true_and]
   by_cases h3:s<=n
   ·rw [wrap64_in (n:=n - s) (by omega) (by omega)]
    simp only [Bool.and_assoc]
   ·rw [decide_eq_false h3];simp
theorem zmay_ok:SpecOk Tryz.prog 137 zmayS:=by
 refine (execS_plain Z1_ok mixed Tryz.func137 (by kernel_rfl) (by kernel_rfl)).of_den fun args v hfl h => ?_
 clear hfl
 unfold zmayS at h
 split at h
 ·rename_i x s n m w b
  obtain ⟨c,rfl,h⟩:=asConf_some h
  obtain ⟨hc,h⟩:=guard_eval h
  obtain rfl:=Option.some.inj h
  simp only [Bool.and_eq_true,inR_iff] at hc
  have e:T.anon (execS Z1 noLoops 137 [confV c,.agg [.s (.int .i64 s)],.s (.int .i64 n),.s (.int .i64 m),.s (.int .i64 w),.s (.int .i64 b)])=T.ite none (bif bif m != 0 then true else w != 0 then true else b != 0) (T.ret V.ff) (T.ite none (decide (s<0)) (T.ret V.ff) (T.ret (V.s (.bool (bif bif mayB c then c.min==0 else false then bif decide (s<=n) then decide (c.grace<=IntKind.wrap .i64 (n - s)) else false else false))))):=by kernel_rfl
  rw [<- T.eval_anon,e]
  obtain ⟨v,h1,h2,h3⟩:=zmay_tree (c:=c) (m:=m) (w:=w) (b:=b) hc.1.1 hc.2.2
  exact ⟨v,h1,⟨h2,rfl⟩,h3⟩
 ·cases h
noncomputable def Z2:Cfg:=⟨Tryz.prog,lookG [(137,zmayS)],[],0⟩
theorem Z2_ok:Z2.Ok:=Cfg.ok ⟨zmay_ok,trivial⟩ trivial
end Go.Proofs.YtggakaogidjjbaaGreatDoor.Conf
namespace Go.Proofs.YtggakaogidjjbaaGreatDoor.Conf
open Go.Eng Go.RowKit Mil
set_option linter.unusedVariables false
set_option linter.unusedSimpArgs false
theorem zwant_tree {c:Cf} {s n wa hv m w b:Int} (hg:(inR s&&inR n)=true):(T.ite none (decide (0<wa)) (T.ret (intV wa)) (T.ite none (bif (bif hv==0 then w==0 else false)==false&&true then inR s&&inR n else true) (T.ite none (bif bif hv==0 then w==0 else false then true else mayZ c s n m w b) (T.ret (intV 0)) (T.ret (intV 1))) T.fail)).eval=some (intV (wantZ c s n wa hv m w b)):=by
 unfold wantZ
 refine ev_ite (fun h => ?_) fun h=>ev_then (guards_and hg) (ev_ite (fun h2 => ?_) fun h2 => ?_)<;>simp only [decide_eq_true_eq,decide_eq_false_iff_not] at h
 ·exact ev_int (by rw [if_pos h])
 ·rw [bif_or,bif_and] at h2
  exact ev_int (by rw [if_neg h,if_pos h2])
 ·rw [bif_or,bif_and] at h2
  exact ev_int (by rw [if_neg h,if_neg (by simp [h2])])
theorem zwant_ok:SpecOk Tryz.prog 105 zwantS:=by
 refine (execS_plain Z2_ok mixed Tryz.func105 (by kernel_rfl) (by kernel_rfl)).of_den fun args v hfl h => ?_
 clear hfl
 unfold zwantS at h
 split at h
 ·rename_i x s n wa hv m w b
  obtain ⟨c,rfl,h⟩:=asConf_some h
  obtain ⟨hc,h⟩:=guard_eval h
  obtain rfl:=Option.some.inj h
  refine ⟨_,?_,⟨rfl,rfl⟩,rfl⟩
  have e:T.anon (execS Z2 noLoops 105 [confV c,.agg [.s (.int .i64 s)],.s (.int .i64 n),.s (.int .i64 wa),.s (.int .i64 hv),.s (.int .i64 m),.s (.int .i64 w),.s (.int .i64 b)])=T.ite none (decide (0<wa)) (T.ret (intV wa)) (T.ite none (bif (bif hv==0 then w==0 else false)==false&&true then inR s&&inR n else true) (T.ite none (bif bif hv==0 then w==0 else false then true else mayZ c s n m w b) (T.ret (intV 0)) (T.ret (intV 1))) T.fail):=by kernel_rfl
  rw [<- T.eval_anon,e]
  exact zwant_tree hc
 ·cases h
end Go.Proofs.YtggakaogidjjbaaGreatDoor.Conf
