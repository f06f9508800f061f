import Derived.Test.YtefkegpbpaoadaaGreatDoorGJ
set_option linter.unusedVariables false
set_option linter.unusedSimpArgs false
set_option maxRecDepth 100000
noncomputable section
namespace Go.Proofs.YtefkegpbpaoadaaGreatDoor.Conf
open Go.Eng Go.RowKit Mil
def inC (c:Cf):Bool:=inR c.target&&inR c.util
theorem rH (n:Int):inR (cj n)=true:=cd.2 (jv n)
theorem IK (c:Cf):inR (OG c)=true:=by
 have:=jv (mulI c.target c.util);rw [cd];unfold OG;omega
theorem cG (a:Int) {lo hi:Int} (h:lo<=hi):lo<=aJ a lo hi/\aJ a lo hi<=hi:=by unfold aJ;split<;>(try split)<;>omega
theorem vW {n:Int} (h1 : -9223372036854775808<=n) (h2:n<=9223372036854775807):inR n=true:=cd.2 ⟨h1,h2⟩
def cI (g:Cf->Int->Bool) (f:Cf->Int->V):Eng.Spec
 | [x,.s (.int .i64 a)]=>iJ x fun c=>.ite none (g c a) (.ret (f c a)) .fail
 | _=>.fail
theorem aj.cI {P:Program} {n:Nat} {sp:Eng.Spec} {g:Cf->Int->Bool} {f:Cf->Int->V} (h:aj P n sp) (hf:∀ c a,flat (f c a)=true)
  (he:∀ c a,g c a=true->∃ v,(sp [gT c,cf a]).eval=some v/\flat v=true/\v.den nu0=(f c a).den nu0):aj P n (Conf.cI g f):=by
 refine h.ai0 fun args v hfl h => ?_;clear hfl;unfold Conf.cI at h;split at h
 ·rename_i x a;obtain ⟨c,rfl,h⟩:=bV h;obtain ⟨hc,h⟩:=aO h;obtain rfl:=AI h;obtain ⟨v,h1,h2,h3⟩:=he c a hc;exact ⟨v,h1,⟨h2,hf c a⟩,h3⟩
 ·cases h
def cII (g:Cf->Int->Int->Bool) (f:Cf->Int->Int->V):Eng.Spec
 | [x,.s (.int .i64 a),.s (.int .i64 b)]=>iJ x fun c=>.ite none (g c a b) (.ret (f c a b)) .fail
 | _=>.fail
theorem aj.cII {P:Program} {n:Nat} {sp:Eng.Spec} {g:Cf->Int->Int->Bool} {f:Cf->Int->Int->V} (h:aj P n sp) (hf:∀ c a b,flat (f c a b)=true)
  (he:∀ c a b,g c a b=true->∃ v,(sp [gT c,cf a,cf b]).eval=some v/\flat v=true/\v.den nu0=(f c a b).den nu0):aj P n (Conf.cII g f):=by
 refine h.ai0 fun args v hfl h => ?_;clear hfl;unfold Conf.cII at h;split at h
 ·rename_i x a b;obtain ⟨c,rfl,h⟩:=bV h;obtain ⟨hc,h⟩:=aO h;obtain rfl:=AI h;obtain ⟨v,h1,h2,h3⟩:=he c a b hc;exact ⟨v,h1,⟨h2,hf c a b⟩,h3⟩
 ·cases h
theorem iH {i:Option Nat} {c:Bool} {x y:T V} {v:V} (h:c=true) (h1:x.eval=some v):(T.ite i c x y).eval=some v:=by rw [h];exact h1
def ofC (c:Cf) (m:Int):Int:=if dC c then aJ (upV m (OG c)) 0 1000000 else 0
def w6 (c:Cf) (w r:Int):Bool:=dC c&&decide (c.threshold*aJ r 1 1000000<=aJ w 0 1000000*1000)
theorem Gn (c:Cf) (m:Int):0<=ofC c m/\ofC c m<=1000000:=by
 unfold ofC;split
 ·exact cG _ (by omega)
 ·omega
def ofS:Eng.Spec:=cI (fun c a=>inC c&&inR a) fun c a=>cf (ofC c a)
def XT:Eng.Spec:=cII (fun c a b=>inC c) fun c a b=>.s (.bool (w6 c a b))
def W1:Cfg:=⟨Tryz.prog,lookG [(17,mI),(192,afL)],[],0⟩
theorem ahe:W1.Ok:=Cfg.ok ⟨fz,Wg,trivial⟩ trivial
def byS:Eng.Spec:=aM W1 aa 163
theorem ae3:aj Tryz.prog 163 byS:=af ahe mixed Tryz.func163 (by kernel_rfl) (by kernel_rfl)
def W2:Cfg:=⟨Tryz.prog,lookG [(163,byS),(164,upS),(46,oM)],[],0⟩
theorem abt:W2.Ok:=Cfg.ok ⟨ae3,Yi,np,trivial⟩ trivial
theorem Uf {c:Cf} {a:Int} (h:(inC c&&inR a)=true):(T.ite none (!dC c) (T.ret (cf 0)) (T.ite none (inR c.target&&inR c.util) (T.ite none (inR a&&inR (OG c)) (T.ret (cf (aJ (upV a (OG c)) 0 1000000))) T.fail) T.fail)).eval=some (cf (ofC c a)):=by
 rw [AS] at h;refine bF (fun h1 => ?_) fun h1=>iH h.1 (iH (by rw [h.2,IK];rfl) ?_)
 ·exact jZ (by unfold ofC;rw [Bool.not_eq_true'] at h1;rw [h1];rfl)
 ·exact jZ (by unfold ofC;rw [Bool.not_eq_false'] at h1;rw [h1];rfl)
theorem adV:aj Tryz.prog 128 ofS:=by
 refine aj.cI (af abt mixed Tryz.func128 (by kernel_rfl) (by kernel_rfl)) (fun _ _=>rfl) fun c a h=>⟨_,?_,rfl,rfl⟩
 have e:T.anon (aM W2 aa 128 [gT c,cf a])=T.ite none (!dC c) (T.ret (cf 0)) (T.ite none (inR c.target&&inR c.util) (T.ite none (inR a&&inR (OG c)) (T.ret (cf (aJ (upV a (OG c)) 0 1000000))) T.fail) T.fail):=by kernel_rfl
 rw [<- T.aiW,e];exact Uf h
theorem OV {c:Cf} (h:dC c=true) (w r:Int):IntKind.wrap .i64 (c.threshold*aJ r 1 1000000)=c.threshold*aJ r 1 1000000/\IntKind.wrap .i64 (aJ w 0 1000000*1000)=aJ w 0 1000000*1000:=by
 have h1:=(may_of h).threshold;have h2:=cG r (lo:=1) (hi:=1000000) (by omega);have h3:=cG w (lo:=0) (hi:=1000000) (by omega);have h4:c.threshold*aJ r 1 1000000<=10000*1000000:=Int.mul_le_mul h1.2 h2.2 (by omega) (by omega);have h5:0<=c.threshold*aJ r 1 1000000:=Int.mul_nonneg (by omega) (by omega);exact ⟨wrap64_in (by omega) (by omega),wrap64_in (by omega) (by omega)⟩
theorem Um:aj Tryz.prog 130 XT:=by
 refine aj.cII (af abt mixed Tryz.func130 (by kernel_rfl) (by kernel_rfl)) (fun _ _ _=>rfl) fun c a b h => ?_;have e:T.anon (aM W2 aa 130 [gT c,cf a,cf b])=T.ite none (!dC c) (T.ret V.ff) (T.ite none (inR c.target&&inR c.util) (T.ret (V.s (S.bool (decide (IntKind.wrap .i64 (c.threshold*aJ b 1 1000000)<=IntKind.wrap .i64 (aJ a 0 1000000*1000)))))) T.fail):=by kernel_rfl
 rw [<- T.aiW,e];cases hm:dC c
 ·exact ⟨.ff,rfl,rfl,by unfold w6;rw [hm];rfl⟩
 ·refine ⟨.s (.bool (w6 c a b)),bF (fun h1=>by cases h1) fun _=>iH h ?_,rfl,rfl⟩;exact RZ (by unfold w6;rw [hm,(OV hm a b).1,(OV hm a b).2];rfl)
theorem Ds {x y g:Bool} (h:g=true):(bif (x&&y) then g else true)=true:=by rw [h];cases x&&y<;>rfl
theorem PY (v:Int) {p:Int} (hp:0<p):v<=upI v p*p/\upI v p*p<v+p:=by
 unfold upI;rw [Int.fdiv_eq_ediv_of_nonneg _ (by omega)];have h1:=Int.ediv_mul_le (-v) (b:=p) (by omega);have h2:=Int.lt_ediv_add_one_mul_self (-v) hp;rw [Int.neg_mul];rw [Int.add_mul] at h2;omega
theorem wM {v p:Int} (hv:0<=v) (hp:0<p):0<=upI v p/\upI v p<=v:=by
 obtain ⟨h1,h2⟩:=PY v hp;constructor
 ·by_cases h:upI v p<0
  ·have:upI v p*p<0:=Int.mul_neg_of_neg_of_pos h hp;omega
  ·omega
 ·by_cases h:v<upI v p
  ·have h3:(v+1)*p<=upI v p*p:=Int.mul_le_mul_of_nonneg_right (by omega) (by omega);have h4:v*1<=v*p:=Int.mul_le_mul_of_nonneg_left (by omega) hv;rw [Int.add_mul] at h3;omega
  ·omega
def ahb (q:Int):Int:=if 1000000<q then 1000000 else q
def Db (c:Cf) (a:Int):Int:=if dC c then ahb (upI (c.up*aJ a 1 1000000) 1000) else 0
def BG (c:Cf) (a:Int):Int:=if dC c then 1000*aJ a 0 1000000 / c.down else 0
def agN (lo w hi:Int):Int:=if hi<(if lo>w then lo else w) then hi else (if lo>w then lo else w)
def ez (c:Cf) (w a:Int):Int:=if dC c then agN (BG c a) w (Db c a) else 0
theorem EJ (a:Int):(if 1>aJ a 0 1000000 then 1 else aJ a 0 1000000)=aJ a 1 1000000:=by
 unfold aJ;repeat' split
 all_goals omega
theorem upR {c:Cf} (h:dC c=true) (a:Int):IntKind.wrap .i64 (c.up*aJ a 1 1000000)=c.up*aJ a 1 1000000/\0<=c.up*aJ a 1 1000000/\c.up*aJ a 1 1000000<=1000000000000:=by
 have h1:=(may_of h).up;have h2:=cG a (lo:=1) (hi:=1000000) (by omega);have h4:c.up*aJ a 1 1000000<=1000000*1000000:=Int.mul_le_mul h1.2 h2.2 (by omega) (by omega);have h5:0<=c.up*aJ a 1 1000000:=Int.mul_nonneg (by omega) (by omega);exact ⟨wrap64_in (by omega) (by omega),h5,by omega⟩
theorem agd {x:Int} (h1:0<=x) (h2:x<=1000000000000):upV x 1000=upI x 1000:=by
 have:=wM h1 (show (0:Int)<1000 by decide);unfold upV;rw [if_neg (by decide),(fe _ (by omega) (by omega)).1]
theorem dnR {c:Cf} (h:dC c=true) (a:Int):IntKind.wrap .i64 (1000*aJ a 0 1000000)=1000*aJ a 0 1000000/\dnV (1000*aJ a 0 1000000) c.down=1000*aJ a 0 1000000 / c.down/\0<=1000*aJ a 0 1000000 / c.down/\1000*aJ a 0 1000000 / c.down<=1000*aJ a 0 1000000:=by
 have h1:=(may_of h).down;have h2:=cG a (lo:=0) (hi:=1000000) (by omega);have h3:=Int.ediv_nonneg (a:=1000*aJ a 0 1000000) (b:=c.down) (by omega) (by omega);have h4:=Int.ediv_le_self (a:=1000*aJ a 0 1000000) c.down (by omega);refine ⟨wrap64_in (by omega) (by omega),?_,h3,h4⟩;unfold dnV dnI;rw [if_neg (by omega),Int.fdiv_eq_ediv_of_nonneg _ (by omega),(fe _ (by omega) (by omega)).1]
def Fe:Eng.Spec:=cII (fun _ _ _=>true) fun c w a=>cf (ez c w a)
def Q1:Cfg:=⟨Tryz.prog,lookG [(17,mI),(164,upS),(220,dnS),(46,oM)],[],0⟩
theorem pX:Q1.Ok:=Cfg.ok ⟨fz,Yi,ad9,np,trivial⟩ trivial
def ah1:Eng.Spec:=aM Q1 aa 197
def rwS:Eng.Spec:=aM Q1 aa 198
def rlS:Eng.Spec:=aM Q1 aa 199
def rmS:Eng.Spec:=aM Q1 aa 200
theorem aaR:aj Tryz.prog 197 ah1:=af pX mixed Tryz.func197 (by kernel_rfl) (by kernel_rfl)
theorem agm:aj Tryz.prog 198 rwS:=af pX mixed Tryz.func198 (by kernel_rfl) (by kernel_rfl)
theorem aei:aj Tryz.prog 199 rlS:=af pX mixed Tryz.func199 (by kernel_rfl) (by kernel_rfl)
theorem aex:aj Tryz.prog 200 rmS:=af pX mixed Tryz.func200 (by kernel_rfl) (by kernel_rfl)
def Q2:Cfg:=⟨Tryz.prog,lookG [(197,ah1),(198,rwS),(199,rlS),(200,rmS),(8,mI)],[],0⟩
theorem Gg:Q2.Ok:=Cfg.ok ⟨aaR,agm,aei,aex,oP,trivial⟩ trivial
theorem Rn {c:Cf} (hm:dC c=true) (a:Int):(if 1000000<upV (IntKind.wrap .i64 (c.up*aJ a 1 1000000)) 1000 then 1000000 else upV (IntKind.wrap .i64 (c.up*aJ a 1 1000000)) 1000)=Db c a:=by
 obtain ⟨h1,h2,h3⟩:=upR hm a;rw [h1,agd h2 h3];unfold Db ahb;rw [if_pos hm]
theorem Pd {c:Cf} (hm:dC c=true) (a:Int):(inR (IntKind.wrap .i64 (c.up*aJ a 1 1000000))&&inR 1000)=true:=by
 obtain ⟨h1,h2,h3⟩:=upR hm a;rw [h1,vW (by omega) (by omega)];rfl
theorem LJ {c:Cf} (hm:dC c=true) (a:Int):(inR (IntKind.wrap .i64 (1000*aJ a 0 1000000))&&inR c.down)=true:=by
 obtain ⟨h1,-⟩:=dnR hm a;have h2:=cG a (lo:=0) (hi:=1000000) (by omega);have h3:=(may_of hm).down;rw [h1,vW (by omega) (by omega),vW (by omega) (by omega)];rfl
theorem Lu {c:Cf} (hm:dC c=true) (a:Int):dnV (IntKind.wrap .i64 (1000*aJ a 0 1000000)) c.down=BG c a:=by
 obtain ⟨h1,h2,-⟩:=dnR hm a;rw [h1,h2];unfold BG;rw [if_pos hm]
theorem u9:aj Tryz.prog 170 Fe:=by
 refine aj.cII (af Gg mixed Tryz.func170 (by kernel_rfl) (by kernel_rfl)) (fun _ _ _=>rfl) fun c w a _=>⟨_,?_,rfl,rfl⟩
 have e:T.anon (aM Q2 aa 170 [gT c,cf w,cf a])=T.ite none (!dC c) (T.ret (cf 0)) (T.ite none (inR (IntKind.wrap .i64 (1000*aJ a 0 1000000))&&inR c.down) (T.ite none (inR (IntKind.wrap .i64 (c.up*if 1>aJ a 0 1000000 then 1 else aJ a 0 1000000))&&inR 1000)
  (T.ret (cf (agN (dnV (IntKind.wrap .i64 (1000*aJ a 0 1000000)) c.down) w (if 1000000<upV (IntKind.wrap .i64 (c.up*if 1>aJ a 0 1000000 then 1 else aJ a 0 1000000)) 1000 then 1000000 else upV (IntKind.wrap .i64 (c.up*if 1>aJ a 0 1000000 then 1 else aJ a 0 1000000)) 1000)))) T.fail) T.fail):=by kernel_rfl
 rw [<- T.aiW,e,EJ];refine bF (fun h1 => ?_) fun h1 => ?_
 ·exact jZ (by unfold ez;rw [Bool.not_eq_true'] at h1;rw [h1];rfl)
 ·rw [Bool.not_eq_false'] at h1;refine iH (LJ h1 a) (iH (Pd h1 a) (jZ ?_));rw [Lu h1,Rn h1];unfold ez;rw [if_pos h1]
def AU (c:Cf) (r q:Int):Int:=if dC c then (if c.burst = -1000 then -1000 else cj (cj (aJ r 0 1000000*c.limit*1000 - q) - c.burst)) else 0
def proxyB (c:Cf) (r e:Int):Bool := !dC c||c.burst == -1000||decide (r<1)||(decide (0<c.burst)&&decide (e<0))
def ad4:Eng.Spec:=cII (fun _ _ q=>inR q) fun c r q=>cf (AU c r q)
def GI:Eng.Spec:=cII (fun _ _ _=>true) fun c r e=>.s (.bool (proxyB c r e))
def A1:Cfg:=⟨Tryz.prog,lookG [(17,mI),(47,aeA),(46,oM)],[],0⟩
theorem ag4:A1.Ok:=Cfg.ok ⟨fz,Nc,np,trivial⟩ trivial
def O3:Eng.Spec:=aM A1 aa 45
theorem Ko:aj Tryz.prog 45 O3:=af ag4 mixed Tryz.func45 (by kernel_rfl) (by kernel_rfl)
def A2:Cfg:=⟨Tryz.prog,lookG [(47,aeA),(46,oM),(45,O3)],[],0⟩
theorem Wo:A2.Ok:=Cfg.ok ⟨Nc,np,Ko,trivial⟩ trivial
def aes (k:Int->Int) (c:Cf) (r q:Int):T V :=
 T.ite none (!dC c) (T.ret (cf 0)) (T.ite none (c.burst == -1000) (T.ret (cf (-1000))) (T.ite none (inR (IntKind.wrap .i64 (IntKind.wrap .i64 (k r*c.limit)*1000))&&inR q) (T.ite none (inR (cj (IntKind.wrap .i64 (IntKind.wrap .i64 (k r*c.limit)*1000) - q))&&inR c.burst)
  (T.ret (cf (cj (cj (IntKind.wrap .i64 (IntKind.wrap .i64 (k r*c.limit)*1000) - q) - c.burst)))) T.fail) T.fail))
theorem Px {c:Cf} (h:c.May) (r:Int):IntKind.wrap .i64 (IntKind.wrap .i64 (aJ r 0 1000000*c.limit)*1000)=aJ r 0 1000000*c.limit*1000/\0<=aJ r 0 1000000*c.limit/\aJ r 0 1000000*c.limit<=1000000000:=by
 have h1:=h.limit;have h2:=cG r (lo:=0) (hi:=1000000) (by omega);have h4:aJ r 0 1000000*c.limit<=1000000*1000:=Int.mul_le_mul h2.2 h1.2 (by omega) (by omega);have h5:0<=aJ r 0 1000000*c.limit:=Int.mul_nonneg (by omega) (by omega);rw [wrap64_in (n:=aJ r 0 1000000*c.limit) (by omega) (by omega),wrap64_in (by omega) (by omega)];omega
theorem K3 {c:Cf} (h:c.May) : -1000<=c.burst/\c.burst<=100000000:=by have:=h.burst;omega
theorem Hy {k:Int->Int} (hk:∀ r,k r=aJ r 0 1000000) {c:Cf} {r q:Int} (hq:inR q=true):(aes k c r q).eval=some (cf (AU c r q)):=by
 unfold aes;rw [hk];refine bF (fun h => ?_) fun h=>bF (fun h2 => ?_) fun h2 => ?_
 ·rw [Bool.not_eq_true'] at h;exact jZ (by unfold AU;rw [h];rfl)
 ·rw [Bool.not_eq_false'] at h;rw [beq_iff_eq] at h2;exact jZ (by unfold AU;rw [if_pos h,if_pos h2])
 ·rw [Bool.not_eq_false'] at h;rw [ajH] at h2;obtain ⟨e,r1,r2⟩:=Px (may_of h) r;have hb:=K3 (may_of h);rw [e];refine iH (by rw [vW (by omega) (by omega),hq];rfl) (iH (by rw [rH,vW (by omega) (by omega)];rfl) (jZ ?_));unfold AU;rw [if_pos h,if_neg h2]
theorem Nx:aj Tryz.prog 25 ad4:=by
 refine aj.cII (af Wo mixed Tryz.func25 (by kernel_rfl) (by kernel_rfl)) (fun _ _ _=>rfl) fun c r q h=>⟨_,?_,rfl,rfl⟩
 have e:T.anon (aM A2 aa 25 [gT c,cf r,cf q])=aes (fun r=>aJ r 0 1000000) c r q:=by kernel_rfl
 rw [<- T.aiW,e];exact Hy (fun _=>rfl) h
theorem Bs:aj Tryz.prog 24 GI:=by
 refine aj.cII (af Wo mixed Tryz.func24 (by kernel_rfl) (by kernel_rfl)) (fun _ _ _=>rfl) fun c r q h => ?_;have e:T.anon (aM A2 aa 24 [gT c,cf r,cf q])=T.ite none (!dC c) (T.ret V.tt) (T.ite none (c.burst == -1000) (T.ret V.tt) (T.ret (V.s (S.bool (bif decide (r<1) then true else bif decide (0<c.burst) then decide (q<0) else false))))):=by kernel_rfl
 rw [<- T.aiW,e];unfold proxyB;cases h1 : !dC c
 ·cases h2:c.burst == -1000
  ·exact ⟨_,rfl,rfl,by simp [V.den,S.den,pL,oD]⟩
  ·exact ⟨_,rfl,rfl,by simp [V.den,S.den]⟩
 ·exact ⟨_,rfl,rfl,by simp [V.den,S.den]⟩
def bv:V->V
 | .tt=>.s (.bool true)
 | .ff=>.s (.bool false)
 | v=>v
theorem Jd {n:Nat} {w:World} {v:V} {x:Value} (h:holdsP n w v x):holdsP n w (bv v) x:=by cases v<;>exact h
theorem RR {v:V}:ga (bv v)=ga v:=by cases v<;>rfl
theorem va {n:Nat} {w:World}:∀ {l:List V} {xs:List Value},j5 n w l xs->j5 n w (l.map bv) xs
 | [],[],_=>trivial
 | v::r,x::xs,h=>⟨Jd h.1,va h.2⟩
 | [],_::_,h=>h.elim
 | _::_,[],h=>h.elim
theorem aj.bv {P:Program} {f:Nat} {sp:Eng.Spec} (h:aj P f sp):aj P f (fun args=>sp (args.map Conf.bv)) :=
 ⟨h.body,fun args v xs w hG ha he hr hh=>h.calls (args.map Conf.bv) v xs w hG (by
  unfold iu at *
  rw [List.all_map,ajE] at *
  intro x hx;show ga (Conf.bv x)=true;rw [RR];exact ha x hx) he hr (va hh)⟩
def l6 (s m:Int):V:=.agg [cf s,cf m]
structure Md where
 since:Int
 most:Int
def Md.v (m:Md):V:=l6 m.since m.most
def yg (c:Cf) (m:Md) (n:Int) (b:Bool):Md :=
 if !dC c||decide (n<0)||decide (1099511627776<n) then m else if b then ⟨n,if m.since<0 then 0 else m.most⟩ else if m.since<0 then m else if c.stable<=n - m.since then ⟨-1,0⟩ else m
def keepA (m:Md) (w:Int):Md:=if m.since<0 then m else ⟨m.since,if w>m.most then w else m.most⟩
def keepW (m:Md) (w:Int):Int:=if m.since<0 then w else if w>m.most then w else m.most
def F8:Eng.Spec
 | [x,.agg [.s (.int .i64 s),.s (.int .i64 m)],.s (.int .i64 n),.s (.bool b)]=>iJ x fun c=>.ite none (inR s&&inR n) (.ret (yg c ⟨s,m⟩ n b).v) .fail
 | _=>.fail
def Wd:Eng.Spec:=fun args=>F8 (args.map bv)
def B6:Eng.Spec
 | [.agg [.s (.int .i64 s),.s (.int .i64 m)],.s (.int .i64 w)]=>.ret (.tup [(keepA ⟨s,m⟩ w).v,cf (keepW ⟨s,m⟩ w)])
 | _=>.fail
def isS:Eng.Spec
 | [.agg [.s (.int .i64 s),.s (.int .i64 m)]]=>.ret (.s (.bool (decide (0<=s))))
 | _=>.fail
def aeq:Eng.Spec:=aM C0 aa 166
theorem O4:aj Tryz.prog 166 aeq:=af ik mixed Tryz.func166 (by kernel_rfl) (by kernel_rfl)
def Jn:Eng.Spec
 | []=>.ret (l6 (-1) 0)
 | _=>.fail
theorem FZ:aj Tryz.prog 42 Jn:=by
 refine (af ik mixed Tryz.func42 (by kernel_rfl) (by kernel_rfl)).ai0 fun args v hfl h => ?_;clear hfl;unfold Jn at h;split at h
 ·obtain rfl:=AI h;have e:aM C0 aa 42 []=.ret (l6 (-1) 0):=by kernel_rfl
  rw [e];exact ⟨_,rfl,⟨rfl,rfl⟩,rfl⟩
 ·cases h
def A4:Cfg:=⟨Tryz.prog,lookG [(166,aeq)],[],0⟩
theorem Tk:A4.Ok:=Cfg.ok ⟨O4,trivial⟩ trivial
def ait:Eng.Spec:=aM A4 aa 165
theorem Yl:aj Tryz.prog 165 ait:=af Tk mixed Tryz.func165 (by kernel_rfl) (by kernel_rfl)
def A5:Cfg:=⟨Tryz.prog,lookG [(17,mI),(166,aeq),(42,Jn),(165,ait)],[],0⟩
theorem aeT:A5.Ok:=Cfg.ok ⟨fz,O4,FZ,Yl,trivial⟩ trivial
theorem Xb:aj Tryz.prog 133 isS:=by
 refine (af Tk mixed Tryz.func133 (by kernel_rfl) (by kernel_rfl)).ai0 fun args v hfl h => ?_;clear hfl;unfold isS at h;split at h
 ·rename_i s m;obtain rfl:=AI h;have e:T.anon (aM A4 aa 133 [l6 s m])=.ite none (decide (s<0)) (.ret .ff) (.ret .tt):=by kernel_rfl
  rw [<- T.aiW,show aM A4 aa 133 [.agg [.s (.int .i64 s),.s (.int .i64 m)]]=aM A4 aa 133 [l6 s m] from rfl,e];by_cases hs:s<0
  ·rw [c9 hs];exact ⟨_,rfl,⟨rfl,rfl⟩,by rw [BY (by omega)];rfl⟩
  ·rw [BY hs];exact ⟨_,rfl,⟨rfl,rfl⟩,by rw [c9 (by omega)];rfl⟩
 ·cases h
theorem EU {i:Md} {a b:Int} (h1:a=i.since) (h2:b=i.most):(T.ret (V.agg [V.s (.int .i64 a),V.s (.int .i64 b)])).eval=some i.v:=by rw [h1,h2];rfl
theorem US:aj Tryz.prog 129 Wd:=by
 refine aj.bv (sp:=F8) ?_;refine (af aeT mixed Tryz.func129 (by kernel_rfl) (by kernel_rfl)).ai0 fun args v hfl h => ?_;clear hfl;unfold F8 at h;split at h
 ·rename_i x s m n b;obtain ⟨c,rfl,h⟩:=bV h;obtain ⟨hc,h⟩:=aO h;obtain rfl:=AI h;refine ⟨_,?_,⟨rfl,rfl⟩,rfl⟩
  have e:T.anon (aM A5 aa 129 [gT c,.agg [.s (.int .i64 s),.s (.int .i64 m)],.s (.int .i64 n),.s (.bool b)])=T.ite none (bif bif !dC c then true else decide (n<0) then true else decide (1099511627776<n)) (.ret (l6 s m))
   (T.ite none b (T.ite none (decide (s<0)) (.ret (l6 n 0)) (.ret (l6 n m))) (T.ite none (decide (s<0)) (.ret (l6 s m)) (T.ite none (decide (c.stable<=IntKind.wrap .i64 (n - s))) (.ret (l6 (-1) 0)) (.ret (l6 s m))))):=by kernel_rfl
  rw [<- T.aiW,e];simp only [AS,cd] at hc;unfold yg;simp only [oD];refine bF (fun h1 => ?_) fun h1 => ?_
  ·rw [if_pos h1];rfl
  ·rw [if_neg (by simp [h1])];have hn:0<=n/\n<=1099511627776:=by simp only [Bool.or_eq_false_iff,ajO] at h1;omega
   refine bF (fun h2 => ?_) fun h2 => ?_
   ·rw [h2];refine bF (fun h3 => ?_) fun h3 => ?_<;>simp only [By,ajO] at h3
    ·exact EU rfl (by simp [h3])
    ·exact EU rfl (by simp [h3])
   ·rw [h2];refine bF (fun h3 => ?_) fun h3=>bF (fun h4 => ?_) fun h4 => ?_<;>simp only [By,ajO] at h3
    ·simp only [h3,if_true,Bool.false_eq_true,if_false];rfl
    ·rw [wrap64_in (by omega) (by omega),By] at h4;simp only [h3,h4,if_true,Bool.false_eq_true,if_false];rfl
    ·rw [wrap64_in (by omega) (by omega),ajO] at h4;simp only [h3,h4,Bool.false_eq_true,if_false];rfl
 ·cases h
theorem Py:aj Tryz.prog 168 B6:=by
 refine (af Tk mixed Tryz.func168 (by kernel_rfl) (by kernel_rfl)).ai0 fun args v hfl h => ?_;clear hfl;unfold B6 at h;split at h
 ·rename_i s m n;obtain rfl:=AI h;refine ⟨_,?_,⟨rfl,rfl⟩,rfl⟩;have e:T.anon (aM A4 aa 168 [.agg [.s (.int .i64 s),.s (.int .i64 m)],.s (.int .i64 n)])=T.ite none (decide (s<0)) (.ret (.tup [l6 s m,cf n])) (.ret (.tup [l6 s (if n>m then n else m),cf (if n>m then n else m)])):=by kernel_rfl
  rw [<- T.aiW,e];unfold keepA keepW;by_cases hs:s<0
  ·rw [c9 hs,if_pos hs,if_pos hs];rfl
  ·rw [BY hs,if_neg hs,if_neg hs];rfl
 ·cases h
def vP (s n:Int) (b:Bool):Int:=if b then (if s<0 then n else s) else -1
def mayZ (c:Cf) (s n m w b:Int):Bool:=(m==0)&&(w==0)&&(b==0)&&decide (0<=s)&&dC c&&(c.min==0)&&decide (s<=n)&&decide (c.grace<=n - s)
def wD (c:Cf) (s n want have_ m w b:Int):Int:=if 0<want then want else if ((have_==0)&&(w==0))||mayZ c s n m w b then 0 else 1
def stV (s:Int):V:=.agg [cf s]
def yJ:Eng.Spec
 | [.agg [.s (.int .i64 s)],.s (.int .i64 n),.s (.bool b)]=>.ret (stV (vP s n b))
 | _=>.fail
def Ot:Eng.Spec:=fun args=>yJ (args.map bv)
def Ux:Eng.Spec
 | [x,.agg [.s (.int .i64 s)],.s (.int .i64 n),.s (.int .i64 m),.s (.int .i64 w),.s (.int .i64 b)]=>iJ x fun c=>.ite none (inR s&&inR n) (.ret (.s (.bool (mayZ c s n m w b)))) .fail
 | _=>.fail
def HE:Eng.Spec
 | [x,.agg [.s (.int .i64 s)],.s (.int .i64 n),.s (.int .i64 want),.s (.int .i64 hv),.s (.int .i64 m),.s (.int .i64 w),.s (.int .i64 b)]=>iJ x fun c=>.ite none (inR s&&inR n) (.ret (cf (wD c s n want hv m w b))) .fail
 | _=>.fail
def ais:Eng.Spec:=aM C0 aa 103
theorem abc:aj Tryz.prog 103 ais:=af ik mixed Tryz.func103 (by kernel_rfl) (by kernel_rfl)
def grS:Eng.Spec:=aM C0 aa 171
theorem aeg:aj Tryz.prog 171 grS:=af ik mixed Tryz.func171 (by kernel_rfl) (by kernel_rfl)
def Qd:Eng.Spec:=aM C0 aa 21
theorem HT:aj Tryz.prog 21 Qd:=af ik mixed Tryz.func21 (by kernel_rfl) (by kernel_rfl)
def Z1:Cfg:=⟨Tryz.prog,lookG [(17,mI),(103,ais),(171,grS),(21,Qd),(8,mI)],[],0⟩
theorem aae:Z1.Ok:=Cfg.ok ⟨fz,abc,aeg,HT,oP,trivial⟩ trivial
theorem Ph {a b:Int} (h:a=b):(T.ret (V.agg [V.s (.int .i64 a)])).eval=some (stV b):=by rw [h];rfl
theorem Mb:aj Tryz.prog 80 Ot:=by
 refine aj.bv (sp:=yJ) ?_;refine (af aae mixed Tryz.func80 (by kernel_rfl) (by kernel_rfl)).ai0 fun args v hfl h => ?_;clear hfl;unfold yJ at h;split at h
 ·rename_i s n b;obtain rfl:=AI h;refine ⟨_,?_,⟨rfl,rfl⟩,rfl⟩;have e:T.anon (aM Z1 aa 80 [.agg [.s (.int .i64 s)],.s (.int .i64 n),.s (.bool b)])=T.ite none (!b) (.ret (stV (-1))) (T.ite none (decide (s<0)) (.ret (stV n)) (.ret (stV s))):=by kernel_rfl
  rw [<- T.aiW,e];unfold vP;refine bF (fun h => ?_) fun h=>bF (fun h2 => ?_) fun h2 => ?_<;>simp only [Bool.not_eq_true',Bool.not_eq_false',By,ajO] at *
  ·subst h;exact Ph rfl
  ·subst h;exact Ph (by simp [h2])
  ·subst h;exact Ph (by simp [h2])
 ·cases h
theorem GS {c:Cf} {s n m w b:Int} (hs : -9223372036854775808<=s) (hn:n<=9223372036854775807):∃ v,(T.ite none (bif bif m != 0 then true else w != 0 then true else b != 0) (T.ret V.ff) (T.ite none (decide (s<0)) (T.ret V.ff) (T.ret (V.s (.bool (bif bif dC c then c.min==0 else false then bif decide (s<=n) then decide (c.grace<=IntKind.wrap .i64 (n - s)) else false else false)))))).eval=some v/\flat v=true/\v.den nu0=.bool (mayZ c s n m w b):=by
 unfold mayZ;by_cases h1:(bif bif m != 0 then true else w != 0 then true else b != 0)=true
 ·rw [h1];refine ⟨.ff,rfl,rfl,?_⟩;have:((m==0)&&(w==0)&&(b==0))=false:=by
   simp only [oD,ajW,bne_iff_ne] at h1;simp only [Bool.and_eq_false_iff,ajH];exact h1
  simp only [V.den];rw [this];simp
 ·have h1:(bif bif m != 0 then true else w != 0 then true else b != 0)=false:=by simpa using h1
  have e1:((m==0)&&(w==0)&&(b==0))=true:=by
   simp only [oD,Bool.or_eq_false_iff] at h1;simp only [AS];simpa [bne] using h1
  rw [h1,e1];by_cases h2:s<0
  ·rw [c9 h2,BY (show ¬ 0<=s by omega)];exact ⟨.ff,rfl,rfl,by simp [V.den]⟩
  ·rw [BY h2,c9 (show 0<=s by omega)];refine ⟨_,rfl,rfl,?_⟩;simp only [V.den,S.den,pL,Bool.true_and];by_cases h3:s<=n
   ·rw [wrap64_in (n:=n - s) (by omega) (by omega)];simp only [Bool.and_assoc]
   ·rw [BY h3];simp
theorem Ty:aj Tryz.prog 134 Ux:=by
 refine (af aae mixed Tryz.func134 (by kernel_rfl) (by kernel_rfl)).ai0 fun args v hfl h => ?_;clear hfl;unfold Ux at h;split at h
 ·rename_i x s n m w b;obtain ⟨c,rfl,h⟩:=bV h;obtain ⟨hc,h⟩:=aO h;obtain rfl:=AI h;simp only [AS,cd] at hc;have e:T.anon (aM Z1 aa 134 [gT c,.agg [.s (.int .i64 s)],.s (.int .i64 n),.s (.int .i64 m),.s (.int .i64 w),.s (.int .i64 b)])=T.ite none (bif bif m != 0 then true else w != 0 then true else b != 0) (T.ret V.ff) (T.ite none (decide (s<0)) (T.ret V.ff) (T.ret (V.s (.bool (bif bif dC c then c.min==0 else false then bif decide (s<=n) then decide (c.grace<=IntKind.wrap .i64 (n - s)) else false else false))))):=by kernel_rfl
  rw [<- T.aiW,e];obtain ⟨v,h1,h2,h3⟩:=GS (c:=c) (m:=m) (w:=w) (b:=b) hc.1.1 hc.2.2;exact ⟨v,h1,⟨h2,rfl⟩,h3⟩
 ·cases h
def Z2:Cfg:=⟨Tryz.prog,lookG [(134,Ux)],[],0⟩
theorem adT:Z2.Ok:=Cfg.ok ⟨Ty,trivial⟩ trivial
theorem BX {c:Cf} {s n wa hv m w b:Int} (hg:(inR s&&inR n)=true):(T.ite none (decide (0<wa)) (T.ret (cf wa)) (T.ite none (bif (bif hv==0 then w==0 else false)==false&&true then inR s&&inR n else true) (T.ite none (bif bif hv==0 then w==0 else false then true else mayZ c s n m w b) (T.ret (cf 0)) (T.ret (cf 1))) T.fail)).eval=some (cf (wD c s n wa hv m w b)):=by
 unfold wD;refine bF (fun h => ?_) fun h=>iH (Ds hg) (bF (fun h2 => ?_) fun h2 => ?_)<;>simp only [By,ajO] at h
 ·exact jZ (by rw [if_pos h])
 ·rw [oD,pL] at h2;exact jZ (by rw [if_neg h,if_pos h2])
 ·rw [oD,pL] at h2;exact jZ (by rw [if_neg h,if_neg (by simp [h2])])
theorem IM:aj Tryz.prog 104 HE:=by
 refine (af adT mixed Tryz.func104 (by kernel_rfl) (by kernel_rfl)).ai0 fun args v hfl h => ?_;clear hfl;unfold HE at h;split at h
 ·rename_i x s n wa hv m w b;obtain ⟨c,rfl,h⟩:=bV h;obtain ⟨hc,h⟩:=aO h;obtain rfl:=AI h;refine ⟨_,?_,⟨rfl,rfl⟩,rfl⟩;have e:T.anon (aM Z2 aa 104 [gT c,.agg [.s (.int .i64 s)],.s (.int .i64 n),.s (.int .i64 wa),.s (.int .i64 hv),.s (.int .i64 m),.s (.int .i64 w),.s (.int .i64 b)])=T.ite none (decide (0<wa)) (T.ret (cf wa)) (T.ite none (bif (bif hv==0 then w==0 else false)==false&&true then inR s&&inR n else true) (T.ite none (bif bif hv==0 then w==0 else false then true else mayZ c s n m w b) (T.ret (cf 0)) (T.ret (cf 1))) T.fail):=by kernel_rfl
  rw [<- T.aiW,e];exact BX hc
 ·cases h
end Go.Proofs.YtefkegpbpaoadaaGreatDoor.Conf
end
