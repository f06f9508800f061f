import Derived.Carry
import Derived.OpenVars
import Derived.OpenShut
import Derived.ChangeOld
import Derived.ChangeSame
import Derived.Below
import Derived.Deep.Fields
import Derived.Lib.SmallJoins
import Derived.Deep.Slices
import Derived.Test.YtndcealgackgiaaDoorGD
/- The machine: what was lent is taken back, at a round's end and at a function's. No program is named here. -/
namespace Go.Eng
set_option linter.unusedSectionVars false
variable [Go.Eng.GW]
open Go.RowKit
set_option linter.unusedVariables false
set_option linter.unusedSimpArgs false
/-! ### a contract -/
def dropN (j : Option Nat) : Heap → Heap
  | [] => []
  | (i, b) :: r => match j with
    | some j => if Nat.beq i j then dropN (some j) r else (i, b) :: dropN (some j) r
    | none => (i, b) :: r
theorem look_dropN {j : Option Nat} : ∀ {h : Heap} {m : Nat}, look (dropN j h) m = if j = some m then none else look h m
  | [], m => by simp [dropN, look]
  | (i, b) :: r, m => by
    cases j with
    | none => simp [dropN]
    | some j =>
      simp only [dropN, Option.some.injEq]
      have ih := look_dropN (j := some j) (h := r) (m := m)
      simp only [Option.some.injEq] at ih
      by_cases q : Nat.beq i j = true
      · rw [if_pos q, ih]
        have q' := Nat.eq_of_beq_eq_true q
        subst q'
        by_cases e : i = m
        · rw [if_pos e, if_pos e]
        · rw [if_neg e, if_neg e]; simp [look, e]
      · rw [if_neg q]
        have q' : i ≠ j := fun e => q (by rw [e]; simp [Nat.beq_eq])
        simp only [look]
        by_cases e : (i == m) = true
        · rw [if_pos e]
          have : i = m := by simpa using e
          rw [if_neg (by rw [← this]; exact fun h => q' h.symm)]
          simp [e]
        · rw [if_neg e, ih]
          by_cases e2 : j = m
          · rw [if_pos e2, if_pos e2]
          · rw [if_neg e2, if_neg e2, if_neg e]
/-- block i takes back what it lent -/
def settleO (i : Nat) (h0 : Heap) (r : V × Heap) : T (V × Heap) :=
  match back1 (Eng.look r.2) i with
  | some (b, j) => if outO h0 r.1 r.2 = true then .ret (r.1, dropN j (putAt i b r.2)) else .fail
  | none => .ret r
theorem ObjOk.settle {P : Program} {f : Nat} {sp : Obj} (h : ObjOk P f sp) (i : Nat) : ObjOk P f (fun args h0 => (sp args h0).bind (settleO i h0)) := by
  refine ⟨h.body, fun args h0 v h'' ν w hG hF hoa hoh hrel hv hout => ?_⟩
  obtain ⟨⟨v0, h'⟩, h1, h2⟩ := T.eval_bind_some hv
  unfold settleO at h2
  split at h2
  · rename_i b j hb
    simp only at hb
    split at h2
    · rename_i ho
      simp only [T.eval, Option.some.injEq, Prod.mk.injEq] at h2
      obtain ⟨rfl, rfl⟩ := h2
      simp only at ho hout ⊢
      refine (h.calls args h0 v0 h' ν w hG hF hoa hoh hrel h1 ho).mono ?_
      rintro e w' ⟨ν', e1, e2, e3, e4, e5⟩
      have hok : ∀ m c, look h' m = some c → c.ok (inO h0 h') = true ∧ c.owned = true := fun m c hm => by
        unfold outO at ho
        simp only [Bool.and_eq_true] at ho
        have := List.all_eq_true.1 ho.2 _ (mem_of_look hm)
        simp only [Bool.and_eq_true] at this
        exact ⟨this.1.2, this.1.1⟩
      obtain ⟨o1, o2, ⟨bi, hi, oi⟩, o3, ν2, q1, q2, q3, q4, q5⟩ := back1_rel (fun m c hm => (hok m c hm).1) e3 hb
      have lk : ∀ m c, look (dropN j (putAt i b h')) m = some c → j ≠ some m ∧ ((m = i ∧ c = b) ∨ (m ≠ i ∧ look h' m = some c)) := by
        intro m c hm
        rw [look_dropN] at hm
        split at hm
        · cases hm
        · rename_i hne
          refine ⟨hne, ?_⟩
          rw [look_putAt] at hm
          obtain ⟨c0, hc0, hc⟩ := Option.map_eq_some_iff.1 hm
          by_cases e : Nat.beq m i = true
          · rw [if_pos e] at hc
            exact .inl ⟨Nat.eq_of_beq_eq_true e, hc.symm⟩
          · rw [if_neg e] at hc
            exact .inr ⟨fun h => e (by rw [h]; simp [Nat.beq_eq]), by rw [hc0, hc]⟩
      refine ⟨ν2, ?_, fun m hm => by rw [q1 m]; exact e2 m hm, q5 _ (fun m c r1 r2 hm => ?_) (fun c hm => ?_) (fun m hj c hm => ?_), fun m c hm k hk => ?_, e5⟩
      · rw [e1]
        have : v0.ok (inO h0 h') = true := by
          unfold outO at ho
          simp only [Bool.and_eq_true] at ho
          exact ho.1
        rw [V.den_congr (p := inO h0 h') (fun m _ => (q1 m).symm) v0 this]
      · rcases (lk m c hm).2 with ⟨r, _⟩ | ⟨_, r⟩
        · exact absurd r r1
        · exact r
      · rcases (lk i c hm).2 with ⟨_, r⟩ | ⟨r, _⟩
        · exact r
        · exact absurd rfl r
      · exact absurd hj (lk m c hm).1
      · rcases (lk m c hm).2 with ⟨rfl, rfl⟩ | ⟨r1, r2⟩
        · rcases q3 k hk with r | ⟨n, hn, r⟩
          · exact e4 _ _ hi k r
          · obtain ⟨_, b0, hb0, _⟩ := o3 n hn
            exact e4 n b0 hb0 k r
        · rw [q2 m r1 (lk m c hm).1] at hk
          exact e4 m c r2 k hk
    · cases h2
  · simp only [T.eval, Option.some.injEq, Prod.mk.injEq] at h2
    obtain ⟨rfl, rfl⟩ := h2
    exact h.calls args h0 _ _ ν w hG hF hoa hoh hrel h1 hout
/-- a block that the result does not want is left out -/
def lessO (i : Nat) (h0 : Heap) (r : V × Heap) : T (V × Heap) := if outO h0 r.1 r.2 = true then .ret (r.1, dropN (some i) r.2) else .fail
theorem ObjOk.less {P : Program} {f : Nat} {sp : Obj} (h : ObjOk P f sp) (i : Nat) : ObjOk P f (fun args h0 => (sp args h0).bind (lessO i h0)) := by
  refine ⟨h.body, fun args h0 v h'' ν w hG hF hoa hoh hrel hv hout => ?_⟩
  obtain ⟨⟨v0, h'⟩, h1, h2⟩ := T.eval_bind_some hv
  unfold lessO at h2
  split at h2
  · rename_i ho
    simp only [T.eval, Option.some.injEq, Prod.mk.injEq] at h2
    obtain ⟨rfl, rfl⟩ := h2
    simp only at ho hout ⊢
    refine (h.calls args h0 v0 h' ν w hG hF hoa hoh hrel h1 ho).mono ?_
    rintro e w' ⟨ν', e1, e2, e3, e4, e5⟩
    have lk : ∀ m c, look (dropN (some i) h') m = some c → look h' m = some c := by
      intro m c hm
      rw [look_dropN] at hm
      split at hm
      · cases hm
      · exact hm
    exact ⟨ν', e1, e2, ⟨fun m c hm => e3.den m c (lk m c hm), fun m n bm bn ne hm hn => e3.dis m n bm bn ne (lk m _ hm) (lk n _ hn)⟩, fun m c hm => e4 m c (lk m c hm), e5⟩
  · cases h2
/-- a block that nothing speaks of is left out -/
def tidyO (i : Nat) (h0 : Heap) (r : V × Heap) : T (V × Heap) := if (outO h0 r.1 r.2 && outO h0 r.1 (dropN (some i) r.2)) = true then .ret (r.1, dropN (some i) r.2) else .ret r
theorem ObjOk.tidy {P : Program} {f : Nat} {sp : Obj} (h : ObjOk P f sp) (i : Nat) : ObjOk P f (fun args h0 => (sp args h0).bind (tidyO i h0)) := by
  refine ⟨h.body, fun args h0 v h'' ν w hG hF hoa hoh hrel hv hout => ?_⟩
  obtain ⟨⟨v0, h'⟩, h1, h2⟩ := T.eval_bind_some hv
  unfold tidyO at h2
  split at h2
  · rename_i ho
    simp only [Bool.and_eq_true] at ho
    refine (h.less i).calls args h0 v h'' ν w hG hF hoa hoh hrel ?_ hout
    rw [T.eval_bind, h1]
    show (lessO i h0 (v0, h')).eval = _
    unfold lessO
    rw [if_pos ho.1]
    exact h2
  · simp only [T.eval, Option.some.injEq, Prod.mk.injEq] at h2
    obtain ⟨rfl, rfl⟩ := h2
    exact h.calls args h0 _ _ ν w hG hF hoa hoh hrel h1 hout
end Go.Eng

/- The machine: functions that look at structs alone, whatever else these lead to. No program is named here. -/
namespace Go.Eng
set_option linter.unusedSectionVars false
variable [Go.Eng.GW]
open Go.RowKit
set_option linter.unusedVariables false
set_option linter.unusedSimpArgs false
def roB (c : Bool) : Blk → Blk
  | .cells t l => .ro t l
  | .ro t l => .ro t l
  | _ => .leaf c
/-- structs to be read, and places of which nothing is known -/
def roH (c : Nat → Bool) : Heap → Heap
  | [] => []
  | (i, b) :: r => (i, roB (c i) b) :: roH c r
theorem look_roH {c : Nat → Bool} : ∀ {h : Heap} {i : Nat}, look (roH c h) i = (look h i).map (roB (c i))
  | [], i => rfl
  | (j, b) :: r, i => by
    simp only [roH, look]
    by_cases e : (j == i) = true
    · rw [if_pos e, if_pos e]
      have : j = i := by simpa using e
      subst this; rfl
    · rw [if_neg e, if_neg e]; exact look_roH
theorem roH_length {c : Nat → Bool} : ∀ h : Heap, (roH c h).length = h.length
  | [] => rfl
  | (j, b) :: r => by simp [roH, roH_length r]
theorem ObjOk.peep {P : Program} {f : Nat} {sp : Obj} (h : ObjOk P f sp) (g : List V → Heap → T V)
    (he : ∀ args hp v, (g args hp).eval = some v → flat v = true → ∀ c, (sp args (roH c hp)).eval = some (v, [])) : SeeOk P f g := by
  refine ⟨h.body, fun args hp v ν w hG hF ha hb hr hv hfv => ?_⟩
  let c : Nat → Bool := fun i => (ν i).core.cond
  have hsp := he args hp v hv hfv c
  have hin : inH (roH c hp) = inH hp := by
    funext i
    unfold inH
    rw [look_roH]
    cases Eng.look hp i <;> rfl
  let ν2 : Env := fun i => ⟨(ν i).core, match Eng.look hp i with
    | some (.cells _ _) => (ν i).fp
    | some (.ro _ _) => (ν i).fp
    | _ => fun _ => False⟩
  have hcore : ∀ i, (ν2 i).core = (ν i).core := fun _ => rfl
  have hown : ∀ i b, Eng.look (roH c hp) i = some b → b.owned = false := by
    intro i b e
    rw [look_roH] at e
    obtain ⟨b0, _, rfl⟩ := Option.map_eq_some_iff.1 e
    cases b0 <;> rfl
  have hrel : Rel ν2 (Eng.look (roH c hp)) w := by
    refine ⟨fun i b e => ?_, fun i j bi bj ne ei ej ho => ?_⟩
    · rw [look_roH] at e
      obtain ⟨b0, e0, rfl⟩ := Option.map_eq_some_iff.1 e
      have hd := hr.den i b0 e0
      have hok := (hb i b0 e0).1
      have cell : ∀ {t : TypeId} {l : List V}, (ν2 i).fp = (ν i).fp → okL (inH hp) l = true → ((ν i).core.off = 0 ∧ (∀ k, (ν i).fp k ↔ k = (ν i).core.blk) ∧ w.heap[(ν i).core.blk]? = some (.cells (denL ν l).toArray t (0, 0))) → (Blk.ro t l).den ν2 (ν2 i) w := by
        intro t l hf ho ⟨d1, d2, d3⟩
        refine ⟨d1, fun k => by rw [hf]; exact d2 k, ?_⟩
        rw [show denL ν2 l = denL ν l from denL_congr (ν := ν2) (ν' := ν) (p := inH hp) (fun i _ => hcore i) l ho]
        exact d3
      cases b0 with
      | cells t l => exact cell (by simp [ν2, e0]) hok hd
      | ro t l => exact cell (by simp [ν2, e0]) hok hd
      | leaf b => exact ⟨rfl, fun k => by simp [ν2, e0]⟩
      | lst own t ks l => exact ⟨rfl, fun k => by simp [ν2, e0]⟩
      | dead => exact ⟨rfl, fun k => by simp [ν2, e0]⟩
      | bx t tp tb ks l g x => exact ⟨rfl, fun k => by simp [ν2, e0]⟩
      | nst t p ks ti ki l m x => exact ⟨rfl, fun k => by simp [ν2, e0]⟩
    · rw [hown i bi ei] at ho; cases ho
  have hc := h.calls args (roH c hp) v [] ν2 w hG (fun k ⟨j, b, e, ho, _⟩ => by rw [hown j b e] at ho; cases ho) (by rw [hin]; exact ha) (fun i b e => by
    rw [hin, roH_length]
    rw [look_roH] at e
    obtain ⟨b0, e0, rfl⟩ := Option.map_eq_some_iff.1 e
    refine ⟨?_, (hb i b0 e0).2⟩
    have := (hb i b0 e0).1
    cases b0 <;> first | exact this | rfl) hrel hsp (by
    unfold outO
    simp only [List.all_nil, Bool.and_true]
    exact V.ok_mono (fun i hi => by cases hi) v hfv)
  have ed : denL ν2 args = denL ν args := denL_congr (ν := ν2) (ν' := ν) (p := inH hp) (fun i _ => hcore i) args ha
  rw [ed] at hc
  refine hc.mono ?_
  rintro e w' ⟨ν', rfl, _, _, _, hprog⟩
  refine ⟨by rw [flat_den hfv ν' nu0], hprog.os, hprog.tape, hprog.output, hprog.size, fun k hk => ?_⟩
  refine hprog.block k hk ?_
  rintro ⟨j, b, e, ho, _⟩
  rw [hown j b e] at ho; cases ho
/-! ### a contract's truths and told numbers in their plainest form -/
def nrm1 : V → V
  | .tt => .s (.bool true)
  | .ff => .s (.bool false)
  | .n k x => .s (.int k x)
  | v => v
def nrmV : V → V
  | .tup l => .tup (l.map nrm1)
  | v => nrm1 v
def nrmB : Blk → Blk
  | .cells t l => .cells t (l.map nrm1)
  | b => b
def nrmH : Heap → Heap
  | [] => []
  | (i, b) :: r => (i, nrmB b) :: nrmH r
theorem nrm1_den (ν : Env) (v : V) : (nrm1 v).den ν = v.den ν := by cases v <;> rfl
theorem nrm1_ok (p : Nat → Bool) (v : V) : (nrm1 v).ok p = v.ok p := by cases v <;> rfl
theorem nrmL_den (ν : Env) : ∀ l : List V, denL ν (l.map nrm1) = denL ν l
  | [] => rfl
  | v :: r => by simp only [List.map_cons, denL, nrm1_den, nrmL_den ν r]
theorem nrmL_ok (p : Nat → Bool) : ∀ l : List V, okL p (l.map nrm1) = okL p l
  | [] => rfl
  | v :: r => by simp only [List.map_cons, okL, nrm1_ok, nrmL_ok p r]
theorem nrmV_den (ν : Env) (v : V) : (nrmV v).den ν = v.den ν := by
  unfold nrmV
  split
  · simp only [V.den, nrmL_den]
  · exact nrm1_den ν _
theorem nrmV_ok (p : Nat → Bool) (v : V) : (nrmV v).ok p = v.ok p := by
  unfold nrmV
  split
  · simp only [V.ok, nrmL_ok]
  · exact nrm1_ok p _
theorem nrmB_owned (b : Blk) : (nrmB b).owned = b.owned := by cases b <;> rfl
theorem nrmB_ok (p : Nat → Bool) (b : Blk) : (nrmB b).ok p = b.ok p := by
  cases b <;> first | rfl | exact nrmL_ok p _
theorem nrmB_den {ν : Env} {σ : Slot} {w : World} (b : Blk) (h : b.den ν σ w) : (nrmB b).den ν σ w := by
  cases b with
  | cells t l => exact ⟨h.1, h.2.1, by rw [nrmL_den]; exact h.2.2⟩
  | _ => exact h
theorem look_nrmH : ∀ {h : Heap} {i : Nat}, look (nrmH h) i = (look h i).map nrmB
  | [], i => rfl
  | (j, b) :: r, i => by
    simp only [nrmH, look]
    by_cases e : (j == i) = true
    · rw [if_pos e, if_pos e]; rfl
    · rw [if_neg e, if_neg e]; exact look_nrmH
theorem inH_nrm {h : Heap} : inH (nrmH h) = inH h := by
  funext i
  unfold inH
  rw [look_nrmH]
  cases look h i <;> rfl
theorem outO_nrm {h h' : Heap} {v : V} : outO h (nrmV v) (nrmH h') = outO h v h' := by
  have e : inO h (nrmH h') = inO h h' := by
    funext j
    unfold inO
    rw [inH_nrm]
  unfold outO
  rw [e, nrmV_ok]
  clear e
  congr 1
  generalize inO h h' = p
  induction h' with
  | nil => rfl
  | cons q r ih =>
    obtain ⟨j, b⟩ := q
    simp only [nrmH, List.all_cons, ih, nrmB_owned, nrmB_ok]
theorem ObjOk.norm {P : Program} {f : Nat} {sp : Obj} (h : ObjOk P f sp) : ObjOk P f (fun args h0 => (sp args h0).bind fun r => .ret (nrmV r.1, nrmH r.2)) := by
  refine ⟨h.body, fun args h0 v h'' ν w hG hF hoa hoh hrel hv hout => ?_⟩
  obtain ⟨⟨v0, h'⟩, h1, h2⟩ := T.eval_bind_some hv
  simp only [T.eval, Option.some.injEq, Prod.mk.injEq] at h2
  obtain ⟨rfl, rfl⟩ := h2
  have hout : outO h0 (nrmV v0) (nrmH h') = true := hout
  rw [outO_nrm] at hout
  refine (h.calls args h0 v0 h' ν w hG hF hoa hoh hrel h1 hout).mono ?_
  rintro e w' ⟨ν', e1, e2, e3, e4, e5⟩
  refine ⟨ν', by rw [nrmV_den]; exact e1, e2, ⟨fun i b e => ?_, fun i j bi bj ne ei ej ho => ?_⟩, fun i b e => ?_, e5⟩
  · rw [look_nrmH] at e
    obtain ⟨b0, e0, rfl⟩ := Option.map_eq_some_iff.1 e
    exact nrmB_den b0 (e3.den i b0 e0)
  · rw [look_nrmH] at ei ej
    obtain ⟨b0, q0, rfl⟩ := Option.map_eq_some_iff.1 ei
    obtain ⟨b1, q1, rfl⟩ := Option.map_eq_some_iff.1 ej
    rw [nrmB_owned] at ho
    exact e3.dis i j b0 b1 ne q0 q1 ho
  · rw [look_nrmH] at e
    obtain ⟨b0, e0, rfl⟩ := Option.map_eq_some_iff.1 e
    exact e4 i b0 e0
end Go.Eng

/- The machine: loops whose blocks change their numbers, and whose cells and slots are plain again behind each round. No program is named here. -/
namespace Go.Eng
set_option linter.unusedSectionVars false
variable [Go.Eng.GW]
open Go.RowKit
set_option linter.unusedVariables false
set_option linter.unusedSimpArgs false
def g2 (l : List (Int × Int)) (i : Int) : Int × Int := l.getD (0 + i.toNat) (0, 0)
def g3 (l : List (Int × Int × Int)) (i : Int) : Int × Int × Int := l.getD (0 + i.toNat) (0, 0, 0)
/-- a plain value in its plainest form -/
def normV (L : Look) (v : V) : V :=
  match v with
  | .tt => .s (.bool true)
  | .ff => .s (.bool false)
  | v => if flat (detach L v) then detach L v else v
theorem normV_den {ν : Env} {L : Look} {w : World} (hr : Rel ν L w) (v : V) : (normV L v).den ν = v.den ν := by
  unfold normV
  split
  · rfl
  · rfl
  · split
    · rename_i h; exact detach_den hr _ h
    · rfl
theorem normV_junk {L : Look} {v : V} (h : (normV L v).isJunk = false) : v.isJunk = false := by
  cases v <;> first | rfl | (simp [normV, detach, flat, V.ok, V.isJunk] at h)
theorem normV_ok {L : Look} {p : Nat → Bool} {v : V} (h : v.ok p = true) : (normV L v).ok p = true := by
  unfold normV
  split
  · rfl
  · rfl
  · split
    · rename_i hf; exact V.ok_mono (fun i hi => by cases hi) _ hf
    · exact h
def normB (L : Look) : Blk → Blk
  | .cells t l => .cells t (l.map (normV L))
  | b => b
def normTm (L : Look) : Tm → Tm
  | [] => []
  | (t, v) :: r => (t, normV L v) :: normTm L r
def normHp (L : Look) : Heap → Heap
  | [] => []
  | (i, b) :: r => (i, normB L b) :: normHp L r
theorem normTm_get {L : Look} : ∀ (l : Tm) (t : Nat), getT (normTm L l) t = normV L (getT l t)
  | [], t => rfl
  | (j, v) :: r, t => by
    simp only [normTm, getT]
    split
    · rfl
    · exact normTm_get r t
theorem normHp_look {L : Look} : ∀ (h : Heap) (i : Nat), look (normHp L h) i = (look h i).map (normB L)
  | [], i => rfl
  | (j, b) :: r, i => by
    simp only [normHp, look]
    split
    · rfl
    · exact normHp_look r i
def normSt (st : St) : St := ⟨normTm (look st.heap) st.tmps, normHp (look st.heap) st.heap, st.next, st.size⟩
theorem normL_den {ν : Env} {L : Look} {w : World} (hr : Rel ν L w) : ∀ l : List V, denL ν (l.map (normV L)) = denL ν l
  | [] => rfl
  | v :: r => by simp only [List.map_cons, denL, normV_den hr v, normL_den hr r]
theorem normL_ok {L : Look} {p : Nat → Bool} : ∀ {l : List V}, okL p l = true → okL p (l.map (normV L)) = true
  | [], h => rfl
  | v :: r, h => by
    simp only [List.map_cons, okL, Bool.and_eq_true] at h ⊢
    exact ⟨normV_ok h.1, normL_ok h.2⟩
theorem normB_owned {L : Look} (b : Blk) : (normB L b).owned = b.owned := by cases b <;> rfl
theorem normSt_says {ν0 : Env} {n0 : Nat} {w0 : World} {F0 : Nat → Prop} {ν : Env} {st : St} {a : Act} {w : World} (hs : Says ν0 n0 w0 F0 ν st a w) : Says ν0 n0 w0 F0 ν (normSt st) a w := by
  obtain ⟨hr, hn0⟩ := hs
  have hlk : ∀ i b, look (normHp (look st.heap) st.heap) i = some b → ∃ c, look st.heap i = some c ∧ b = normB (look st.heap) c := by
    intro i b e
    rw [normHp_look] at e
    obtain ⟨c, h1, h2⟩ := Option.map_eq_some_iff.1 e
    exact ⟨c, h1, h2.symm⟩
  refine ⟨⟨hr.size, ?_, ?_, hr.defers, ⟨?_, ?_⟩, ?_, ?_, hr.prog, ?_, hr.base, hr.gl⟩, hn0⟩
  · intro t ht
    simp only [normSt, normTm_get] at ht
    exact hr.dom t (normV_junk ht)
  · intro t ht
    simp only [normSt, normTm_get] at ht ⊢
    rw [normV_den hr.rel]
    exact hr.tmp t (normV_junk ht)
  · intro i b e
    obtain ⟨c, h1, rfl⟩ := hlk i b e
    have hd := hr.rel.den i c h1
    cases c with
    | cells t l =>
      obtain ⟨d1, d2, d3⟩ := hd
      exact ⟨d1, d2, by rw [normL_den hr.rel]; exact d3⟩
    | ro t l => exact hd
    | leaf c => exact hd
    | lst own t ks l => exact hd
    | dead => exact hd
    | bx t tp tb ks l g x => exact hd
    | nst t p ks ti ki l m x => exact hd
  · intro i j bi bj ne ei ej ho k hk hk'
    obtain ⟨c, h1, rfl⟩ := hlk i bi ei
    obtain ⟨d, h2, rfl⟩ := hlk j bj ej
    rw [normB_owned] at ho
    exact hr.rel.dis i j c d ne h1 h2 ho k hk hk'
  · intro t ht
    simp only [normSt, normTm_get] at ht ⊢
    exact normV_ok (hr.okT t (normV_junk ht))
  · intro i b e
    obtain ⟨c, h1, rfl⟩ := hlk i b e
    obtain ⟨o1, o2⟩ := hr.okH i c h1
    refine ⟨?_, o2⟩
    cases c with
    | cells t l => exact normL_ok o1
    | ro t l => exact o1
    | leaf c => rfl
    | lst own t ks l => rfl
    | dead => rfl
    | bx t tp tb ks l g x => exact o1
    | nst t p ks ti ki l m x => exact o1
  · intro i b e ho k hk
    obtain ⟨c, h1, rfl⟩ := hlk i b e
    rw [normB_owned] at ho
    exact hr.own i c h1 ho k hk
def wkStN (T0 : List Nat) (S0 : List (Nat × Src)) (m M : Nat) (st : St) : T St := wkStR T0 S0 m M (normSt (settleSt st))
theorem wkStN_says {T0 : List Nat} {S0 : List (Nat × Src)} {m M : Nat} {ν0 : Env} {n0 : Nat} {w0 : World} {F0 : Nat → Prop} {ν : Env} {st st' : St} {a : Act} {w : World} (hs : Says ν0 n0 w0 F0 ν st a w) (hn : n0 ≤ m)
    (h : (wkStN T0 S0 m M st).eval = some st') : ∃ ν', Says ν0 n0 w0 F0 ν' st' a w := by
  obtain ⟨ν1, h1⟩ := settleSt_says hs
  exact wkStR_says (normSt_says h1) hn h
theorem wkStN_mem {T0 : List Nat} {S0 : List (Nat × Src)} {m M : Nat} {st st' : St} (h : (wkStN T0 S0 m M st).eval = some st') : ∀ i b, look st'.heap i = some b → i ∈ keysR S0 := wkStR_mem (st := normSt (settleSt st)) h
theorem wkStN_inv {T0 : List Nat} {S0 : List (Nat × Src)} {m M : Nat} {st st' : St} (h : (wkStN T0 S0 m M st).eval = some st') : Inv st' ∧ st'.next = M ∧ m ≤ M ∧ st'.size = st.size := by
  have := wkStR_inv (st := normSt (settleSt st)) h
  rw [← settleSt_size st]; exact this
theorem wkStN_mk {T0 : List Nat} {S0 : List (Nat × Src)} {m M : Nat} {st s : St} (h : (wkStN T0 S0 m M st).eval = some s) : s = mkSt T0 (keysR S0) M s.size (s.tmps.map (·.2)) (s.heap.map (·.2)) := wkStR_mk (st := normSt (settleSt st)) h
def roundN (C : Cfg) (Λ : Loops) (body : Code) (T0 : List Nat) (S0 : List (Nat × Src)) (m M : Nat) (st : St) : T (Ex × St) :=
  (exec C Λ body st).bind fun x => (wkStN T0 S0 m M x.2).bind fun s => .ret (x.1, s)
def FamN (C : Cfg) (Λ : Loops) (body : Code) (T0 : List Nat) (S0 : List (Nat × Src)) (m M : Nat) {α : Type} (F : α → St) (step : α → T (Way α)) : Prop :=
  ∀ a x, (step a).eval = some x → (roundN C Λ body T0 S0 m M (F a)).eval = some (x.at F)
theorem famN_rounds {C : Cfg} (hC : C.Ok) (hm : C.P.follows .mixedOrders = true) {Λ : Loops} {c : Code} (hl : LoopsOk C Λ c) {T0 : List Nat} {S0 : List (Nat × Src)} {m M : Nat} {α : Type} {F : α → St} {step : α → T (Way α)} (hf : FamN C Λ c T0 S0 m M F step)
    {ν0 : Env} {n0 : Nat} {w0 : World} {F0 : Nat → Prop} (hn : n0 ≤ m) {Q : Exit → Act → World → Prop} :
    ∀ (n : Nat) (d : α) (r : Ex × St) (ν : Env) (a : Act) (w : World), (iter step n d).eval = some r → Says ν0 n0 w0 F0 ν (F d) a w → (∀ ν' a' w', Says ν0 n0 w0 F0 ν' r.2 a' w' → Q r.1.to a' w') → Code.rounds C.P c Q n a w
  | 0, d, r, ν, a, w, h, hs, hq => by cases h
  | n + 1, d, r, ν, a, w, h, hs, hq => by
    unfold iter at h
    obtain ⟨x, h1, h⟩ := T.eval_bind_some h
    obtain ⟨y, h2, h3⟩ := T.eval_bind_some (hf d x h1)
    obtain ⟨s, h4, h5⟩ := T.eval_bind_some h3
    simp only [T.eval, Option.some.injEq] at h5
    show c.wp C.P (Exit.then (Code.rounds C.P c Q n) Q) a w
    refine exec_ok hC hm c (F d) y _ ν a w hl h2 hs ?_
    intro ν' a' w' hs'
    obtain ⟨ν2, hs2⟩ := wkStN_says hs' hn h4
    cases x with
    | next d' =>
      simp only [Way.at, Prod.mk.injEq] at h5
      obtain ⟨e1, rfl⟩ := h5
      rw [e1]
      exact famN_rounds hC hm hl hf hn n d' r ν2 a' w' h hs2 hq
    | out e s' =>
      simp only [Way.at, Prod.mk.injEq] at h5
      obtain ⟨e1, rfl⟩ := h5
      rw [e1]
      cases e with
      | normal => cases h
      | exit i => simp only [T.eval, Option.some.injEq] at h; subst h; exact hq ν2 a' w' hs2
      | ret => simp only [T.eval, Option.some.injEq] at h; subst h; exact hq ν2 a' w' hs2
def famNL {α : Type} (T0 : List Nat) (S0 : List (Nat × Src)) (m M sz : Nat) (dec : List V → List Blk → Option α) (res : α → T (Ex × St)) : LSpec := fun st =>
  (wkStN T0 S0 m M st).bind fun s => if Nat.beq st.size sz && Nat.ble st.next m && apartB st.heap (keysR S0) then opt (dec (s.tmps.map (·.2)) (s.heap.map (·.2))) fun d => (res d).bind fun r => .ret (r.1, withLeaves st.heap r.2) else .fail
theorem iterN_blocks {C : Cfg} {Λ : Loops} {c : Code} {T0 : List Nat} {S0 : List (Nat × Src)} {m M : Nat} {α : Type} {F : α → St} {step : α → T (Way α)} (hf : FamN C Λ c T0 S0 m M F step) :
    ∀ (n : Nat) (d : α) (r : Ex × St), (iter step n d).eval = some r → ∃ st, (wkStN T0 S0 m M st).eval = some r.2
  | 0, d, r, h => by cases h
  | n + 1, d, r, h => by
    unfold iter at h
    obtain ⟨x, h1, h⟩ := T.eval_bind_some h
    cases x with
    | next d' => exact iterN_blocks hf n d' r h
    | out e s =>
      obtain ⟨y, h2, h3⟩ := T.eval_bind_some (hf d _ h1)
      obtain ⟨s', h4, h5⟩ := T.eval_bind_some h3
      simp only [T.eval, Option.some.injEq, Way.at, Prod.mk.injEq] at h5
      obtain ⟨e1, rfl⟩ := h5
      cases e with
      | normal => cases h
      | exit i => simp only [T.eval, Option.some.injEq] at h; subst h; exact ⟨_, h4⟩
      | ret => simp only [T.eval, Option.some.injEq] at h; subst h; exact ⟨_, h4⟩
theorem famNL_ok {C : Cfg} (hC : C.Ok) (hm : C.P.follows .mixedOrders = true) {Λ : Loops} {c : Code} (hl : LoopsOk C Λ c) {T0 : List Nat} {S0 : List (Nat × Src)} {m M sz : Nat} {α : Type} {vs : α → List V} {bs : α → List Blk} {step : α → T (Way α)}
    (hf : FamN C Λ c T0 S0 m M (fun d => mkSt T0 (keysR S0) M sz (vs d) (bs d)) step) {dec : List V → List Blk → Option α} {res : α → T (Ex × St)} (hd : ∀ l b d, dec l b = some d → l = vs d ∧ b = bs d) (hr : ∀ d r, (res d).eval = some r → ∃ n, (iter step n d).eval = some r) :
    LoopOk C c (famNL T0 S0 m M sz dec res) := by
  have open' : ∀ (st : St) (r : Ex × St), (famNL T0 S0 m M sz dec res st).eval = some r → ∃ s d r0 n, (wkStN T0 S0 m M st).eval = some s ∧ st.next ≤ m ∧ apartB st.heap (keysR S0) = true ∧ s = mkSt T0 (keysR S0) M sz (vs d) (bs d) ∧ (iter step n d).eval = some r0 ∧ r = (r0.1, withLeaves st.heap r0.2) := by
    intro st r h
    obtain ⟨s, h1, h⟩ := T.eval_bind_some h
    split at h
    · rename_i hc
      simp only [Bool.and_eq_true] at hc
      obtain ⟨d, h2, h⟩ := opt_eval h
      obtain ⟨r0, h3, h⟩ := T.eval_bind_some h
      simp only [T.eval, Option.some.injEq] at h
      obtain ⟨n, hn⟩ := hr d r0 h3
      have hsz : s.size = sz := by rw [(wkStN_inv h1).2.2.2]; exact Nat.eq_of_beq_eq_true hc.1.1
      have hmk := wkStN_mk h1
      obtain ⟨e1, e2⟩ := hd _ _ _ h2
      rw [hsz, e1, e2] at hmk
      exact ⟨s, d, r0, n, h1, Nat.le_of_ble_eq_true hc.1.2, hc.2, hmk, hn, h.symm⟩
    · cases h
  refine ⟨fun st r h ν0 n0 w0 F0 ν a w Q hs hq => ?_, fun st r h hi => ?_⟩
  · obtain ⟨s, d, r0, n, h1, h3, h4, rfl, h5, rfl⟩ := open' st r h
    have hsr := hs.rebase
    obtain ⟨ν1, hs1⟩ := wkStN_says hsr h3 h1
    refine wp_loop_rounds n (famN_rounds hC hm hl hf h3 n d r0 ν1 a w h5 hs1 ?_)
    intro ν' a' w' hs'
    obtain ⟨q, hq1⟩ := iterN_blocks hf n d r0 h5
    obtain ⟨ν'', hs''⟩ := withLeaves_says (h := st.heap) (fun i b hb => lt_iff.1 (hs.1.okH i b hb).2) (fun i c hc => (hs.1.rel.den i _ hc).1) hs' (by rw [(wkStN_inv hq1).2.1]; exact Nat.le_trans h3 (wkStN_inv hq1).2.2.1) (fun i c hc => by
      cases e : look r0.2.heap i with
      | none => rfl
      | some b => exact absurd (wkStN_mem hq1 i b e) (apartB_of h4 hc))
    refine hq ν'' a' w' (hs.back hs.2 hs'' ?_)
    rintro k ⟨i, b, hb, ho, hk⟩
    exact hs.1.own i b hb ho k hk
  · obtain ⟨s, d, r0, n, h1, h3, h4, rfl, h5, rfl⟩ := open' st r h
    obtain ⟨q, hq1⟩ := iterN_blocks hf n d r0 h5
    have hM : m ≤ r0.2.next := by rw [(wkStN_inv hq1).2.1]; exact (wkStN_inv hq1).2.2.1
    refine ⟨fun i b hb => ?_, fun i c hc => ?_⟩
    · simp only [withLeaves, look_append, over] at hb
      show i < r0.2.next
      cases e : look r0.2.heap i with
      | some b' => exact (wkStN_inv hq1).1 i b' e
      | none =>
        rw [e] at hb
        exact Nat.lt_of_lt_of_le (hi i b (look_lvs.2 b hb).1) (Nat.le_trans h3 hM)
    · simp only [withLeaves, look_append, over]
      cases e : look r0.2.heap i with
      | some b' => exact absurd (wkStN_mem hq1 i b' e) (apartB_of h4 hc)
      | none => exact look_lvs.1 c hc (look_mem_ids hc)
noncomputable def famWN {P A : Type} (T0 : List Nat) (S0 : List (Nat × Src)) (m M sz : Nat) (dec : List V → List Blk → Option (P × A)) (inv : P → A → Bool) (nxt : P → A → Option A) (out : P → A → T (Ex × St)) : LSpec :=
  famNL T0 S0 m M sz dec (resW inv nxt out)
theorem famWN_ok {C : Cfg} (hC : C.Ok) (hm : C.P.follows .mixedOrders = true) {Λ : Loops} {c : Code} (hl : LoopsOk C Λ c) {T0 : List Nat} {S0 : List (Nat × Src)} {m M sz : Nat} {P A : Type} {vs : P → A → List V} {bs : P → A → List Blk}
    {inv : P → A → Bool} {nxt : P → A → Option A} {out : P → A → T (Ex × St)} {dec : List V → List Blk → Option (P × A)}
    (hd : ∀ l b d, dec l b = some d → l = vs d.1 d.2 ∧ b = bs d.1 d.2) (μ : P → A → Nat)
    (hs : ∀ p a b, inv p a = true → nxt p a = some b → inv p b = true ∧ μ p b < μ p a)
    (hr : ∀ p a, inv p a = true → (∀ b, nxt p a = some b → (roundN C Λ c T0 S0 m M (mkSt T0 (keysR S0) M sz (vs p a) (bs p a))).eval = some (.normal, mkSt T0 (keysR S0) M sz (vs p b) (bs p b))) ∧
      (nxt p a = none → ∀ r, (out p a).eval = some r → r.1 ≠ .normal ∧ (roundN C Λ c T0 S0 m M (mkSt T0 (keysR S0) M sz (vs p a) (bs p a))).eval = some r)) :
    LoopOk C c (famWN T0 S0 m M sz dec inv nxt out) := by
  refine famNL_ok hC hm hl (vs := fun d => vs d.1 d.2) (bs := fun d => bs d.1 d.2) (step := stepW inv nxt out) (fun d x hx => ?_) hd fun d r h => ?_
  · obtain ⟨p, a⟩ := d
    unfold stepW at hx
    cases hi : inv p a
    · simp only [hi] at hx; cases hx
    · simp only [hi] at hx
      cases hn : nxt p a with
      | some b =>
        simp only [hn] at hx
        obtain rfl := Option.some.inj hx
        exact (hr p a hi).1 b hn
      | none =>
        simp only [hn] at hx
        obtain ⟨r, h1, h2⟩ := T.eval_bind_some (show ((out p a).bind fun r => .ret (.out r.1 r.2)).eval = some x from hx)
        obtain rfl := Option.some.inj h2
        exact ((hr p a hi).2 hn r h1).2
  · obtain ⟨p, a⟩ := d
    unfold resW at h
    cases hi : inv p a
    · simp only [hi] at h; cases h
    · simp only [hi] at h
      have h' : (out p (endW (nxt p) a)).eval = some r := h
      have hI : ∀ a b, inv p a = true → nxt p a = some b → inv p b = true ∧ μ p b < μ p a := fun a b h e => hs p a b h e
      obtain ⟨e, he⟩ := runW_some hI (μ p a) a hi (Nat.le_refl _)
      rw [endW_eq he] at h'
      refine ⟨μ p a + 1, ?_⟩
      clear h
      generalize μ p a = n at he
      clear hI
      induction n generalizing a with
      | zero =>
        unfold runW at he
        unfold iter
        rw [T.eval_bind]
        cases hn : nxt p a <;> rw [hn] at he
        · simp only [Option.some.injEq] at he
          subst he
          rw [stepW_none hi hn h']
          have := ((hr p a hi).2 hn r h').1
          obtain ⟨r1, r2⟩ := r
          cases r1 <;> first | rfl | exact absurd rfl this
        · cases he
      | succ n ih =>
        unfold runW at he
        unfold iter
        rw [T.eval_bind]
        cases hn : nxt p a with
        | none =>
          rw [hn] at he
          simp only [Option.some.injEq] at he
          subst he
          rw [stepW_none hi hn h']
          have := ((hr p a hi).2 hn r h').1
          obtain ⟨r1, r2⟩ := r
          cases r1 <;> first | rfl | exact absurd rfl this
        | some b =>
          rw [hn] at he
          rw [stepW_some hi hn]
          exact ih b (hs p a b hi hn).1 he
end Go.Eng

/- The machine: a method that only reads one block, by its contract over objects. No program is named here. -/
namespace Go.Eng
set_option linter.unusedSectionVars false
variable [Go.Eng.GW]
open Go.RowKit
set_option linter.unusedVariables false
set_option linter.unusedSimpArgs false
theorem ObjOk.get {P : Program} {f : Nat} {sp : Obj} (h : ObjOk P f sp) (t : TypeId) (g : List V → List V → T V)
    (he : ∀ l args v, flatL l = true → flatL args = true → (g l args).eval = some v → flat v = true → (sp (.ptr 0 0 :: args) [(0, .cells t l)]).eval = some (v, [(0, .cells t l)])) : GetOk P f t g := by
  refine ⟨h.body, fun l args v b w hG hgb hl ha hv hfv hb => ?_⟩
  let ν : Env := fun j => if j = 0 then ⟨⟨b, 0, 0, none, false⟩, fun k => k = b⟩ else ⟨⟨0, 0, 0, none, false⟩, fun _ => False⟩
  have n0 : ν 0 = ⟨⟨b, 0, 0, none, false⟩, fun k => k = b⟩ := by simp [ν]
  have hlook : ∀ i bk, look [(0, Blk.cells t l)] i = some bk → i = 0 ∧ bk = .cells t l := by
    intro i bk e
    simp only [look] at e
    split at e
    · rename_i q
      exact ⟨(by simpa using q : 0 = i).symm, (Option.some.inj e).symm⟩
    · cases e
  have hrel : Rel ν (look [(0, .cells t l)]) w := by
    refine ⟨fun i bk e => ?_, fun i j bi bj ne ei ej => absurd ((hlook i bi ei).1.trans (hlook j bj ej).1.symm) ne⟩
    obtain ⟨rfl, rfl⟩ := hlook i bk e
    rw [n0]
    exact ⟨rfl, fun k => Iff.rfl, by rw [flatL_den hl ν nu0]; exact hb⟩
  have h0 : inH [(0, Blk.cells t l)] 0 = true := rfl
  have hno : ∀ i, (fun _ : Nat => false) i = true → inH [(0, Blk.cells t l)] i = true := fun i hi => by cases hi
  have hno' : ∀ i, (fun _ : Nat => false) i = true → inO [(0, Blk.cells t l)] [(0, Blk.cells t l)] i = true := fun i hi => by cases hi
  have hok : okL (inH [(0, Blk.cells t l)]) (.ptr 0 0 :: args) = true := by
    simp only [okL, Bool.and_eq_true]
    exact ⟨h0, okL_mono hno args ha⟩
  have hbk : ∀ i bk, look [(0, Blk.cells t l)] i = some bk → bk.ok (inH [(0, Blk.cells t l)]) = true ∧ i < [(0, Blk.cells t l)].length := by
    intro i bk e
    obtain ⟨rfl, rfl⟩ := hlook i bk e
    exact ⟨okL_mono hno l hl, Nat.zero_lt_one⟩
  have hout : outO [(0, Blk.cells t l)] v [(0, Blk.cells t l)] = true := by
    unfold outO
    simp only [Bool.and_eq_true, List.all_cons, List.all_nil, and_true]
    exact ⟨V.ok_mono hno' v hfv, ⟨rfl, okL_mono hno' l hl⟩, rfl⟩
  have hownb : ∀ k, ownFp ν [(0, Blk.cells t l)] k → gs ≤ k := by
    rintro k ⟨j, bk, e, _, hk⟩
    obtain ⟨rfl, rfl⟩ := hlook j bk e
    rw [n0] at hk
    have hk : k = b := hk
    rw [hk]; exact hgb
  have hc := h.calls (.ptr 0 0 :: args) [(0, .cells t l)] v [(0, .cells t l)] ν w hG hownb hok hbk hrel (he l args v hl ha hv hfv) hout
  have ea : (denL ν (.ptr 0 0 :: args)).toArray = (Value.pointer (some ⟨b, 0, none⟩) :: denL nu0 args).toArray := by
    show ((V.ptr 0 0).den ν :: denL ν args).toArray = _
    rw [flatL_den ha ν nu0]
    simp [V.den, n0]
  rw [ea] at hc
  refine hc.mono ?_
  rintro e w' ⟨ν', rfl, hcore, hr, hown, hprog⟩
  refine ⟨by rw [flat_den hfv ν' nu0], hprog.os, hprog.tape, hprog.output, hprog.size, fun k hk => ?_⟩
  by_cases q : k = b
  · obtain ⟨d1, d2, d3⟩ := hr.den 0 (.cells t l) rfl
    have hc0 := hcore 0 h0
    rw [n0] at hc0
    rw [hc0, flatL_den hl ν' nu0] at d3
    rw [q, hb]
    exact d3
  · refine hprog.block k hk ?_
    rintro ⟨j, bj, ej, -, hj⟩
    obtain ⟨rfl, rfl⟩ := hlook j bj ej
    rw [n0] at hj
    exact q hj
/-! ### a method that reads all that it is led to: where its contract over objects changes nothing -/
def cellsB : Blk → Bool
  | .cells .. => true
  | _ => false
def seeH (h : Heap) : Bool := nodupN (keysN h) && h.all fun p => cellsB p.2
theorem ObjOk.see {P : Program} {f : Nat} {sp : Obj} (h : ObjOk P f sp) (g : List V → Heap → T V)
    (he : ∀ args hp v, (g args hp).eval = some v → flat v = true → seeH hp = true ∧ (sp args hp).eval = some (v, hp)) : SeeOk P f g := by
  refine ⟨h.body, fun args hp v ν w hG hF ha hb hr hv hfv => ?_⟩
  obtain ⟨hs, hsp⟩ := he args hp v hv hfv
  unfold seeH at hs
  simp only [Bool.and_eq_true] at hs
  have hmem : ∀ i b, (i, b) ∈ hp → look hp i = some b := fun i b hm => look_mem_nodup hs.1 hm
  have hcell : ∀ i b, look hp i = some b → cellsB b = true := fun i b e => List.all_eq_true.1 hs.2 _ (mem_of_look e)
  have hown : ∀ b, cellsB b = true → b.owned = true := by
    intro b e
    cases b <;> first | rfl | (cases e; done)
  have hio : ∀ i, inH hp i = true → inO hp hp i = true := fun i hi => by unfold inO; rw [hi]; rfl
  have hokm : ∀ b, cellsB b = true → b.ok (inH hp) = true → b.ok (inO hp hp) = true := by
    intro b e q
    cases b with
    | cells t l => exact okL_mono hio l q
    | _ => cases e
  have hout : outO hp v hp = true := by
    unfold outO
    simp only [Bool.and_eq_true]
    refine ⟨V.ok_mono (fun i hi => by cases hi) v hfv, List.all_eq_true.2 fun p hp' => ?_⟩
    obtain ⟨i, b⟩ := p
    have e := hmem i b hp'
    simp only [Bool.and_eq_true]
    exact ⟨⟨hown b (hcell i b e), hokm b (hcell i b e) (hb i b e).1⟩, by rw [e]; exact hown b (hcell i b e)⟩
  have hc := h.calls args hp v hp ν w hG hF ha hb hr hsp hout
  refine hc.mono ?_
  rintro e w' ⟨ν', rfl, hcore, hr', hown', hprog⟩
  refine ⟨by rw [flat_den hfv ν' nu0], hprog.os, hprog.tape, hprog.output, hprog.size, fun k hk => ?_⟩
  by_cases q : ownFp ν hp k
  · obtain ⟨j, b, e, ho, hj⟩ := q
    have hcb := hcell j b e
    cases b with
    | cells t l =>
      obtain ⟨d1, d2, d3⟩ := hr.den j _ e
      obtain ⟨e1, e2, e3⟩ := hr'.den j _ e
      have hk2 : k = (ν j).core.blk := (d2 k).1 hj
      have hin : inH hp j = true := by unfold inH; rw [e]; rfl
      have hl : denL ν' l = denL ν l := denL_congr (p := inH hp) (fun i hi => hcore i hi) l (hb j _ e).1
      rw [hcore j hin, hl] at e3
      rw [hk2, d3]
      exact e3
    | _ => cases hcb
  · exact hprog.block k hk q
/-! ### numbers made plain at once: for closed runs -/
def frcN {α : Type} (n : Nat) (k : Nat → T α) : T α :=
  match n with
  | 0 => k 0
  | m + 1 => k (m + 1)
theorem frcN_eq {α : Type} (n : Nat) (k : Nat → T α) : frcN n k = k n := by cases n <;> rfl
def frcI {α : Type} (n : Int) (k : Int → T α) : T α :=
  match n with
  | .ofNat m => frcN m fun m => k (.ofNat m)
  | .negSucc m => frcN m fun m => k (.negSucc m)
theorem frcI_eq {α : Type} (n : Int) (k : Int → T α) : frcI n k = k n := by
  cases n <;> (unfold frcI; simp only [frcN_eq])
def frcV {α : Type} (v : V) (k : V → T α) : T α :=
  match v with
  | .s (.cx q x y) => frcN x fun x => frcN y fun y => k (.s (.cx q x y))
  | .s (.int q n) => frcI n fun n => k (.s (.int q n))
  | .s (.bool b) => bif b then k (.s (.bool true)) else k (.s (.bool false))
  | v => k v
theorem frcV_eq {α : Type} (v : V) (k : V → T α) : frcV v k = k v := by
  unfold frcV
  split
  · rw [frcN_eq, frcN_eq]
  · rw [frcI_eq]
  · rename_i b; cases b <;> rfl
  · rfl
def frcL {α : Type} : List V → (List V → T α) → T α
  | [], k => k []
  | v :: r, k => frcV v fun v => frcL r fun r => k (v :: r)
theorem frcL_eq {α : Type} : ∀ (l : List V) (k : List V → T α), frcL l k = k l
  | [], k => rfl
  | v :: r, k => by unfold frcL; rw [frcV_eq, frcL_eq r]
def frcW {α : Type} (v : V) (k : V → T α) : T α :=
  match v with
  | .tup l => frcL l fun l => k (.tup l)
  | v => frcV v k
theorem frcW_eq {α : Type} (v : V) (k : V → T α) : frcW v k = k v := by
  unfold frcW
  split
  · rw [frcL_eq]
  · rw [frcV_eq]
def frcK {α : Type} : (k : K) → k.T → (k.T → T α) → T α
  | .int _, n, f => frcI n f
  | .bool, b, f => bif b then f true else f false
  | .str, s, f => f s
  | .fl _, b, f => frcN b f
  | .cx _, z, f => f z
  | .any, z, f => f z
  | .sl, z, f => f z
theorem frcK_eq {α : Type} (k : K) (x : k.T) (f : k.T → T α) : frcK k x f = f x := by
  cases k with
  | int _ => exact frcI_eq _ _
  | bool => cases x <;> rfl
  | str => rfl
  | fl _ => exact frcN_eq _ _
  | cx _ => rfl
  | any => rfl
  | sl => rfl
def frcRow {α : Type} : (ks : List K) → Row ks → (Row ks → T α) → T α
  | [], x, f => f x
  | [k], x, f => frcK k x f
  | k :: k2 :: r, x, f => frcK k x.1 fun a => frcRow (k2 :: r) x.2 fun b => f (a, b)
theorem frcRow_eq {α : Type} : ∀ (ks : List K) (x : Row ks) (f : Row ks → T α), frcRow ks x f = f x
  | [], x, f => rfl
  | [k], x, f => frcK_eq k x f
  | k :: k2 :: r, x, f => by unfold frcRow; rw [frcK_eq, frcRow_eq]; rfl
def frcO {α : Type} (ks : List K) (o : Option (Row ks)) (f : Option (Row ks) → T α) : T α :=
  match o with
  | none => f none
  | some x => frcRow ks x fun x => f (some x)
theorem frcO_eq {α : Type} (ks : List K) (o : Option (Row ks)) (f : Option (Row ks) → T α) : frcO ks o f = f o := by
  cases o with
  | none => rfl
  | some x => exact frcRow_eq ks x _
def frcB {α : Type} (ks : List K) : List (Option (Row ks)) → (List (Option (Row ks)) → T α) → T α
  | [], f => f []
  | o :: r, f => frcO ks o fun o => frcB ks r fun r => f (o :: r)
theorem frcB_eq {α : Type} (ks : List K) : ∀ (l : List (Option (Row ks))) (f : List (Option (Row ks)) → T α), frcB ks l f = f l
  | [], f => rfl
  | o :: r, f => by unfold frcB; rw [frcO_eq, frcB_eq ks r]
def frcH {α : Type} : Heap → (Heap → T α) → T α
  | [], k => k []
  | (i, .cells t l) :: r, k => frcL l fun l => frcH r fun r => k ((i, .cells t l) :: r)
  | (i, .bx t tp tb ks l g x) :: r, k => frcB ks l fun l => frcH r fun r => k ((i, .bx t tp tb ks l g x) :: r)
  | p :: r, k => frcH r fun r => k (p :: r)
theorem frcH_eq {α : Type} : ∀ (h : Heap) (k : Heap → T α), frcH h k = k h
  | [], k => rfl
  | (i, .cells t l) :: r, k => by unfold frcH; rw [frcL_eq, frcH_eq r]
  | (i, .ro t l) :: r, k => by unfold frcH; rw [frcH_eq r]
  | (i, .leaf b) :: r, k => by unfold frcH; rw [frcH_eq r]
  | (i, .lst o t ks l) :: r, k => by unfold frcH; rw [frcH_eq r]
  | (i, .dead) :: r, k => by unfold frcH; rw [frcH_eq r]
  | (i, .bx t tp tb ks l g x) :: r, k => by unfold frcH; rw [frcB_eq, frcH_eq r]
  | (i, .nst t p ks ti ki l m x) :: r, k => by unfold frcH; rw [frcH_eq r]
theorem T.bind_ret' {α : Type} {t : T α} {v : α} (h : (t.bind fun x => .ret x).eval = some v) : t.eval = some v := by
  obtain ⟨x, h1, h2⟩ := T.eval_bind_some h
  rw [h1, ← h2]; rfl
/-- a contract whose results are numbers made plain -/
def Obj.plain (sp : Obj) : Obj := fun args h => frcH h fun h => frcL args fun args => (sp args h).bind fun r => frcW r.1 fun v => frcH r.2 fun h' => .ret (v, h')
theorem ObjOk.plain {P : Program} {f : Nat} {sp : Obj} (h : ObjOk P f sp) : ObjOk P f sp.plain := h.of_eval fun args hp v hv => by
  unfold Obj.plain at hv
  rw [frcH_eq, frcL_eq] at hv
  have e : (fun r : V × Heap => frcW r.1 fun v => frcH r.2 fun h' => (.ret (v, h') : T (V × Heap))) = fun r => .ret r := by
    funext r; rw [frcW_eq, frcH_eq]
  rw [e] at hv
  exact T.bind_ret' hv
def Spec.plain (sp : Eng.Spec) : Eng.Spec := fun args => frcL args fun args => (sp args).bind fun v => frcW v fun v => .ret v
theorem SpecOk.plain {P : Program} {f : Nat} {sp : Eng.Spec} (h : SpecOk P f sp) : SpecOk P f (Spec.plain sp) := h.of_eval fun args v hv => by
  unfold Spec.plain at hv
  rw [frcL_eq] at hv
  have e : (fun v : V => frcW v fun v => (.ret v : T V)) = fun v => .ret v := by
    funext v; rw [frcW_eq]
  rw [e] at hv
  exact T.bind_ret' hv
end Go.Eng

/- The machine: loops by what stays true, what goes on, and a round's tree: the next state is any that the tree gives. No program is named here. -/
namespace Go.Eng
set_option linter.unusedSectionVars false
variable [Go.Eng.GW]
open Go.RowKit
set_option linter.unusedVariables false
set_option linter.unusedSimpArgs false
open Classical in
noncomputable def invC {P A : Type} (ok : P → A → Prop) (p : P) (a : A) : Bool := decide (ok p a)
theorem invC_is {P A : Type} {ok : P → A → Prop} {p : P} {a : A} (h : ok p a) : invC ok p a = true := by unfold invC; exact @decide_eq_true _ (Classical.propDecidable _) h
theorem invC_ok {P A : Type} {ok : P → A → Prop} {p : P} {a : A} (h : invC ok p a = true) : ok p a := by unfold invC at h; exact @of_decide_eq_true _ (Classical.propDecidable _) h
def stepC {P A : Type} (ok : P → A → Prop) (rt : P → A → T (Ex × St)) (F : P → A → St) (μ : P → A → Nat) (p : P) (a b : A) : Prop := (rt p a).eval = some (.normal, F p b) ∧ ok p b ∧ μ p b < μ p a
open Classical in
noncomputable def nxtC {P A : Type} (ok : P → A → Prop) (go : P → A → Bool) (rt : P → A → T (Ex × St)) (F : P → A → St) (μ : P → A → Nat) (p : P) (a : A) : Option A :=
  if h : go p a = true ∧ ∃ b, stepC ok rt F μ p a b then some (Classical.choose h.2) else none
def outC {P A : Type} (x : Ex) (F : P → A → St) (p : P) (a : A) : T (Ex × St) := .ret (x, F p a)
theorem nxtC_some {P A : Type} {ok : P → A → Prop} {go : P → A → Bool} {rt : P → A → T (Ex × St)} {F : P → A → St} {μ : P → A → Nat} {p : P} {a b : A} (h : nxtC ok go rt F μ p a = some b) : go p a = true ∧ stepC ok rt F μ p a b := by
  unfold nxtC at h
  split at h
  · rename_i hc
    obtain rfl := Option.some.inj h
    exact ⟨hc.1, Classical.choose_spec hc.2⟩
  · cases h
theorem nxtC_none {P A : Type} {ok : P → A → Prop} {go : P → A → Bool} {rt : P → A → T (Ex × St)} {F : P → A → St} {μ : P → A → Nat} {p : P} {a : A} (hg : ∀ p a, ok p a → go p a = true → ∃ b, stepC ok rt F μ p a b) (ho : ok p a) (h : nxtC ok go rt F μ p a = none) : go p a = false := by
  unfold nxtC at h
  split at h
  · cases h
  · rename_i hc
    cases q : go p a
    · rfl
    · exact absurd ⟨q, hg p a ho q⟩ hc
theorem stC {P A : Type} {ok : P → A → Prop} {go : P → A → Bool} {rt : P → A → T (Ex × St)} {F : P → A → St} {μ : P → A → Nat} (p : P) (a b : A) (_ : invC ok p a = true) (e : nxtC ok go rt F μ p a = some b) : invC ok p b = true ∧ μ p b < μ p a := by
  obtain ⟨_, h⟩ := nxtC_some e
  exact ⟨invC_is h.2.1, h.2.2⟩
/-- where such a loop ends -/
theorem endC {P A : Type} {ok : P → A → Prop} {go : P → A → Bool} {rt : P → A → T (Ex × St)} {F : P → A → St} {μ : P → A → Nat} (hg : ∀ p a, ok p a → go p a = true → ∃ b, stepC ok rt F μ p a b) {p : P} {a : A} (h : ok p a) :
    ok p (endW (nxtC ok go rt F μ p) a) ∧ go p (endW (nxtC ok go rt F μ p) a) = false := by
  obtain ⟨h1, h2, _⟩ := endW_says (nxt := nxtC ok go rt F μ p) (I := fun a => ok p a) (μ := μ p) (fun a b _ e => (nxtC_some e).2.2) h
  exact ⟨h1, nxtC_none hg h1 h2⟩
noncomputable def famC {P A : Type} (T0 : List Nat) (S0 : List (Nat × Src)) (m M sz : Nat) (dec : List V → List Blk → Option (P × A)) (ok : P → A → Prop) (go : P → A → Bool) (rt : P → A → T (Ex × St)) (F : P → A → St) (μ : P → A → Nat) (x : Ex) : LSpec :=
  famWN T0 S0 m M sz dec (invC ok) (nxtC ok go rt F μ) (outC x F)
theorem famC_ok {C : Cfg} (hC : C.Ok) (hm : C.P.follows .mixedOrders = true) {Λ : Loops} {c : Code} (hl : LoopsOk C Λ c) {T0 : List Nat} {S0 : List (Nat × Src)} {m M sz : Nat} {P A : Type} {vs : P → A → List V} {bs : P → A → List Blk}
    {dec : List V → List Blk → Option (P × A)} (hd : ∀ l b d, dec l b = some d → l = vs d.1 d.2 ∧ b = bs d.1 d.2)
    {ok : P → A → Prop} {go : P → A → Bool} {rt : P → A → T (Ex × St)} {F : P → A → St} {μ : P → A → Nat} {x : Ex} (hx : x ≠ .normal) (hF : ∀ p a, F p a = mkSt T0 (keysR S0) M sz (vs p a) (bs p a))
    (hrun : ∀ p a, T.anon (roundN C Λ c T0 S0 m M (mkSt T0 (keysR S0) M sz (vs p a) (bs p a))) = rt p a)
    (hg : ∀ p a, ok p a → go p a = true → ∃ b, stepC ok rt F μ p a b)
    (hex : ∀ p a, ok p a → go p a = false → (rt p a).eval = some (x, F p a)) :
    LoopOk C c (famC T0 S0 m M sz dec ok go rt F μ x) := by
  refine famWN_ok (vs := vs) (bs := bs) hC hm hl hd μ stC fun p a h => ?_
  rw [← T.eval_anon (t := roundN _ _ _ _ _ _ _ _), hrun]
  refine ⟨fun b hb => ?_, fun hn r hr => ?_⟩
  · rw [(nxtC_some hb).2.1, hF]
  · obtain rfl := Option.some.inj hr
    exact ⟨hx, hex p a (invC_ok h) (nxtC_none hg (invC_ok h) hn)⟩
/-- the same, where the loop may be left in several ways -/
noncomputable def famD {P A : Type} (T0 : List Nat) (S0 : List (Nat × Src)) (m M sz : Nat) (dec : List V → List Blk → Option (P × A)) (ok : P → A → Prop) (go : P → A → Bool) (rt : P → A → T (Ex × St)) (F : P → A → St) (μ : P → A → Nat) (out : P → A → T (Ex × St)) : LSpec :=
  famWN T0 S0 m M sz dec (invC ok) (nxtC ok go rt F μ) out
theorem famD_ok {C : Cfg} (hC : C.Ok) (hm : C.P.follows .mixedOrders = true) {Λ : Loops} {c : Code} (hl : LoopsOk C Λ c) {T0 : List Nat} {S0 : List (Nat × Src)} {m M sz : Nat} {P A : Type} {vs : P → A → List V} {bs : P → A → List Blk}
    {dec : List V → List Blk → Option (P × A)} (hd : ∀ l b d, dec l b = some d → l = vs d.1 d.2 ∧ b = bs d.1 d.2)
    {ok : P → A → Prop} {go : P → A → Bool} {rt : P → A → T (Ex × St)} {F : P → A → St} {μ : P → A → Nat} {out : P → A → T (Ex × St)} (hF : ∀ p a, F p a = mkSt T0 (keysR S0) M sz (vs p a) (bs p a))
    (hrun : ∀ p a, T.anon (roundN C Λ c T0 S0 m M (mkSt T0 (keysR S0) M sz (vs p a) (bs p a))) = rt p a)
    (hg : ∀ p a, ok p a → go p a = true → ∃ b, stepC ok rt F μ p a b)
    (hex : ∀ p a, ok p a → go p a = false → ∀ r, (out p a).eval = some r → r.1 ≠ .normal ∧ (rt p a).eval = some r) :
    LoopOk C c (famD T0 S0 m M sz dec ok go rt F μ out) := by
  refine famWN_ok (vs := vs) (bs := bs) hC hm hl hd μ stC fun p a h => ?_
  rw [← T.eval_anon (t := roundN _ _ _ _ _ _ _ _), hrun]
  refine ⟨fun b hb => ?_, fun hn r hr => ?_⟩
  · rw [(nxtC_some hb).2.1, hF]
  · exact hex p a (invC_ok h) (nxtC_none hg (invC_ok h) hn) r hr
end Go.Eng

/- The machine: loops that are left in another form than they go on in. No program is named here. -/
namespace Go.Eng
set_option linter.unusedSectionVars false
variable [Go.Eng.GW]
open Go.RowKit
set_option linter.unusedVariables false
set_option linter.unusedSimpArgs false
/-- the normal form behind a round, by how it was left -/
def exT (T0 T1 : List Nat) : Ex → List Nat
  | .normal => T0
  | _ => T1
def exS (S0 S1 : List (Nat × Src)) : Ex → List (Nat × Src)
  | .normal => S0
  | _ => S1
def roundX (C : Cfg) (Λ : Loops) (body : Code) (T0 : List Nat) (S0 : List (Nat × Src)) (T1 : List Nat) (S1 : List (Nat × Src)) (m M : Nat) (st : St) : T (Ex × St) :=
  (exec C Λ body st).bind fun x => (wkStN (exT T0 T1 x.1) (exS S0 S1 x.1) m M x.2).bind fun s => .ret (x.1, s)
def FamX (C : Cfg) (Λ : Loops) (body : Code) (T0 : List Nat) (S0 : List (Nat × Src)) (T1 : List Nat) (S1 : List (Nat × Src)) (m M : Nat) {α : Type} (F : α → St) (step : α → T (Way α)) : Prop :=
  ∀ a x, (step a).eval = some x → (roundX C Λ body T0 S0 T1 S1 m M (F a)).eval = some (x.at F)
theorem famX_rounds {C : Cfg} (hC : C.Ok) (hm : C.P.follows .mixedOrders = true) {Λ : Loops} {c : Code} (hl : LoopsOk C Λ c) {T0 : List Nat} {S0 : List (Nat × Src)} {T1 : List Nat} {S1 : List (Nat × Src)} {m M : Nat} {α : Type} {F : α → St} {step : α → T (Way α)} (hf : FamX C Λ c T0 S0 T1 S1 m M F step)
    {ν0 : Env} {n0 : Nat} {w0 : World} {F0 : Nat → Prop} (hn : n0 ≤ m) {Q : Exit → Act → World → Prop} :
    ∀ (n : Nat) (d : α) (r : Ex × St) (ν : Env) (a : Act) (w : World), (iter step n d).eval = some r → Says ν0 n0 w0 F0 ν (F d) a w → (∀ ν' a' w', Says ν0 n0 w0 F0 ν' r.2 a' w' → Q r.1.to a' w') → Code.rounds C.P c Q n a w
  | 0, d, r, ν, a, w, h, hs, hq => by cases h
  | n + 1, d, r, ν, a, w, h, hs, hq => by
    unfold iter at h
    obtain ⟨x, h1, h⟩ := T.eval_bind_some h
    obtain ⟨y, h2, h3⟩ := T.eval_bind_some (hf d x h1)
    obtain ⟨s, h4, h5⟩ := T.eval_bind_some h3
    simp only [T.eval, Option.some.injEq] at h5
    show c.wp C.P (Exit.then (Code.rounds C.P c Q n) Q) a w
    refine exec_ok hC hm c (F d) y _ ν a w hl h2 hs ?_
    intro ν' a' w' hs'
    obtain ⟨ν2, hs2⟩ := wkStN_says hs' hn h4
    cases x with
    | next d' =>
      simp only [Way.at, Prod.mk.injEq] at h5
      obtain ⟨e1, rfl⟩ := h5
      rw [e1]
      exact famX_rounds hC hm hl hf hn n d' r ν2 a' w' h hs2 hq
    | out e s' =>
      simp only [Way.at, Prod.mk.injEq] at h5
      obtain ⟨e1, rfl⟩ := h5
      rw [e1]
      cases e with
      | normal => cases h
      | exit i => simp only [T.eval, Option.some.injEq] at h; subst h; exact hq ν2 a' w' hs2
      | ret => simp only [T.eval, Option.some.injEq] at h; subst h; exact hq ν2 a' w' hs2
def famXL {α : Type} (T0 : List Nat) (S0 S1 : List (Nat × Src)) (m M sz : Nat) (dec : List V → List Blk → Option α) (res : α → T (Ex × St)) : LSpec := fun st =>
  (wkStN T0 S0 m M st).bind fun s => if Nat.beq st.size sz && Nat.ble st.next m && apartB st.heap (keysR S1) then opt (dec (s.tmps.map (·.2)) (s.heap.map (·.2))) fun d => (res d).bind fun r => .ret (r.1, withLeaves st.heap r.2) else .fail
theorem iterX_blocks {C : Cfg} {Λ : Loops} {c : Code} {T0 : List Nat} {S0 : List (Nat × Src)} {T1 : List Nat} {S1 : List (Nat × Src)} {m M : Nat} {α : Type} {F : α → St} {step : α → T (Way α)} (hf : FamX C Λ c T0 S0 T1 S1 m M F step) :
    ∀ (n : Nat) (d : α) (r : Ex × St), (iter step n d).eval = some r → ∃ st, (wkStN T1 S1 m M st).eval = some r.2
  | 0, d, r, h => by cases h
  | n + 1, d, r, h => by
    unfold iter at h
    obtain ⟨x, h1, h⟩ := T.eval_bind_some h
    cases x with
    | next d' => exact iterX_blocks hf n d' r h
    | out e s =>
      obtain ⟨y, h2, h3⟩ := T.eval_bind_some (hf d _ h1)
      obtain ⟨s', h4, h5⟩ := T.eval_bind_some h3
      simp only [T.eval, Option.some.injEq, Way.at, Prod.mk.injEq] at h5
      obtain ⟨e1, rfl⟩ := h5
      cases e with
      | normal => cases h
      | exit i => simp only [T.eval, Option.some.injEq] at h; subst h; rw [e1] at h4; exact ⟨_, h4⟩
      | ret => simp only [T.eval, Option.some.injEq] at h; subst h; rw [e1] at h4; exact ⟨_, h4⟩
theorem famXL_ok {C : Cfg} (hC : C.Ok) (hm : C.P.follows .mixedOrders = true) {Λ : Loops} {c : Code} (hl : LoopsOk C Λ c) {T0 : List Nat} {S0 : List (Nat × Src)} {T1 : List Nat} {S1 : List (Nat × Src)} {m M sz : Nat} {α : Type} {vs : α → List V} {bs : α → List Blk} {step : α → T (Way α)}
    (hf : FamX C Λ c T0 S0 T1 S1 m M (fun d => mkSt T0 (keysR S0) M sz (vs d) (bs d)) step) {dec : List V → List Blk → Option α} {res : α → T (Ex × St)} (hd : ∀ l b d, dec l b = some d → l = vs d ∧ b = bs d) (hr : ∀ d r, (res d).eval = some r → ∃ n, (iter step n d).eval = some r) :
    LoopOk C c (famXL T0 S0 S1 m M sz dec res) := by
  have open' : ∀ (st : St) (r : Ex × St), (famXL T0 S0 S1 m M sz dec res st).eval = some r → ∃ s d r0 n, (wkStN T0 S0 m M st).eval = some s ∧ st.next ≤ m ∧ apartB st.heap (keysR S1) = true ∧ s = mkSt T0 (keysR S0) M sz (vs d) (bs d) ∧ (iter step n d).eval = some r0 ∧ r = (r0.1, withLeaves st.heap r0.2) := by
    intro st r h
    obtain ⟨s, h1, h⟩ := T.eval_bind_some h
    split at h
    · rename_i hc
      simp only [Bool.and_eq_true] at hc
      obtain ⟨d, h2, h⟩ := opt_eval h
      obtain ⟨r0, h3, h⟩ := T.eval_bind_some h
      simp only [T.eval, Option.some.injEq] at h
      obtain ⟨n, hn⟩ := hr d r0 h3
      have hsz : s.size = sz := by rw [(wkStN_inv h1).2.2.2]; exact Nat.eq_of_beq_eq_true hc.1.1
      have hmk := wkStN_mk h1
      obtain ⟨e1, e2⟩ := hd _ _ _ h2
      rw [hsz, e1, e2] at hmk
      exact ⟨s, d, r0, n, h1, Nat.le_of_ble_eq_true hc.1.2, hc.2, hmk, hn, h.symm⟩
    · cases h
  refine ⟨fun st r h ν0 n0 w0 F0 ν a w Q hs hq => ?_, fun st r h hi => ?_⟩
  · obtain ⟨s, d, r0, n, h1, h3, h4, rfl, h5, rfl⟩ := open' st r h
    have hsr := hs.rebase
    obtain ⟨ν1, hs1⟩ := wkStN_says hsr h3 h1
    refine wp_loop_rounds n (famX_rounds hC hm hl hf h3 n d r0 ν1 a w h5 hs1 ?_)
    intro ν' a' w' hs'
    obtain ⟨q, hq1⟩ := iterX_blocks hf n d r0 h5
    obtain ⟨ν'', hs''⟩ := withLeaves_says (h := st.heap) (fun i b hb => lt_iff.1 (hs.1.okH i b hb).2) (fun i c hc => (hs.1.rel.den i _ hc).1) hs' (by rw [(wkStN_inv hq1).2.1]; exact Nat.le_trans h3 (wkStN_inv hq1).2.2.1) (fun i c hc => by
      cases e : look r0.2.heap i with
      | none => rfl
      | some b => exact absurd (wkStN_mem hq1 i b e) (apartB_of h4 hc))
    refine hq ν'' a' w' (hs.back hs.2 hs'' ?_)
    rintro k ⟨i, b, hb, ho, hk⟩
    exact hs.1.own i b hb ho k hk
  · obtain ⟨s, d, r0, n, h1, h3, h4, rfl, h5, rfl⟩ := open' st r h
    obtain ⟨q, hq1⟩ := iterX_blocks hf n d r0 h5
    have hM : m ≤ r0.2.next := by rw [(wkStN_inv hq1).2.1]; exact (wkStN_inv hq1).2.2.1
    refine ⟨fun i b hb => ?_, fun i c hc => ?_⟩
    · simp only [withLeaves, look_append, over] at hb
      show i < r0.2.next
      cases e : look r0.2.heap i with
      | some b' => exact (wkStN_inv hq1).1 i b' e
      | none =>
        rw [e] at hb
        exact Nat.lt_of_lt_of_le (hi i b (look_lvs.2 b hb).1) (Nat.le_trans h3 hM)
    · simp only [withLeaves, look_append, over]
      cases e : look r0.2.heap i with
      | some b' => exact absurd (wkStN_mem hq1 i b' e) (apartB_of h4 hc)
      | none => exact look_lvs.1 c hc (look_mem_ids hc)
noncomputable def famXW {P A : Type} (T0 : List Nat) (S0 S1 : List (Nat × Src)) (m M sz : Nat) (dec : List V → List Blk → Option (P × A)) (inv : P → A → Bool) (nxt : P → A → Option A) (out : P → A → T (Ex × St)) : LSpec :=
  famXL T0 S0 S1 m M sz dec (resW inv nxt out)
theorem famXW_ok {C : Cfg} (hC : C.Ok) (hm : C.P.follows .mixedOrders = true) {Λ : Loops} {c : Code} (hl : LoopsOk C Λ c) {T0 : List Nat} {S0 : List (Nat × Src)} {T1 : List Nat} {S1 : List (Nat × Src)} {m M sz : Nat} {P A : Type} {vs : P → A → List V} {bs : P → A → List Blk}
    {inv : P → A → Bool} {nxt : P → A → Option A} {out : P → A → T (Ex × St)} {dec : List V → List Blk → Option (P × A)}
    (hd : ∀ l b d, dec l b = some d → l = vs d.1 d.2 ∧ b = bs d.1 d.2) (μ : P → A → Nat)
    (hs : ∀ p a b, inv p a = true → nxt p a = some b → inv p b = true ∧ μ p b < μ p a)
    (hr : ∀ p a, inv p a = true → (∀ b, nxt p a = some b → (roundX C Λ c T0 S0 T1 S1 m M (mkSt T0 (keysR S0) M sz (vs p a) (bs p a))).eval = some (.normal, mkSt T0 (keysR S0) M sz (vs p b) (bs p b))) ∧
      (nxt p a = none → ∀ r, (out p a).eval = some r → r.1 ≠ .normal ∧ (roundX C Λ c T0 S0 T1 S1 m M (mkSt T0 (keysR S0) M sz (vs p a) (bs p a))).eval = some r)) :
    LoopOk C c (famXW T0 S0 S1 m M sz dec inv nxt out) := by
  refine famXL_ok (T1 := T1) hC hm hl (vs := fun d => vs d.1 d.2) (bs := fun d => bs d.1 d.2) (step := stepW inv nxt out) (fun d x hx => ?_) hd fun d r h => ?_
  · obtain ⟨p, a⟩ := d
    unfold stepW at hx
    cases hi : inv p a
    · simp only [hi] at hx; cases hx
    · simp only [hi] at hx
      cases hn : nxt p a with
      | some b =>
        simp only [hn] at hx
        obtain rfl := Option.some.inj hx
        exact (hr p a hi).1 b hn
      | none =>
        simp only [hn] at hx
        obtain ⟨r, h1, h2⟩ := T.eval_bind_some (show ((out p a).bind fun r => .ret (.out r.1 r.2)).eval = some x from hx)
        obtain rfl := Option.some.inj h2
        exact ((hr p a hi).2 hn r h1).2
  · obtain ⟨p, a⟩ := d
    unfold resW at h
    cases hi : inv p a
    · simp only [hi] at h; cases h
    · simp only [hi] at h
      have h' : (out p (endW (nxt p) a)).eval = some r := h
      have hI : ∀ a b, inv p a = true → nxt p a = some b → inv p b = true ∧ μ p b < μ p a := fun a b h e => hs p a b h e
      obtain ⟨e, he⟩ := runW_some hI (μ p a) a hi (Nat.le_refl _)
      rw [endW_eq he] at h'
      refine ⟨μ p a + 1, ?_⟩
      clear h
      generalize μ p a = n at he
      clear hI
      induction n generalizing a with
      | zero =>
        unfold runW at he
        unfold iter
        rw [T.eval_bind]
        cases hn : nxt p a <;> rw [hn] at he
        · simp only [Option.some.injEq] at he
          subst he
          rw [stepW_none hi hn h']
          have := ((hr p a hi).2 hn r h').1
          obtain ⟨r1, r2⟩ := r
          cases r1 <;> first | rfl | exact absurd rfl this
        · cases he
      | succ n ih =>
        unfold runW at he
        unfold iter
        rw [T.eval_bind]
        cases hn : nxt p a with
        | none =>
          rw [hn] at he
          simp only [Option.some.injEq] at he
          subst he
          rw [stepW_none hi hn h']
          have := ((hr p a hi).2 hn r h').1
          obtain ⟨r1, r2⟩ := r
          cases r1 <;> first | rfl | exact absurd rfl this
        | some b =>
          rw [hn] at he
          rw [stepW_some hi hn]
          exact ih b (hs p a b hi hn).1 he
noncomputable def famE {P A : Type} (T0 : List Nat) (S0 S1 : List (Nat × Src)) (m M sz : Nat) (dec : List V → List Blk → Option (P × A)) (ok : P → A → Prop) (go : P → A → Bool) (rt : P → A → T (Ex × St)) (F : P → A → St) (μ : P → A → Nat) (out : P → A → T (Ex × St)) : LSpec :=
  famXW T0 S0 S1 m M sz dec (invC ok) (nxtC ok go rt F μ) out
theorem famE_ok {C : Cfg} (hC : C.Ok) (hm : C.P.follows .mixedOrders = true) {Λ : Loops} {c : Code} (hl : LoopsOk C Λ c) {T0 : List Nat} {S0 : List (Nat × Src)} {T1 : List Nat} {S1 : List (Nat × Src)} {m M sz : Nat} {P A : Type} {vs : P → A → List V} {bs : P → A → List Blk}
    {dec : List V → List Blk → Option (P × A)} (hd : ∀ l b d, dec l b = some d → l = vs d.1 d.2 ∧ b = bs d.1 d.2)
    {ok : P → A → Prop} {go : P → A → Bool} {rt : P → A → T (Ex × St)} {F : P → A → St} {μ : P → A → Nat} {out : P → A → T (Ex × St)} (hF : ∀ p a, F p a = mkSt T0 (keysR S0) M sz (vs p a) (bs p a))
    (hrun : ∀ p a, T.anon (roundX C Λ c T0 S0 T1 S1 m M (mkSt T0 (keysR S0) M sz (vs p a) (bs p a))) = rt p a)
    (hg : ∀ p a, ok p a → go p a = true → ∃ b, stepC ok rt F μ p a b)
    (hex : ∀ p a, ok p a → go p a = false → ∀ r, (out p a).eval = some r → r.1 ≠ .normal ∧ (rt p a).eval = some r) :
    LoopOk C c (famE T0 S0 S1 m M sz dec ok go rt F μ out) := by
  refine famXW_ok (T1 := T1) (vs := vs) (bs := bs) hC hm hl hd μ stC fun p a h => ?_
  rw [← T.eval_anon (t := roundX _ _ _ _ _ _ _ _ _ _), hrun]
  refine ⟨fun b hb => ?_, fun hn r hr => ?_⟩
  · rw [(nxtC_some hb).2.1, hF]
  · exact hex p a (invC_ok h) (nxtC_none hg (invC_ok h) hn) r hr
end Go.Eng

/- The machine: small things that every text of loops wants. No program is named here. -/
namespace Go.Eng
set_option linter.unusedSectionVars false
variable [Go.Eng.GW]
open Go.RowKit
set_option linter.unusedVariables false
set_option linter.unusedSimpArgs false
def iv (n : Int) : V := .s (.int .i64 n)
def bv (b : Bool) : V := .s (.bool b)
theorem ite_some0 {α : Type} {c : Prop} [Decidable c] {x : Option α} {y : α} (h : (if c then x else none) = some y) : c ∧ x = some y := by
  split at h
  · rename_i hc; exact ⟨hc, h⟩
  · cases h
def idR {α : Type} (g : List α) (k : Nat) (i : Int) : Bool := decide (0 ≤ i) && (decide (i < (k : Int)) && decide (0 + i.toNat < g.length))
def ldR {α : Type} (g : List α) (i : Int) : Bool := decide (0 + i.toNat < g.length)
theorem idR_is {α : Type} {g : List α} {k : Nat} {i : Int} (h : k = g.length) (h0 : 0 ≤ i) (h1 : i < k) : idR g k i = true ∧ ldR g i = true := by
  unfold idR ldR
  rw [decide_eq_true h0, decide_eq_true h1, decide_eq_true (show 0 + i.toNat < g.length by omega)]
  exact ⟨rfl, rfl⟩
abbrev R4 := Int × Int × Int × Int
def g4 (l : List R4) (i : Int) : R4 := l.getD (0 + i.toNat) (0, 0, 0, 0)
def g2w (l : List (Int × Int)) (i : Int) : Int × Int := l.getD (0 + i.toNat) (0, 0)
theorem getD0 {α : Type} {l : List α} {d : α} {i : Int} {j : Nat} (h : i.toNat = j) (hj : j < l.length) : l.getD (0 + i.toNat) d = l[j] := by
  rw [List.getD_eq_getElem?_getD, h, Nat.zero_add, List.getElem?_eq_getElem hj]; rfl
theorem take_next {α : Type} {l : List α} {i : Int} (h : 0 ≤ i) (hj : i.toNat < l.length) : l.take (i + 1).toNat = l.take i.toNat ++ [l[i.toNat]] := by
  rw [show (i + 1).toNat = i.toNat + 1 by omega, List.take_add_one, List.getElem?_eq_getElem hj]; rfl
theorem allSay_append : ∀ {l r : List (Bool × Bool)}, allSay l → allSay r → allSay (l ++ r)
  | [], r, _, h => h
  | p :: l, r, h1, h2 => ⟨h1.1, allSay_append h1.2 h2⟩
def apC {α : Type} (j : Nat) (W : List α) (x : α) : Bool := true && (decide (j ≤ W.length) && decide (j + [x].length ≤ 1000000))
theorem apC_is {α : Type} {j : Nat} {W : List α} (x : α) (h : j = W.length) (hl : W.length ≤ 100000) : apC j W x = true := by
  unfold apC
  rw [decide_eq_true (show j ≤ W.length by omega), decide_eq_true (show j + [x].length ≤ 1000000 by simp; omega)]; rfl
theorem one_lp {P : Program} {c : Code} {n : Nat} {sp : LSpec} {C : Cfg} {f : Nat} (e : loopsIn (codeOf P f) = [c]) (hr : firstReg c = some n) (h : LoopOk C c sp) : ∀ a ∈ loopsIn (codeOf P f), ∀ s, byReg [(n, sp)] a = some s → LoopOk C a s := by
  rw [e]
  intro a ha
  rcases List.mem_cons.1 ha with q | ha
  · rw [q]; exact byReg_mem hr (by simp [findL]) h
  · cases ha
theorem two_lp {P : Program} {c c' : Code} {n n' : Nat} {sp sp' : LSpec} {C : Cfg} {f : Nat} (e : loopsIn (codeOf P f) = [c, c']) (hr : firstReg c = some n) (hr' : firstReg c' = some n') (hn : (n == n') = false) (h : LoopOk C c sp) (h' : LoopOk C c' sp') : ∀ a ∈ loopsIn (codeOf P f), ∀ s, byReg [(n, sp), (n', sp')] a = some s → LoopOk C a s := by
  rw [e]
  intro a ha
  rcases List.mem_cons.1 ha with q | ha
  · rw [q]; exact byReg_mem hr (by simp [findL]) h
  rcases List.mem_cons.1 ha with q | ha
  · rw [q]; exact byReg_mem hr' (by simp [findL, hn]) h'
  · cases ha
theorem three_lp {P : Program} {c c' c'' : Code} {n n' n'' : Nat} {sp sp' sp'' : LSpec} {C : Cfg} {f : Nat} (e : loopsIn (codeOf P f) = [c, c', c'']) (hr : firstReg c = some n) (hr' : firstReg c' = some n') (hr'' : firstReg c'' = some n'') (hn : ((n == n') = false ∧ (n == n'') = false) ∧ (n' == n'') = false) (h : LoopOk C c sp) (h' : LoopOk C c' sp') (h'' : LoopOk C c'' sp'') : ∀ a ∈ loopsIn (codeOf P f), ∀ s, byReg [(n, sp), (n', sp'), (n'', sp'')] a = some s → LoopOk C a s := by
  rw [e]
  intro a ha
  rcases List.mem_cons.1 ha with q | ha
  · rw [q]; exact byReg_mem hr (by simp [findL]) h
  rcases List.mem_cons.1 ha with q | ha
  · rw [q]; exact byReg_mem hr' (by simp [findL, hn.1.1]) h'
  rcases List.mem_cons.1 ha with q | ha
  · rw [q]; exact byReg_mem hr'' (by simp [findL, hn.1.2, hn.2]) h''
  · cases ha
/-! ### rows that a contract leaves behind a slice's end are forgotten -/
def shortB (k : Nat) : Blk → Blk
  | .lst true t ks l => .lst true t ks (l.take k)
  | b => b
def shortH (i k : Nat) : Heap → Heap
  | [] => []
  | (j, b) :: r => (j, if Nat.beq j i then shortB k b else b) :: shortH i k r
theorem shortB_owned {k : Nat} (b : Blk) : (shortB k b).owned = b.owned := by
  cases b with
  | lst own t ks l => cases own <;> rfl
  | _ => rfl
theorem shortB_ok {k : Nat} {p : Nat → Bool} (b : Blk) : (shortB k b).ok p = b.ok p := by
  cases b with
  | lst own t ks l => cases own <;> rfl
  | _ => rfl
theorem shortB_den {k : Nat} {ν : Env} {σ : Slot} {w : World} (b : Blk) (h : b.den ν σ w) : (shortB k b).den ν σ w := by
  cases b with
  | lst own t ks l =>
    cases own
    · exact h
    · obtain ⟨h1, h2⟩ := h
      refine ⟨?_, h2⟩
      have h3 := ownsRow_take h1 (k := min k l.length) (Nat.min_le_right _ _)
      rw [← rowsV_take, ← List.take_eq_take_min] at h3
      rw [List.length_take]
      exact h3
  | _ => exact h
theorem look_shortH {i k : Nat} : ∀ {h : Heap} {j : Nat}, look (shortH i k h) j = (look h j).map fun b => if Nat.beq j i then shortB k b else b
  | [], j => rfl
  | (m, b) :: r, j => by
    simp only [shortH, look]
    cases e : m == j with
    | true =>
      have : m = j := by simpa using e
      subst this
      rfl
    | false => exact look_shortH (h := r)
def Obj.short (sp : Obj) : Obj := fun args h => (sp args h).bind fun r => match r.1 with
  | .sub i _ 0 k => .ret (r.1, shortH i k r.2)
  | _ => .ret r
theorem inH_short {i k j : Nat} {h : Heap} : inH (shortH i k h) j = inH h j := by
  unfold inH
  rw [look_shortH]
  cases look h j <;> rfl
theorem outO_short {h h' : Heap} {v : V} {i k : Nat} : outO h v (shortH i k h') = outO h v h' := by
  have e : inO h (shortH i k h') = inO h h' := by
    funext j
    unfold inO
    rw [inH_short]
  unfold outO
  rw [e]
  clear e
  congr 1
  generalize inO h h' = p
  induction h' with
  | nil => rfl
  | cons q r ih =>
    obtain ⟨j, b⟩ := q
    simp only [shortH, List.all_cons, ih]
    congr 1
    cases Nat.beq j i
    · rfl
    · simp only [if_true, shortB_owned, shortB_ok]
theorem ObjOk.short {P : Program} {f : Nat} {sp : Obj} (h : ObjOk P f sp) : ObjOk P f (Obj.short sp) := by
  refine ⟨h.body, fun args h0 v h' ν w hG hF ha hh hr hv ho => ?_⟩
  unfold Obj.short at hv
  obtain ⟨r, hr1, hv⟩ := T.eval_bind_some hv
  have same : ∀ {r : V × Heap}, r = (v, h') → (sp args h0).eval = some r → Calls P f (denL ν args).toArray w fun e w' => ∃ ν' : Env, e = .returned (v.den ν') ∧ (∀ i, inH h0 i = true → (ν' i).core = (ν i).core) ∧ Rel ν' (look h') w' ∧
      (∀ i b, look h' i = some b → ∀ k, (ν' i).fp k → ownFp ν h0 k ∨ w.heap.size ≤ k) ∧ Prog w w' (ownFp ν h0) := by
    rintro r rfl e
    exact h.calls args h0 v h' ν w hG hF ha hh hr e ho
  split at hv
  · rename_i i sz k hrv
    simp only [T.eval, Option.some.injEq, Prod.mk.injEq] at hv
    obtain ⟨rfl, rfl⟩ := hv
    rw [outO_short] at ho
    refine (h.calls args h0 r.1 r.2 ν w hG hF ha hh hr hr1 ho).mono ?_
    rintro e w' ⟨ν', e1, e2, e3, e4, e5⟩
    refine ⟨ν', e1, e2, ⟨fun j b hb => ?_, fun j1 j2 b1 b2 hne h1 h2 hown => ?_⟩, fun j b hb => ?_, e5⟩
    · rw [look_shortH] at hb
      obtain ⟨b0, hb0, rfl⟩ := Option.map_eq_some_iff.1 hb
      have d := e3.den j b0 hb0
      split
      · exact shortB_den b0 d
      · exact d
    · rw [look_shortH] at h1 h2
      obtain ⟨c1, hc1, rfl⟩ := Option.map_eq_some_iff.1 h1
      obtain ⟨c2, hc2, rfl⟩ := Option.map_eq_some_iff.1 h2
      refine e3.dis j1 j2 c1 c2 hne hc1 hc2 ?_
      split at hown
      · rwa [shortB_owned] at hown
      · exact hown
    · rw [look_shortH] at hb
      obtain ⟨b0, hb0, _⟩ := Option.map_eq_some_iff.1 hb
      exact e4 j b0 hb0
  · exact same (by simpa [T.eval] using hv) hr1
/-! ### a loop in a loop: the inner contracts, never looked into -/
structure LoopsOkS (C : Cfg) (Λ : Loops) (c : Code) : Prop where
  ok : LoopsOk C Λ c
theorem lps_in {C : Cfg} {c d : Code} {n : Nat} {sp : LSpec} (e : loopsIn c = [d]) (hr : firstReg d = some n) (h : LoopOk C d sp) : LoopsOkS C (byReg [(n, sp)]) c := by
  refine ⟨loopsOk_of c ?_⟩
  rw [e]
  intro a ha
  rcases List.mem_cons.1 ha with q | ha
  · rw [q]; exact byReg_mem hr (by simp [findL]) h
  · cases ha
theorem allSay_of : ∀ {l : List (Bool × Bool)}, (l.all fun p => p.1 == p.2) = true → allSay l
  | [], _ => trivial
  | p :: l, h => by
    rw [List.all_cons, Bool.and_eq_true] at h
    exact ⟨by simpa using h.1, allSay_of h.2⟩
end Go.Eng

/- The machine: a nil slice in a block's cell, read as an empty row of the state's own, ahead of a loop. No program is named here. -/
namespace Go.Eng
set_option linter.unusedSectionVars false
variable [Go.Eng.GW]
open Go.RowKit
set_option linter.unusedVariables false
set_option linter.unusedSimpArgs false
def adoptC (i n : Nat) (e : TypeId) (ks : List K) (st : St) : T St :=
  match Eng.look st.heap i with
  | some (.cells t l) => match l[n]? with
    | some .nilSl => .ret ⟨st.tmps, (i, .cells t (l.set n (.sub st.next ks.length 0 0))) :: (st.next, .lst true e ks []) :: st.heap, st.next + 1, st.size⟩
    | _ => .ret st
  | _ => .ret st
theorem okL_set {p : Nat → Bool} {l : List V} {n : Nat} {v : V} (h : okL p l = true) (hv : v.ok p = true) : okL p (l.set n v) = true := by
  rw [okL_iff] at h ⊢
  intro x hx
  rcases List.mem_or_eq_of_mem_set hx with q | rfl
  · exact h x q
  · exact hv
theorem adoptC_says {ν0 : Env} {n0 : Nat} {w0 : World} {F0 : Nat → Prop} {ν : Env} {st st' : St} {a : Act} {w : World} {i n : Nat} {e : TypeId} {ks : List K} (hs : Says ν0 n0 w0 F0 ν st a w) (h : (adoptC i n e ks st).eval = some st') : ∃ ν', Says ν0 n0 w0 F0 ν' st' a w := by
  unfold adoptC at h
  split at h
  · rename_i t l hL
    split at h
    · rename_i hn
      simp only [T.eval, Option.some.injEq] at h
      subst h
      obtain ⟨hr, hn0⟩ := hs
      let ν2 : Env := fun j => if j = st.next then ⟨⟨0, 0, 0, none, false⟩, fun _ => False⟩ else ν j
      have n1 : ν2 st.next = ⟨⟨0, 0, 0, none, false⟩, fun _ => False⟩ := by simp [ν2]
      have n2 : ∀ j, j ≠ st.next → ν2 j = ν j := fun j hj => by simp [ν2, hj]
      have n3 : ∀ j, lt st.next j = true → ν2 j = ν j := fun j hj => n2 j (by have := lt_iff.1 hj; omega)
      have mono : ∀ j, lt st.next j = true → lt (st.next + 1) j = true := fun j hj => lt_iff.2 (by have := lt_iff.1 hj; omega)
      have hi : i ≠ st.next := by have := lt_iff.1 (hr.okH i _ hL).2; omega
      have subD : V.den ν2 (.sub st.next ks.length 0 0) = .slice none 0 0 := by rw [sub_den0, n1]
      have hlk : ∀ j b, look ((i, .cells t (l.set n (.sub st.next ks.length 0 0))) :: (st.next, Blk.lst true e ks []) :: st.heap) j = some b → (j = i ∧ b = .cells t (l.set n (.sub st.next ks.length 0 0))) ∨ (j = st.next ∧ b = .lst true e ks []) ∨ (j ≠ st.next ∧ j ≠ i ∧ look st.heap j = some b) := by
        intro j b e2
        simp only [look] at e2
        by_cases q0 : (i == j) = true
        · rw [if_pos q0] at e2
          exact .inl ⟨(by simpa using q0 : i = j).symm, (Option.some.inj e2).symm⟩
        rw [if_neg q0] at e2
        by_cases q : (st.next == j) = true
        · rw [if_pos q] at e2
          exact .inr (.inl ⟨(by simpa using q : st.next = j).symm, (Option.some.inj e2).symm⟩)
        · rw [if_neg q] at e2
          exact .inr (.inr ⟨fun e => q (by simp [e]), fun e => q0 (by simp [e]), e2⟩)
      refine ⟨ν2, ⟨hr.size, hr.dom, ?_, hr.defers, ⟨?_, ?_⟩, ?_, ?_, hr.prog, ?_, ?_, hr.gl⟩, by show n0 ≤ st.next + 1; omega⟩
      · intro j hj
        rw [hr.tmp j hj]
        exact V.den_congr (p := lt st.next) (fun i hi => by rw [n3 i hi]) _ (hr.okT j hj)
      · intro j b e2
        rcases hlk j b e2 with ⟨rfl, rfl⟩ | ⟨rfl, rfl⟩ | ⟨q, _, e3⟩
        · have o1 := (hr.okH j _ hL).1
          have d := Blk.den_congr (p := lt st.next) (ν' := ν2) (σ' := ν2 j) (fun m hm => by rw [n3 m hm]) (by rw [n2 j hi]) (by rw [n2 j hi]) o1 (hr.rel.den j _ hL)
          obtain ⟨d1, d2, d3⟩ := d
          refine ⟨d1, d2, ?_⟩
          have : denL ν2 (l.set n (.sub st.next ks.length 0 0)) = denL ν2 l := by
            rw [denL_set, subD]
            apply set_same
            rw [denL_get, hn]; rfl
          rw [this]; exact d3
        · rw [n1]
          exact ⟨ownsB_nil w 0 e ks.length, fun k => ⟨fun h => h.elim, by rintro ⟨a, ha, _⟩; cases ha⟩⟩
        · obtain ⟨o1, o2⟩ := hr.okH j b e3
          exact Blk.den_congr (p := lt st.next) (ν' := ν2) (σ' := ν2 j) (fun m hm => by rw [n3 m hm]) (by rw [n2 j q]) (by rw [n2 j q]) o1 (hr.rel.den j b e3)
      · have old : ∀ j b, look ((i, .cells t (l.set n (.sub st.next ks.length 0 0))) :: (st.next, Blk.lst true e ks []) :: st.heap) j = some b → j = st.next ∨ (j ≠ st.next ∧ ∃ b0, look st.heap j = some b0 ∧ b0.owned = b.owned) := by
          intro j b e2
          rcases hlk j b e2 with ⟨rfl, rfl⟩ | ⟨rfl, rfl⟩ | ⟨q, _, e3⟩
          · exact .inr ⟨hi, _, hL, rfl⟩
          · exact .inl rfl
          · exact .inr ⟨q, b, e3, rfl⟩
        intro j1 j2 b1 b2 ne e1 e2 ho k hk hk'
        rcases old j1 b1 e1 with rfl | ⟨q, c1, f1, g1⟩
        · rw [n1] at hk; exact hk
        · rcases old j2 b2 e2 with rfl | ⟨q', c2, f2, g2⟩
          · rw [n1] at hk'; exact hk'
          · rw [n2 j1 q] at hk
            rw [n2 j2 q'] at hk'
            exact hr.rel.dis j1 j2 c1 c2 ne f1 f2 (by rw [g1]; exact ho) k hk hk'
      · intro j hj
        exact V.ok_mono mono _ (hr.okT j hj)
      · intro j b e2
        rcases hlk j b e2 with ⟨rfl, rfl⟩ | ⟨rfl, rfl⟩ | ⟨q, _, e3⟩
        · obtain ⟨o1, o2⟩ := hr.okH j _ hL
          exact ⟨okL_set (okL_mono mono l o1) (lt_iff.2 (Nat.lt_succ_self _)), mono j o2⟩
        · exact ⟨rfl, lt_iff.2 (Nat.lt_succ_self _)⟩
        · obtain ⟨o1, o2⟩ := hr.okH j b e3
          refine ⟨?_, mono j o2⟩
          exact Blk.ok_mono mono o1
      · intro j b e2 ho k hk
        rcases hlk j b e2 with ⟨rfl, rfl⟩ | ⟨rfl, rfl⟩ | ⟨q, _, e3⟩
        · rw [n2 j hi] at hk; exact hr.own j _ hL rfl k hk
        · rw [n1] at hk; exact hk.elim
        · rw [n2 j q] at hk; exact hr.own j b e3 ho k hk
      · intro j hj
        rw [n2 j (by omega)]; exact hr.base j hj
    · simp only [T.eval, Option.some.injEq] at h
      subst h
      exact ⟨ν, hs⟩
  · simp only [T.eval, Option.some.injEq] at h
    subst h
    exact ⟨ν, hs⟩
theorem adoptC_keep {i n : Nat} {e : TypeId} {ks : List K} {st st' : St} (h : (adoptC i n e ks st).eval = some st') (hi : Inv st) : Inv st' ∧ ∀ j c, Eng.look st.heap j = some (.leaf c) → Eng.look st'.heap j = some (.leaf c) := by
  unfold adoptC at h
  split at h
  · rename_i t l hL
    split at h
    · rename_i hn
      simp only [T.eval, Option.some.injEq] at h
      subst h
      refine ⟨fun j b e2 => ?_, fun j c hc => ?_⟩
      · simp only [look] at e2
        by_cases q0 : (i == j) = true
        · have : i = j := by simpa using q0
          subst this
          have := hi i _ hL
          show i < st.next + 1
          omega
        rw [if_neg q0] at e2
        by_cases q : (st.next == j) = true
        · have : st.next = j := by simpa using q
          subst this
          exact Nat.lt_succ_self _
        · rw [if_neg q] at e2
          have := hi j b e2
          show j < st.next + 1
          omega
      · have hne : i ≠ j := fun e => by subst e; rw [hL] at hc; cases hc
        have hlt := hi j _ hc
        simp only [look]
        rw [if_neg (by simpa using hne), if_neg (by simp; omega)]
        exact hc
    · simp only [T.eval, Option.some.injEq] at h
      subst h
      exact ⟨hi, fun _ _ h => h⟩
  · simp only [T.eval, Option.some.injEq] at h
    subst h
    exact ⟨hi, fun _ _ h => h⟩
theorem LoopOk.adoptC {C : Cfg} {body : Code} {sp : LSpec} (h : LoopOk C body sp) (i n : Nat) (e : TypeId) (ks : List K) : LoopOk C body (fun st => (Eng.adoptC i n e ks st).bind sp) := by
  refine ⟨fun st r hr ν0 n0 w0 F0 ν a w Q hs hq => ?_, fun st r hr hi => ?_⟩
  · obtain ⟨st1, h1, h2⟩ := T.eval_bind_some hr
    obtain ⟨ν', hs'⟩ := adoptC_says hs h1
    exact h.run st1 r h2 ν0 n0 w0 F0 ν' a w Q hs' hq
  · obtain ⟨st1, h1, h2⟩ := T.eval_bind_some hr
    obtain ⟨k1, k2⟩ := adoptC_keep h1 hi
    obtain ⟨m1, m2⟩ := h.keep st1 r h2 k1
    exact ⟨m1, fun j c hc => m2 j c (k2 j c hc)⟩
end Go.Eng

/- What every law's frame wants: its post, its arguments opened. No program is named here. -/
namespace Go.Proofs.YtndcealgackgiaaDoor.Law
open Go.Joins Go.ChangeShapes Go.WideShapes Go.ChangeAt Go.RowKit Go.Deep
set_option linter.unusedVariables false
section
variable {H : Type} {enc : TypeId × Value → H} {P : Program}

theorem trodAll_stays (hl : laidOutB P = true) {W W' : World} (hb : Below W.heap.size W W') :
    ∀ {ts : List TypeId} {vs : List Value} {ds : List (DataW H)} {ps : List MemPlace}, (ts.all fun t => P.readableRec t && decide (t < P.types.size)) = true → DataW.TrodAll enc P W 0 (fun _ => true) true ts vs ds ps → (∀ x ∈ ps, x.block < W.heap.size) →
      DataW.TrodAll enc P W' 0 (fun b => decide (b < W.heap.size)) true ts vs ds ps
  | [], vs, ds, ps, ht, h, hlt => by
    obtain ⟨rfl, rfl, rfl⟩ := trodAll_nil h
    exact trodAll_mk0
  | t :: ts, vs, ds, ps, ht, h, hlt => by
    obtain ⟨v, vs1, d, ds1, a, b, rfl, rfl, rfl, h1, h2⟩ := trodAll_cons h
    simp only [List.all_cons, Bool.and_eq_true, decide_eq_true_eq] at ht
    exact trodAll_cons_mk (Below.trod hl ht.1.1 ht.1.2 h1 hb fun x hx => hlt x (List.mem_append_left _ hx))
      (trodAll_stays hl hb (by simpa [Bool.and_eq_true] using ht.2) h2 fun x hx => hlt x (List.mem_append_right _ hx))

/-- a law's end: true, and what was there is as it was -/
theorem law_post {f : Func} {s : ChangeSpec} {W W' : World} {args : Array Value} {ds : List (DataW H)} {before : List MemPlace} {tb : TypeId} (apart fresh handsOn : Bool) (hl : laidOutB P = true)
    (hts : (f.params.toList.all fun t => P.readableRec t && decide (t < P.types.size)) = true) (hr : f.resultTypes = #[tb]) (hbool : P.underlying tb = some .bool) (hvs : s.vars = [])
    (hW : DataW.Whole enc P f.params.toList s.vars apart W args.toList ds [] before)
    (hres : (s.fn H (ds ++ [])).results = [.lit (.bool true)]) (hargs : (s.fn H (ds ++ [])).args = ds) (hvars : (s.fn H (ds ++ [])).vars = []) (hb : Below W.heap.size W W') :
    s.post enc P f apart fresh handsOn false W args (.bool true) W' := by
  have hlt := hW.lt
  have hW' := hW
  obtain ⟨p, q, hA, hV, rfl, hfz, hnd⟩ := hW
  rw [hvs] at hV
  obtain ⟨-, rfl⟩ := trodVars_none hV
  have hA' := trodAll_stays hl hb hts hA fun x hx => by
    have := hlt x (by simpa using hx)
    simpa using this
  refine ⟨ds, [], p ++ [], [], p, [], hW', ?_, ?_, ?_, hb.frame _, fun h => by cases h⟩
  · rw [hres, hr]
    exact trodAll_cons_mk (shut_bool hbool _) trodAll_mk0
  · rw [hargs]
    exact hA'
  · rw [hvars, hvs]
    exact rfl

def allI64 (P : Program) (fs : Array Field) : Bool := fs.toList.all fun f => match P.underlying f.type with | some (.int .i64) => true | _ => false
theorem allI64_of {fs : Array Field} (h : allI64 P fs = true) {i : Nat} {f : Field} (hf : fs[i]? = some f) : P.underlying f.type = some (.int .i64) := by
  unfold allI64 at h
  have := List.all_eq_true.1 h f (Array.mem_toList_iff.2 (Array.mem_of_getElem? hf))
  split at this
  · assumption
  · cases this

/-- a struct of integers, given by value: its parts -/
theorem open_ints {w : World} {base : Nat} {spare : Nat → Bool} {held : Bool} {r : Reach} {b0 : Nat} {t : TypeId} {fs : Array Field} {v : Value} {d : DataW H} {p : List MemPlace} (hs : P.underlying t = some (.struct fs)) (hone : oneCellFields P fs = true) (hC : P.cellsOf t = fs.size)
    (hi : allI64 P fs = true) (hv : Value.okWide P w r b0 t v) (h : DataW.Trod enc P w base spare held t v d p) :
    ∃ l : List Int, v = .agg (l.map (Value.int .i64)).toArray ∧ l.length = fs.size ∧ ∀ n ∈ l, (Lit.int .i64 n).wf = true := by
  obtain ⟨cs, rfl, hsz⟩ := okWide_struct hs hv
  obtain ⟨fuel, hf⟩ := h
  obtain ⟨xs, n, _, hx, _, hlen, hg⟩ := DataW.trod_struct hs hf
  have key : ∀ i, i < fs.size → ∃ m : Int, cs[i]? = some (.int .i64 m) ∧ (Lit.int .i64 m).wf = true := by
    intro i hi'
    have hfi : fs[i]? = some fs[i] := Array.getElem?_eq_getElem hi'
    obtain ⟨ho, hk⟩ := hone_of hone i _ hfi
    have h1 := hg i _ hfi
    rw [ho, hk] at h1
    have hci : i < cs.size := by omega
    have e : ((Value.agg cs).cells.toList.drop i).take 1 = [cs[i]] := by
      show (cs.toList.drop i).take 1 = _
      rw [List.drop_eq_getElem_cons (by simpa using hci)]
      simp
    rw [e] at h1
    have hxi : i < xs.length := by omega
    rw [List.getElem?_eq_getElem hxi] at h1
    obtain ⟨m, hm, _, hw⟩ := DataW.trod_int (allI64_of hi hfi) h1
    refine ⟨m, ?_, hw⟩
    rw [Array.getElem?_eq_getElem hci]
    simp only [List.cons.injEq, and_true] at hm
    rw [hm]
  refine ⟨(List.range fs.size).map fun i => match (cs[i]? : Option Value) with | some (.int .i64 m) => m | _ => 0, ?_, by simp, ?_⟩
  · congr 1
    apply Array.ext
    · simp; omega
    · intro i h1 h2
      obtain ⟨m, hm, _⟩ := key i (by omega)
      simp only [List.map_map, List.getElem_toArray, List.getElem_map, List.getElem_range, Function.comp, hm]
      rw [Array.getElem?_eq_getElem h1] at hm
      exact Option.some.inj hm
  · intro n hn
    simp only [List.mem_map, List.mem_range] at hn
    obtain ⟨i, hi', rfl⟩ := hn
    obtain ⟨m, hm, hw⟩ := key i hi'
    simp only [hm]
    exact hw
open Conf in
/-- settings -/
theorem open_conf {w : World} {base : Nat} {spare : Nat → Bool} {held : Bool} {r : Reach} {b0 : Nat} {t : TypeId} {fs : Array Field} {v : Value} {d : DataW H} {p : List MemPlace} (hs : P.underlying t = some (.struct fs)) (hone : oneCellFields P fs = true) (hC : P.cellsOf t = fs.size) (h20 : fs.size = 20)
    (hi : allI64 P fs = true) (hv : Value.okWide P w r b0 t v) (h : DataW.Trod enc P w base spare held t v d p) : ∃ c : Cf, v = .agg #[.int .i64 c.target, .int .i64 c.util, .int .i64 c.stable, .int .i64 c.panic, .int .i64 c.grain, .int .i64 c.threshold, .int .i64 c.up, .int .i64 c.down, .int .i64 c.min, .int .i64 c.max, .int .i64 c.initial, .int .i64 c.grace, .int .i64 c.delay, .int .i64 c.burst, .int .i64 c.limit, .int .i64 c.queue, .int .i64 c.timeout, .int .i64 c.ready, .int .i64 c.subset, .int .i64 c.sample] ∧ c.Ok := by
  obtain ⟨l, rfl, hl, hw⟩ := open_ints hs hone hC hi hv h
  rw [h20] at hl
  match l, hl, hw with
  | [a0, a1, a2, a3, a4, a5, a6, a7, a8, a9, a10, a11, a12, a13, a14, a15, a16, a17, a18, a19], _, hw =>
    have wf : ∀ n ∈ [a0, a1, a2, a3, a4, a5, a6, a7, a8, a9, a10, a11, a12, a13, a14, a15, a16, a17, a18, a19], -9223372036854775808 ≤ n ∧ n ≤ 9223372036854775807 := by
      intro n hn
      have := hw n hn
      simpa [Lit.wf, IntKind.min, IntKind.max, IntKind.signed, IntKind.bits] using this
    refine ⟨⟨a0, a1, a2, a3, a4, a5, a6, a7, a8, a9, a10, a11, a12, a13, a14, a15, a16, a17, a18, a19⟩, rfl, ?_⟩
    constructor <;> exact wf _ (by simp)
end
end Go.Proofs.YtndcealgackgiaaDoor.Law

/- What laws' frames want beside: structs of a few integers, opened. No program is named here. -/
namespace Go.Proofs.YtndcealgackgiaaDoor.Law
open Go.Joins Go.ChangeShapes Go.WideShapes Go.ChangeAt Go.RowKit Go.Deep
set_option linter.unusedVariables false
section
variable {H : Type} {enc : TypeId × Value → H} {P : Program}
theorem open_two {w : World} {base : Nat} {spare : Nat → Bool} {held : Bool} {r : Reach} {b0 : Nat} {t : TypeId} {fs : Array Field} {v : Value} {d : DataW H} {p : List MemPlace} (hs : P.underlying t = some (.struct fs)) (hone : oneCellFields P fs = true) (hC : P.cellsOf t = fs.size) (h2 : fs.size = 2)
    (hi : allI64 P fs = true) (hv : Value.okWide P w r b0 t v) (h : DataW.Trod enc P w base spare held t v d p) : ∃ a b : Int, v = .agg #[.int .i64 a, .int .i64 b] ∧ (Lit.int .i64 a).wf = true ∧ (Lit.int .i64 b).wf = true := by
  obtain ⟨l, rfl, hl, hw⟩ := open_ints hs hone hC hi hv h
  rw [h2] at hl
  match l, hl, hw with
  | [a, b], _, hw => exact ⟨a, b, rfl, hw a (by simp), hw b (by simp)⟩
theorem open_three {w : World} {base : Nat} {spare : Nat → Bool} {held : Bool} {r : Reach} {b0 : Nat} {t : TypeId} {fs : Array Field} {v : Value} {d : DataW H} {p : List MemPlace} (hs : P.underlying t = some (.struct fs)) (hone : oneCellFields P fs = true) (hC : P.cellsOf t = fs.size) (h2 : fs.size = 3)
    (hi : allI64 P fs = true) (hv : Value.okWide P w r b0 t v) (h : DataW.Trod enc P w base spare held t v d p) : ∃ a b c : Int, v = .agg #[.int .i64 a, .int .i64 b, .int .i64 c] ∧ (Lit.int .i64 a).wf = true ∧ (Lit.int .i64 b).wf = true ∧ (Lit.int .i64 c).wf = true := by
  obtain ⟨l, rfl, hl, hw⟩ := open_ints hs hone hC hi hv h
  rw [h2] at hl
  match l, hl, hw with
  | [a, b, c], _, hw => exact ⟨a, b, c, rfl, hw a (by simp), hw b (by simp), hw c (by simp)⟩
end
end Go.Proofs.YtndcealgackgiaaDoor.Law

/- What laws' frames want beside: slices of rows, opened; calls with them. No program is named here. -/
namespace Go.Proofs.YtndcealgackgiaaDoor.Law
set_option linter.unusedSectionVars false
variable [Go.Eng.GW]
open Go.Joins Go.ChangeShapes Go.WideShapes Go.ChangeAt Go.RowKit Go.Deep Go.Eng
set_option linter.unusedVariables false
theorem rowsV_get {ks : List K} : ∀ {l : List (Row ks)} {j : Nat} {u : Value}, (rowsV ks l)[j]? = some u → ∃ i f x, l[i]? = some x ∧ j = i * ks.length + f ∧ ((Row.cells ks x).map S.den)[f]? = some u
  | [], j, u, h => by simp [rowsV] at h
  | x :: r, j, u, h => by
    have hn : ((Row.cells ks x).map S.den).length = ks.length := by simp [Row.cells_length]
    rw [rowsV_cons] at h
    by_cases hj : j < ks.length
    · rw [List.getElem?_append_left (by omega)] at h
      exact ⟨0, j, x, rfl, by omega, h⟩
    · rw [List.getElem?_append_right (by omega), hn] at h
      obtain ⟨i, f, y, h1, h2, h3⟩ := rowsV_get h
      exact ⟨i + 1, f, y, by simpa using h1, by rw [Nat.add_mul]; omega, h3⟩
section
variable {H : Type} {enc : TypeId × Value → H} {P : Program}
/-- a slice of rows, opened -/
theorem open_rows {ks : List K} {Good : Row ks → Prop} {w : World} {base : Nat} {spare : Nat → Bool} {held : Bool} {r : Reach} {b0 : Nat} {t e : TypeId} {v : Value} {d : DataW H} {p : List MemPlace} (ht : P.underlying t = some (.slice e)) (hc : P.cellsOf e = ks.length)
    (hv : Value.okWide P w r b0 t v) (h : DataW.Trod enc P w base spare held t v d p) (hrow : ∀ fuel cs y, DataW.trod enc P w base spare held fuel e cs = some y → ∃ x : Row ks, cs = (Row.cells ks x).map S.den ∧ Good x) :
    ∃ l : List (Row ks), l.length ≤ maxLen ∧ (∀ x ∈ l, Good x) ∧ holdsP 0 w (.orow e ks l) v := by
  obtain ⟨a, len, cap, rfl⟩ := okWide_slice ht hv
  obtain ⟨fuel, hf⟩ := h
  rcases open_slice ht hf with ⟨hcs, _⟩ | ⟨a', len', cap', m, n, D, Pl, hcs, hb, hl, hm, hmm, hx, hget⟩
  · have : Value.slice a len cap = .slice none 0 0 := by simpa [Value.cells] using hcs
    simp only [Value.slice.injEq] at this
    obtain ⟨rfl, rfl, rfl⟩ := this
    exact ⟨[], Nat.zero_le _, fun x hx => (by cases hx), none, 0, rfl, ⟨Nat.le_refl _, fun _ => rfl⟩, fun j u hj => by simp [rowsV] at hj⟩
  · have : Value.slice a len cap = .slice (some a') len' cap' := by simpa [Value.cells] using hcs
    simp only [Value.slice.injEq] at this
    obtain ⟨rfl, rfl, rfl⟩ := this
    have hlm : len ≤ m := by rw [hmm]; split <;> omega
    have : Inhabited (Row ks) := ⟨Row.dflt ks⟩
    obtain ⟨X, hX⟩ := choose_lt (α := Row ks) (n := len) (p := fun i x => w.cells? base (a'.add (i * ks.length)) ks.length = some ((Row.cells ks x).map S.den) ∧ Good x) (fun i hi => by
      obtain ⟨cs', h1, h2⟩ := hget i (by omega)
      obtain ⟨x, rfl, hg⟩ := hrow _ _ _ h2
      rw [hc] at h1
      exact ⟨x, h1, hg⟩)
    refine ⟨(List.range len).map X, by simp; omega, fun x hx => ?_, some a', cap, by simp, ⟨by simpa using hl, fun h => by cases h⟩, fun j u hj => ⟨a', rfl, ?_⟩⟩
    · obtain ⟨i, hi, rfl⟩ := List.mem_map.1 hx
      exact (hX i (List.mem_range.1 hi)).2
    · obtain ⟨i, f, x, h1, rfl, h3⟩ := rowsV_get hj
      have hi : i < len := by
        have := (List.getElem?_eq_some_iff.1 h1).1
        simpa using this
      have hx : x = X i := by simpa [hi] using h1.symm
      subst hx
      have hcell := (hX i hi).1
      obtain ⟨_, hlen, hall⟩ := World.cells?_some hcell
      have hf : f < ks.length := by
        have := (List.getElem?_eq_some_iff.1 h3).1
        simpa [Row.cells_length] using this
      rw [← Eng.add_add, hall f hf]
      exact h3
/-- of integers -/
theorem open_i64s {w : World} {base : Nat} {spare : Nat → Bool} {held : Bool} {r : Reach} {b0 : Nat} {t e : TypeId} {v : Value} {d : DataW H} {p : List MemPlace} (ht : P.underlying t = some (.slice e)) (he : P.underlying e = some (.int .i64)) (hc : P.cellsOf e = 1)
    (hv : Value.okWide P w r b0 t v) (h : DataW.Trod enc P w base spare held t v d p) :
    ∃ l : List Int, l.length ≤ maxLen ∧ (∀ x ∈ l, (Lit.int .i64 x).wf = true) ∧ holdsP 0 w (.orow e [.int .i64] l) v :=
  open_rows (ks := [.int .i64]) (Good := fun x : Int => (Lit.int .i64 x).wf = true) ht hc hv h fun fuel cs y hy => by
    obtain ⟨n, rfl, _, hw⟩ := DataW.trod_int he hy
    exact ⟨n, rfl, hw⟩
/-- of truths -/
theorem open_bools {w : World} {base : Nat} {spare : Nat → Bool} {held : Bool} {r : Reach} {b0 : Nat} {t e : TypeId} {v : Value} {d : DataW H} {p : List MemPlace} (ht : P.underlying t = some (.slice e)) (he : P.underlying e = some .bool) (hc : P.cellsOf e = 1)
    (hv : Value.okWide P w r b0 t v) (h : DataW.Trod enc P w base spare held t v d p) :
    ∃ l : List Bool, l.length ≤ maxLen ∧ holdsP 0 w (.orow e [.bool] l) v := by
  obtain ⟨l, h1, _, h2⟩ := open_rows (ks := [.bool]) (Good := fun _ : Bool => True) ht hc hv h fun fuel cs y hy => by
    obtain ⟨n, rfl, _⟩ := DataW.trod_bool he hy
    exact ⟨n, rfl, trivial⟩
  exact ⟨l, h1, h2⟩
/-- a law with slices -/
theorem law_rows {f : Nat} {sp : Eng.Spec} (h : SpecOk P f sp) {args : List V} {xs : List Value} (hfl : rowyL args = true) (hv : (sp args).yes) (w : World) (hx : holdsL 0 w args xs) (hG : Glob w := by exact Glob.any _) :
    Calls P f xs.toArray w fun e w' => e = .returned (.bool true) ∧ Below w.heap.size w w' := by
  rcases hv with hv | hv
  · refine (h.calls args .tt xs w hG hfl hv rfl hx).mono fun e w' ⟨x, he, hx, hb⟩ => ⟨?_, hb⟩
    rw [he, (holds_flat rfl).1 hx]; rfl
  · refine (h.calls args (.s (.bool true)) xs w hG hfl hv rfl hx).mono fun e w' ⟨x, he, hx, hb⟩ => ⟨?_, hb⟩
    rw [he, (holds_flat rfl).1 hx]; rfl
end
end Go.Proofs.YtndcealgackgiaaDoor.Law

/- What laws' frames want beside: slices of structs of a few integers, opened. No program is named here. -/
namespace Go.Proofs.YtndcealgackgiaaDoor.Law
set_option linter.unusedSectionVars false
variable [Go.Eng.GW]
open Go.Joins Go.ChangeShapes Go.WideShapes Go.ChangeAt Go.RowKit Go.Deep Go.Eng
set_option linter.unusedVariables false
section
variable {H : Type} {enc : TypeId × Value → H} {P : Program}
theorem trod_ints {w : World} {base : Nat} {spare : Nat → Bool} {held : Bool} {t : TypeId} {fs : Array Field} {fuel : Nat} {cs : List Value} {y : DataW H × List MemPlace} (hs : P.underlying t = some (.struct fs)) (hone : oneCellFields P fs = true) (hC : P.cellsOf t = fs.size)
    (hi : allI64 P fs = true) (h : DataW.trod enc P w base spare held fuel t cs = some y) :
    ∃ l : List Int, cs = l.map (Value.int .i64) ∧ l.length = fs.size ∧ ∀ n ∈ l, (Lit.int .i64 n).wf = true := by
  obtain ⟨xs, n, _, hx, hsz, hlen, hg⟩ := DataW.trod_struct hs h
  have key : ∀ i, i < fs.size → ∃ m : Int, cs[i]? = some (.int .i64 m) ∧ (Lit.int .i64 m).wf = true := by
    intro i hi'
    have hfi : fs[i]? = some fs[i] := Array.getElem?_eq_getElem hi'
    obtain ⟨ho, hk⟩ := hone_of hone i _ hfi
    have h1 := hg i _ hfi
    rw [ho, hk] at h1
    have hci : i < cs.length := by omega
    have e : (cs.drop i).take 1 = [cs[i]] := (congrArg (List.take 1) (List.drop_eq_getElem_cons hci)).trans rfl
    rw [e] at h1
    have hxi : i < xs.length := by omega
    rw [List.getElem?_eq_getElem hxi] at h1
    obtain ⟨m, hm, _, hw⟩ := DataW.trod_int (allI64_of hi hfi) h1
    refine ⟨m, ?_, hw⟩
    rw [List.getElem?_eq_getElem hci]
    simp only [List.cons.injEq, and_true] at hm
    rw [hm]
  refine ⟨(List.range fs.size).map fun i => match (cs[i]? : Option Value) with | some (.int .i64 m) => m | _ => 0, ?_, by simp, ?_⟩
  · apply List.ext_getElem
    · simp; omega
    · intro i h1 h2
      obtain ⟨m, hm, _⟩ := key i (by omega)
      simp only [List.map_map, List.getElem_map, List.getElem_range, Function.comp, hm]
      rw [List.getElem?_eq_getElem h1] at hm
      exact Option.some.inj hm
  · intro n hn
    simp only [List.mem_map, List.mem_range] at hn
    obtain ⟨i, hi', rfl⟩ := hn
    obtain ⟨m, hm, hw⟩ := key i hi'
    simp only [hm]
    exact hw
/-- of structs of three integers -/
theorem open_row3s {w : World} {base : Nat} {spare : Nat → Bool} {held : Bool} {r : Reach} {b0 : Nat} {t e : TypeId} {fs : Array Field} {v : Value} {d : DataW H} {p : List MemPlace} (ht : P.underlying t = some (.slice e)) (hs : P.underlying e = some (.struct fs)) (hone : oneCellFields P fs = true) (hC : P.cellsOf e = fs.size) (h3 : fs.size = 3) (hi : allI64 P fs = true)
    (hv : Value.okWide P w r b0 t v) (h : DataW.Trod enc P w base spare held t v d p) :
    ∃ l : List (Int × Int × Int), l.length ≤ maxLen ∧ (∀ x ∈ l, (Lit.int .i64 x.1).wf = true ∧ (Lit.int .i64 x.2.1).wf = true ∧ (Lit.int .i64 x.2.2).wf = true) ∧ holdsP 0 w (.orow e [.int .i64, .int .i64, .int .i64] l) v :=
  open_rows (ks := [.int .i64, .int .i64, .int .i64]) (Good := fun x : Int × Int × Int => (Lit.int .i64 x.1).wf = true ∧ (Lit.int .i64 x.2.1).wf = true ∧ (Lit.int .i64 x.2.2).wf = true) ht (by rw [hC, h3]; rfl) hv h fun fuel cs y hy => by
    obtain ⟨l, rfl, hl, hw⟩ := trod_ints hs hone hC hi hy
    rw [h3] at hl
    match l, hl, hw with
    | [a, b, c], _, hw => exact ⟨(a, b, c), rfl, hw a (by simp), hw b (by simp), hw c (by simp)⟩
/-- of structs of two integers -/
theorem open_row2s {w : World} {base : Nat} {spare : Nat → Bool} {held : Bool} {r : Reach} {b0 : Nat} {t e : TypeId} {fs : Array Field} {v : Value} {d : DataW H} {p : List MemPlace} (ht : P.underlying t = some (.slice e)) (hs : P.underlying e = some (.struct fs)) (hone : oneCellFields P fs = true) (hC : P.cellsOf e = fs.size) (h3 : fs.size = 2) (hi : allI64 P fs = true)
    (hv : Value.okWide P w r b0 t v) (h : DataW.Trod enc P w base spare held t v d p) :
    ∃ l : List (Int × Int), l.length ≤ maxLen ∧ (∀ x ∈ l, (Lit.int .i64 x.1).wf = true ∧ (Lit.int .i64 x.2).wf = true) ∧ holdsP 0 w (.orow e [.int .i64, .int .i64] l) v :=
  open_rows (ks := [.int .i64, .int .i64]) (Good := fun x : Int × Int => (Lit.int .i64 x.1).wf = true ∧ (Lit.int .i64 x.2).wf = true) ht (by rw [hC, h3]; rfl) hv h fun fuel cs y hy => by
    obtain ⟨l, rfl, hl, hw⟩ := trod_ints hs hone hC hi hy
    rw [h3] at hl
    match l, hl, hw with
    | [a, b], _, hw => exact ⟨(a, b), rfl, hw a (by simp), hw b (by simp)⟩
end
end Go.Proofs.YtndcealgackgiaaDoor.Law

/- What laws' frames want beside: slices of structs of four and five integers, opened. No program is named here. -/
namespace Go.Proofs.YtndcealgackgiaaDoor.Law
set_option linter.unusedSectionVars false
variable [Go.Eng.GW]
open Go.Joins Go.ChangeShapes Go.WideShapes Go.ChangeAt Go.RowKit Go.Deep Go.Eng
set_option linter.unusedVariables false
section
variable {H : Type} {enc : TypeId × Value → H} {P : Program}
/-- of structs of five integers -/
theorem open_row5s {w : World} {base : Nat} {spare : Nat → Bool} {held : Bool} {r : Reach} {b0 : Nat} {t e : TypeId} {fs : Array Field} {v : Value} {d : DataW H} {p : List MemPlace} (ht : P.underlying t = some (.slice e)) (hs : P.underlying e = some (.struct fs)) (hone : oneCellFields P fs = true) (hC : P.cellsOf e = fs.size) (h3 : fs.size = 5) (hi : allI64 P fs = true)
    (hv : Value.okWide P w r b0 t v) (h : DataW.Trod enc P w base spare held t v d p) :
    ∃ l : List (Int × Int × Int × Int × Int), l.length ≤ maxLen ∧ (∀ x ∈ l, (Lit.int .i64 x.1).wf = true ∧ (Lit.int .i64 x.2.1).wf = true ∧ (Lit.int .i64 x.2.2.1).wf = true ∧ (Lit.int .i64 x.2.2.2.1).wf = true ∧ (Lit.int .i64 x.2.2.2.2).wf = true) ∧ holdsP 0 w (.orow e [.int .i64, .int .i64, .int .i64, .int .i64, .int .i64] l) v :=
  open_rows (ks := [.int .i64, .int .i64, .int .i64, .int .i64, .int .i64]) (Good := fun x : Int × Int × Int × Int × Int => (Lit.int .i64 x.1).wf = true ∧ (Lit.int .i64 x.2.1).wf = true ∧ (Lit.int .i64 x.2.2.1).wf = true ∧ (Lit.int .i64 x.2.2.2.1).wf = true ∧ (Lit.int .i64 x.2.2.2.2).wf = true) ht (by rw [hC, h3]; rfl) hv h fun fuel cs y hy => by
    obtain ⟨l, rfl, hl, hw⟩ := trod_ints hs hone hC hi hy
    rw [h3] at hl
    match l, hl, hw with
    | [a, b, c, d, e], _, hw => exact ⟨(a, b, c, d, e), rfl, hw a (by simp), hw b (by simp), hw c (by simp), hw d (by simp), hw e (by simp)⟩
/-- of structs of four integers -/
theorem open_row4s {w : World} {base : Nat} {spare : Nat → Bool} {held : Bool} {r : Reach} {b0 : Nat} {t e : TypeId} {fs : Array Field} {v : Value} {d : DataW H} {p : List MemPlace} (ht : P.underlying t = some (.slice e)) (hs : P.underlying e = some (.struct fs)) (hone : oneCellFields P fs = true) (hC : P.cellsOf e = fs.size) (h3 : fs.size = 4) (hi : allI64 P fs = true)
    (hv : Value.okWide P w r b0 t v) (h : DataW.Trod enc P w base spare held t v d p) :
    ∃ l : List (Int × Int × Int × Int), l.length ≤ maxLen ∧ (∀ x ∈ l, (Lit.int .i64 x.1).wf = true ∧ (Lit.int .i64 x.2.1).wf = true ∧ (Lit.int .i64 x.2.2.1).wf = true ∧ (Lit.int .i64 x.2.2.2).wf = true) ∧ holdsP 0 w (.orow e [.int .i64, .int .i64, .int .i64, .int .i64] l) v :=
  open_rows (ks := [.int .i64, .int .i64, .int .i64, .int .i64]) (Good := fun x : Int × Int × Int × Int => (Lit.int .i64 x.1).wf = true ∧ (Lit.int .i64 x.2.1).wf = true ∧ (Lit.int .i64 x.2.2.1).wf = true ∧ (Lit.int .i64 x.2.2.2).wf = true) ht (by rw [hC, h3]; rfl) hv h fun fuel cs y hy => by
    obtain ⟨l, rfl, hl, hw⟩ := trod_ints hs hone hC hi hy
    rw [h3] at hl
    match l, hl, hw with
    | [a, b, c, d], _, hw => exact ⟨(a, b, c, d), rfl, hw a (by simp), hw b (by simp), hw c (by simp), hw d (by simp)⟩
end
end Go.Proofs.YtndcealgackgiaaDoor.Law

/- What laws' frames want beside: slices of structs of integers and truths, however nested, opened. No program is named here. -/
namespace Go.Proofs.YtndcealgackgiaaDoor.Law
set_option linter.unusedSectionVars false
variable [Go.Eng.GW]
open Go.Joins Go.ChangeShapes Go.WideShapes Go.ChangeAt Go.RowKit Go.Deep Go.Eng
set_option linter.unusedVariables false
/-- a cell of that kind -/
def cellK : K → Value → Prop
  | .int k, u => k = .i64 ∧ ∃ m : Int, u = .int .i64 m ∧ (Lit.int .i64 m).wf = true
  | .bool, u => ∃ b : Bool, u = .bool b
  | _, _ => False
inductive CellsK : List K → List Value → Prop
  | nil : CellsK [] []
  | cons {k : K} {u : Value} {ks : List K} {us : List Value} (h : cellK k u) (r : CellsK ks us) : CellsK (k :: ks) (u :: us)
theorem CellsK.append {ks ks' : List K} {us us' : List Value} (h : CellsK ks us) (h' : CellsK ks' us') : CellsK (ks ++ ks') (us ++ us') := by
  induction h with
  | nil => exact h'
  | cons h1 _ ih => exact .cons h1 ih
def okS : S → Prop
  | .int .i64 n => (Lit.int .i64 n).wf = true
  | _ => True
/-- every integer in a row is one -/
def GoodRow (ks : List K) (x : Row ks) : Prop := ∀ s ∈ Row.cells ks x, okS s
theorem cellK_s : ∀ {k : K} {u : Value}, cellK k u → ∃ x : k.T, u = (k.s x).den ∧ okS (k.s x)
  | .int k, u, h => by
    obtain ⟨rfl, m, rfl, hw⟩ := h
    exact ⟨m, rfl, hw⟩
  | .bool, u, h => by
    obtain ⟨b, rfl⟩ := h
    exact ⟨b, rfl, trivial⟩
  | .str, u, h => h.elim
  | .fl _, u, h => h.elim
  | .cx _, u, h => h.elim
theorem CellsK.row : ∀ {ks : List K} {us : List Value}, CellsK ks us → ∃ x : Row ks, us = (Row.cells ks x).map S.den ∧ GoodRow ks x
  | [], _, .nil => ⟨(), rfl, fun s h => by cases h⟩
  | [k], _, .cons h .nil => by
    obtain ⟨x, rfl, hx⟩ := cellK_s h
    exact ⟨x, rfl, fun s hs => by
      rcases List.mem_cons.1 hs with rfl | hs
      · exact hx
      · cases hs⟩
  | k :: k2 :: r, _, .cons h hr => by
    obtain ⟨x, rfl, hx⟩ := cellK_s h
    obtain ⟨y, rfl, hy⟩ := hr.row
    exact ⟨(x, y), rfl, fun s hs => by
      rcases List.mem_cons.1 hs with rfl | hs
      · exact hx
      · exact hy s hs⟩
/-- the kinds of a type's cells -/
def kindsL (f : TypeId → Option (List K)) (P : Program) : List Field → Nat → Option (List K)
  | [], _ => some []
  | x :: r, o => match f x.type with
    | some k => if x.offset = o ∧ P.cellsOf x.type = k.length then match kindsL f P r (o + k.length) with
        | some ks => some (k ++ ks)
        | none => none
      else none
    | none => none
def kindsT (P : Program) : Nat → TypeId → Option (List K)
  | 0, _ => none
  | n + 1, t => match P.underlying t with
    | some (.int .i64) => some [.int .i64]
    | some .bool => some [.bool]
    | some (.struct fs) => match kindsL (kindsT P n) P fs.toList 0 with
      | some ks => if P.cellsOf t = ks.length then some ks else none
      | none => none
    | _ => none
section
variable {H : Type} {enc : TypeId × Value → H} {P : Program}
theorem kindsL_ok {f : TypeId → Option (List K)} {w : World} {base : Nat} {spare : Nat → Bool} {held : Bool} {cs : List Value}
    (hf : ∀ t ks, f t = some ks → ∀ fuel cs y, DataW.trod enc P w base spare held fuel t cs = some y → CellsK ks cs) :
    ∀ (L : List Field) (o : Nat) (ks : List K), kindsL f P L o = some ks → (∀ x ∈ L, ∃ n y, DataW.trod enc P w base spare held n x.type ((cs.drop x.offset).take (P.cellsOf x.type)) = some y) → cs.length = o + ks.length → CellsK ks (cs.drop o)
  | [], o, ks, h, _, hl => by
    obtain rfl := Option.some.inj h
    have : cs.drop o = [] := List.drop_eq_nil_of_le (by simp at hl; omega)
    rw [this]; exact .nil
  | x :: r, o, ks, h, hx, hl => by
    unfold kindsL at h
    split at h
    · rename_i k hk
      split at h
      · rename_i hc
        split at h
        · rename_i ks' hks
          obtain rfl := Option.some.inj h
          obtain ⟨n, y, hy⟩ := hx x List.mem_cons_self
          have h1 := hf _ _ hk _ _ _ hy
          rw [hc.1, hc.2] at h1
          have h2 := kindsL_ok hf r _ _ hks (fun z hz => hx z (List.mem_cons_of_mem _ hz)) (by rw [List.length_append] at hl; omega)
          have e : cs.drop o = (cs.drop o).take k.length ++ cs.drop (o + k.length) := by
            rw [← List.drop_drop]; exact (List.take_append_drop _ _).symm
          rw [e]
          exact h1.append h2
        · cases h
      · cases h
    · cases h
theorem kindsT_ok {w : World} {base : Nat} {spare : Nat → Bool} {held : Bool} : ∀ (n : Nat) (t : TypeId) (ks : List K), kindsT P n t = some ks → ∀ fuel cs y, DataW.trod enc P w base spare held fuel t cs = some y → CellsK ks cs
  | 0, t, ks, h, _, _, _, _ => by cases h
  | n + 1, t, ks, h, fuel, cs, y, hy => by
    unfold kindsT at h
    split at h
    · rename_i ht
      obtain rfl := Option.some.inj h
      obtain ⟨m, rfl, _, hw⟩ := DataW.trod_int ht hy
      exact .cons ⟨rfl, m, rfl, hw⟩ .nil
    · rename_i ht
      obtain rfl := Option.some.inj h
      obtain ⟨b, rfl, _⟩ := DataW.trod_bool ht hy
      exact .cons ⟨b, rfl⟩ .nil
    · rename_i fs ht
      split at h
      · rename_i ks' hk
        split at h
        · rename_i hc
          obtain rfl := Option.some.inj h
          obtain ⟨xs, m, _, hx, hsz, hlen, hg⟩ := DataW.trod_struct ht hy
          have := kindsL_ok (cs := cs) (fun t ks h fuel cs y hy => kindsT_ok n t ks h fuel cs y hy) fs.toList 0 _ hk (fun x hx => by
            obtain ⟨i, hi, rfl⟩ := List.mem_iff_getElem.1 hx
            have hfi : fs[i]? = some fs.toList[i] := by rw [← Array.getElem?_toList, List.getElem?_eq_getElem hi]
            have hxi : i < xs.length := by rw [Array.length_toList] at hi; omega
            have h1 := hg i _ hfi
            rw [List.getElem?_eq_getElem hxi] at h1
            exact ⟨m, _, h1⟩) (by rw [Nat.zero_add, ← hc]; exact hsz)
          simpa using this
        · cases h
      · cases h
    · cases h
/-- a slice of such structs -/
theorem open_plain {ks : List K} (n : Nat) {w : World} {base : Nat} {spare : Nat → Bool} {held : Bool} {r : Reach} {b0 : Nat} {t e : TypeId} {v : Value} {d : DataW H} {p : List MemPlace} (ht : P.underlying t = some (.slice e)) (hk : kindsT P n e = some ks) (hc : P.cellsOf e = ks.length)
    (hv : Value.okWide P w r b0 t v) (h : DataW.Trod enc P w base spare held t v d p) :
    ∃ l : List (Row ks), l.length ≤ maxLen ∧ (∀ x ∈ l, GoodRow ks x) ∧ holdsP 0 w (.orow e ks l) v :=
  open_rows (ks := ks) (Good := GoodRow ks) ht hc hv h fun fuel cs y hy => (kindsT_ok n e ks hk fuel cs y hy).row
end
end Go.Proofs.YtndcealgackgiaaDoor.Law

/- What laws' frames want beside: slices of bytes; slices of structs of integers, truths and texts. No program is named here. -/
namespace Go.Proofs.YtndcealgackgiaaDoor.Law
set_option linter.unusedSectionVars false
variable [Go.Eng.GW]
open Go.Joins Go.ChangeShapes Go.WideShapes Go.ChangeAt Go.RowKit Go.Deep Go.Eng
set_option linter.unusedVariables false
namespace Tx
/-- a cell of that kind -/
def cellK : K → Value → Prop
  | .int k, u => ∃ m : Int, u = .int k m ∧ (Lit.int k m).wf = true
  | .bool, u => ∃ b : Bool, u = .bool b
  | .str, u => ∃ s : ByteArray, u = .string s ∧ s.size ≤ maxLen
  | .sl, u => ∃ (a : Option Addr) (n c : Nat), u = .slice a n c ∧ n ≤ maxLen
  | _, _ => False
inductive CellsK : List K → List Value → Prop
  | nil : CellsK [] []
  | cons {k : K} {u : Value} {ks : List K} {us : List Value} (h : cellK k u) (r : CellsK ks us) : CellsK (k :: ks) (u :: us)
theorem CellsK.append {ks ks' : List K} {us us' : List Value} (h : CellsK ks us) (h' : CellsK ks' us') : CellsK (ks ++ ks') (us ++ us') := by
  induction h with
  | nil => exact h'
  | cons h1 _ ih => exact .cons h1 ih
def okS : S → Prop
  | .int k n => (Lit.int k n).wf = true
  | .str s => s.size ≤ maxLen
  | .sli _ n _ => n ≤ maxLen
  | _ => True
/-- every part of a row is one -/
def GoodRow (ks : List K) (x : Row ks) : Prop := ∀ s ∈ Row.cells ks x, okS s
theorem cellK_s : ∀ {k : K} {u : Value}, cellK k u → ∃ x : k.T, u = (k.s x).den ∧ okS (k.s x)
  | .int k, u, h => by
    obtain ⟨m, rfl, hw⟩ := h
    exact ⟨m, rfl, hw⟩
  | .bool, u, h => by
    obtain ⟨b, rfl⟩ := h
    exact ⟨b, rfl, trivial⟩
  | .str, u, h => by
    obtain ⟨s, rfl, hs⟩ := h
    exact ⟨s, rfl, hs⟩
  | .sl, u, h => by
    obtain ⟨a, n, c, rfl, hs⟩ := h
    exact ⟨(a, n, c), rfl, hs⟩
  | .fl _, u, h => h.elim
  | .cx _, u, h => h.elim
theorem CellsK.row : ∀ {ks : List K} {us : List Value}, CellsK ks us → ∃ x : Row ks, us = (Row.cells ks x).map S.den ∧ GoodRow ks x
  | [], _, .nil => ⟨(), rfl, fun s h => by cases h⟩
  | [k], _, .cons h .nil => by
    obtain ⟨x, rfl, hx⟩ := cellK_s h
    exact ⟨x, rfl, fun s hs => by
      rcases List.mem_cons.1 hs with rfl | hs
      · exact hx
      · cases hs⟩
  | k :: k2 :: r, _, .cons h hr => by
    obtain ⟨x, rfl, hx⟩ := cellK_s h
    obtain ⟨y, rfl, hy⟩ := hr.row
    exact ⟨(x, y), rfl, fun s hs => by
      rcases List.mem_cons.1 hs with rfl | hs
      · exact hx
      · exact hy s hs⟩
def kindsT (P : Program) : Nat → TypeId → Option (List K)
  | 0, _ => none
  | n + 1, t => match P.underlying t with
    | some (.int k) => some [.int k]
    | some .bool => some [.bool]
    | some .string => some [.str]
    | some (.slice _) => some [.sl]
    | some (.array m e) => match kindsT P n e with
      | some [k] => if P.cellsOf e = 1 ∧ P.cellsOf t = m then some (List.replicate m k) else none
      | _ => none
    | some (.struct fs) => match kindsL (kindsT P n) P fs.toList 0 with
      | some ks => if P.cellsOf t = ks.length then some ks else none
      | none => none
    | _ => none
section
variable {H : Type} {enc : TypeId × Value → H} {P : Program}
theorem kindsL_ok {f : TypeId → Option (List K)} {w : World} {base : Nat} {spare : Nat → Bool} {held : Bool} {cs : List Value}
    (hf : ∀ t ks, f t = some ks → ∀ fuel cs y, DataW.trod enc P w base spare held fuel t cs = some y → CellsK ks cs) :
    ∀ (L : List Field) (o : Nat) (ks : List K), kindsL f P L o = some ks → (∀ x ∈ L, ∃ n y, DataW.trod enc P w base spare held n x.type ((cs.drop x.offset).take (P.cellsOf x.type)) = some y) → cs.length = o + ks.length → CellsK ks (cs.drop o)
  | [], o, ks, h, _, hl => by
    obtain rfl := Option.some.inj h
    have : cs.drop o = [] := List.drop_eq_nil_of_le (by simp at hl; omega)
    rw [this]; exact .nil
  | x :: r, o, ks, h, hx, hl => by
    unfold kindsL at h
    split at h
    · rename_i k hk
      split at h
      · rename_i hc
        split at h
        · rename_i ks' hks
          obtain rfl := Option.some.inj h
          obtain ⟨n, y, hy⟩ := hx x List.mem_cons_self
          have h1 := hf _ _ hk _ _ _ hy
          rw [hc.1, hc.2] at h1
          have h2 := kindsL_ok hf r _ _ hks (fun z hz => hx z (List.mem_cons_of_mem _ hz)) (by rw [List.length_append] at hl; omega)
          have e : cs.drop o = (cs.drop o).take k.length ++ cs.drop (o + k.length) := by
            rw [← List.drop_drop]; exact (List.take_append_drop _ _).symm
          rw [e]
          exact h1.append h2
        · cases h
      · cases h
    · cases h
theorem CellsK.rep {k : K} : ∀ {m : Nat} {cs : List Value}, cs.length = m → (∀ i, i < m → CellsK [k] ((cs.drop i).take 1)) → CellsK (List.replicate m k) cs
  | 0, [], _, _ => .nil
  | 0, _ :: _, h, _ => by simp at h
  | m + 1, [], h, _ => by simp at h
  | m + 1, c :: cs, h, hg => by
    have h0 : CellsK [k] [c] := hg 0 (Nat.zero_lt_succ _)
    have h1 : CellsK (List.replicate m k) cs := CellsK.rep (by simpa using h) fun i hi => by
      have := hg (i + 1) (by omega)
      rwa [List.drop_succ_cons] at this
    cases h0 with
    | cons h2 _ => exact .cons h2 h1
theorem kindsT_ok {w : World} {base : Nat} {spare : Nat → Bool} {held : Bool} : ∀ (n : Nat) (t : TypeId) (ks : List K), kindsT P n t = some ks → ∀ fuel cs y, DataW.trod enc P w base spare held fuel t cs = some y → CellsK ks cs
  | 0, t, ks, h, _, _, _, _ => by cases h
  | n + 1, t, ks, h, fuel, cs, y, hy => by
    unfold kindsT at h
    split at h
    · rename_i k ht
      obtain rfl := Option.some.inj h
      obtain ⟨m, rfl, _, hw⟩ := DataW.trod_int ht hy
      exact .cons ⟨m, rfl, hw⟩ .nil
    · rename_i ht
      obtain rfl := Option.some.inj h
      obtain ⟨b, rfl, _⟩ := DataW.trod_bool ht hy
      exact .cons ⟨b, rfl⟩ .nil
    · rename_i ht
      obtain rfl := Option.some.inj h
      obtain ⟨s, rfl, _, hw⟩ := DataW.trod_string ht hy
      exact .cons ⟨s, rfl, hw⟩ .nil
    · rename_i e ht
      obtain rfl := Option.some.inj h
      rcases DataW.trod_slice ht hy with ⟨rfl, _⟩ | ⟨a, len, cap, _, _, _, _, rfl, _, _, hl, hm, _⟩
      · exact .cons ⟨none, 0, 0, rfl, Nat.zero_le _⟩ .nil
      · exact .cons ⟨some a, len, cap, rfl, by omega⟩ .nil
    · rename_i m e ht
      split at h
      · rename_i k hk
        split at h
        · rename_i hc
          obtain rfl := Option.some.inj h
          obtain ⟨xs, q, _, _, hl, hlen, hg⟩ := DataW.trod_array ht hy
          exact CellsK.rep (by rw [hl]; exact hc.2) fun i hi => by
            have h1 := hg i hi
            rw [hc.1, Nat.mul_one, List.getElem?_eq_getElem (by omega)] at h1
            exact kindsT_ok n e [k] hk _ _ _ h1
        · cases h
      · cases h
    · rename_i fs ht
      split at h
      · rename_i ks' hk
        split at h
        · rename_i hc
          obtain rfl := Option.some.inj h
          obtain ⟨xs, m, _, hx, hsz, hlen, hg⟩ := DataW.trod_struct ht hy
          have := kindsL_ok (cs := cs) (fun t ks h fuel cs y hy => kindsT_ok n t ks h fuel cs y hy) fs.toList 0 _ hk (fun x hx => by
            obtain ⟨i, hi, rfl⟩ := List.mem_iff_getElem.1 hx
            have hfi : fs[i]? = some fs.toList[i] := by rw [← Array.getElem?_toList, List.getElem?_eq_getElem hi]
            have hxi : i < xs.length := by rw [Array.length_toList] at hi; omega
            have h1 := hg i _ hfi
            rw [List.getElem?_eq_getElem hxi] at h1
            exact ⟨m, _, h1⟩) (by rw [Nat.zero_add, ← hc]; exact hsz)
          simpa using this
        · cases h
      · cases h
    · cases h
/-- a slice of such structs -/
theorem open_plain {ks : List K} (n : Nat) {w : World} {base : Nat} {spare : Nat → Bool} {held : Bool} {r : Reach} {b0 : Nat} {t e : TypeId} {v : Value} {d : DataW H} {p : List MemPlace} (ht : P.underlying t = some (.slice e)) (hk : kindsT P n e = some ks) (hc : P.cellsOf e = ks.length)
    (hv : Value.okWide P w r b0 t v) (h : DataW.Trod enc P w base spare held t v d p) :
    ∃ l : List (Row ks), l.length ≤ maxLen ∧ (∀ x ∈ l, GoodRow ks x) ∧ holdsP 0 w (.orow e ks l) v :=
  open_rows (ks := ks) (Good := GoodRow ks) ht hc hv h fun fuel cs y hy => (kindsT_ok n e ks hk fuel cs y hy).row
end
end Tx
end Go.Proofs.YtndcealgackgiaaDoor.Law

/- What laws' frames want beside: slices of structs of which one field is a slice of rows of integers. No program is named here. -/
namespace Go.Proofs.YtndcealgackgiaaDoor.Law
set_option linter.unusedSectionVars false
variable [Go.Eng.GW]
open Go.Joins Go.ChangeShapes Go.WideShapes Go.ChangeAt Go.RowKit Go.Deep Go.Eng
set_option linter.unusedVariables false
/-- rows lie where the slice says -/
def RowsAt (ks : List K) (w : World) (z : Option Addr × Nat × Nat) : Prop := ∃ rows : List (Row ks), rows.length = z.2.1 ∧ (z.2.1 ≤ z.2.2 ∧ (z.1 = none → z.2.2 = 0)) ∧ Reads w z.1 (rowsV ks rows)
section
variable {H : Type} {enc : TypeId × Value → H} {P : Program}
/-- rows read by a slice of them -/
theorem trod_rows {ks : List K} {w : World} {base : Nat} {spare : Nat → Bool} {held : Bool} {t e : TypeId} {fuel : Nat} {cs : List Value} {y : DataW H × List MemPlace} (ht : P.underlying t = some (.slice e)) (hc : P.cellsOf e = ks.length)
    (h : DataW.trod enc P w base spare held fuel t cs = some y) (hrow : ∀ fuel cs y, DataW.trod enc P w base spare held fuel e cs = some y → ∃ x : Row ks, cs = (Row.cells ks x).map S.den) :
    ∃ z : Option Addr × Nat × Nat, cs = [.slice z.1 z.2.1 z.2.2] ∧ RowsAt ks w z := by
  rcases DataW.trod_slice ht h with ⟨rfl, _⟩ | ⟨a, len, cap, elems, rest, n, rfl, rfl, hx, hb, hl, hm, hel, hget, _⟩
  · exact ⟨(none, 0, 0), rfl, [], rfl, ⟨Nat.le_refl _, fun _ => rfl⟩, fun j u hj => by simp [rowsV] at hj⟩
  · have : Inhabited (Row ks) := ⟨Row.dflt ks⟩
    obtain ⟨X, hX⟩ := choose_lt (α := Row ks) (n := len) (p := fun i x => w.cells? base (a.add (i * ks.length)) ks.length = some ((Row.cells ks x).map S.den)) (fun i hi => by
      have h1 := hget i hi
      rw [List.getElem?_eq_getElem (by omega)] at h1
      obtain ⟨cs', h2, h3⟩ := Option.bind_eq_some_iff.1 h1
      obtain ⟨x, rfl⟩ := hrow _ _ _ h3
      rw [hc] at h2
      exact ⟨x, h2⟩)
    refine ⟨(some a, len, cap), rfl, (List.range len).map X, by simp, ⟨hl, fun h => by cases h⟩, fun j u hj => ⟨a, rfl, ?_⟩⟩
    obtain ⟨i, f, x, h1, rfl, h3⟩ := rowsV_get hj
    have hi : i < len := by
      have := (List.getElem?_eq_some_iff.1 h1).1
      simpa using this
    have hx : x = X i := by simpa [hi] using h1.symm
    subst hx
    obtain ⟨_, hlen, hall⟩ := World.cells?_some (hX i hi)
    have hf : f < ks.length := by
      have := (List.getElem?_eq_some_iff.1 h3).1
      simpa [Row.cells_length] using this
    rw [← Eng.add_add, hall f hf]
    exact h3
/-- field i of the type e lies at place o and is a slice of p -/
def sliceAt (P : Program) (e : TypeId) (i o : Nat) (p : TypeId) : Bool := match P.underlying e with
  | some (.struct fs) => (match fs[i]? with
    | some f => (match P.underlying f.type with
      | some (.slice q) => q == p && (f.offset == o && P.cellsOf f.type == 1)
      | _ => false)
    | none => false)
  | _ => false
theorem trod_field {e p : TypeId} {i o : Nat} {ki : List K} (n : Nat) {w : World} {base : Nat} {spare : Nat → Bool} {held : Bool} {fuel : Nat} {cs : List Value} {y : DataW H × List MemPlace} (hs : sliceAt P e i o p = true) (hk : Tx.kindsT P n p = some ki) (hc : P.cellsOf p = ki.length)
    (h : DataW.trod enc P w base spare held fuel e cs = some y) : ∃ z : Option Addr × Nat × Nat, cs[o]? = some (.slice z.1 z.2.1 z.2.2) ∧ RowsAt ki w z := by
  unfold sliceAt at hs
  split at hs
  · rename_i fs he
    split at hs
    · rename_i f hf
      split at hs
      · rename_i q hq
        simp only [Bool.and_eq_true, beq_iff_eq] at hs
        obtain ⟨rfl, rfl, h1⟩ := hs
        obtain ⟨xs, m, _, hx, hsz, hlen, hg⟩ := DataW.trod_struct he h
        have hi : i < fs.size := (Array.getElem?_eq_some_iff.1 hf).1
        have h2 := hg i f hf
        rw [List.getElem?_eq_getElem (by omega)] at h2
        obtain ⟨z, hz, hr⟩ := trod_rows (ks := ki) hq hc h2 (fun fuel cs y hy => by
          obtain ⟨x, hx, _⟩ := (Tx.kindsT_ok n q ki hk fuel cs y hy).row
          exact ⟨x, hx⟩)
        refine ⟨z, ?_, hr⟩
        rw [h1] at hz
        have := congrArg (fun l : List Value => l[0]?) hz
        simpa [List.getElem?_take, List.getElem?_drop] using this
      · cases hs
    · cases hs
  · cases hs
/-- a slice of such structs -/
theorem open_nested {ks ki : List K} {Q : Row ks → Option Addr × Nat × Nat → Prop} (n : Nat) {o i : Nat} {p : TypeId} {w : World} {base : Nat} {spare : Nat → Bool} {held : Bool} {r : Reach} {b0 : Nat} {t e : TypeId} {v : Value} {d : DataW H} {pl : List MemPlace} (ht : P.underlying t = some (.slice e)) (hk : Tx.kindsT P n e = some ks) (hc : P.cellsOf e = ks.length)
    (hs : sliceAt P e i o p = true) (hki : Tx.kindsT P n p = some ki) (hci : P.cellsOf p = ki.length) (sel : Row ks → Option Addr × Nat × Nat) (hsel : ∀ x : Row ks, ((Row.cells ks x).map S.den)[o]? = some (.slice (sel x).1 (sel x).2.1 (sel x).2.2))
    (hv : Value.okWide P w r b0 t v) (h : DataW.Trod enc P w base spare held t v d pl) :
    ∃ l : List (Row ks), l.length ≤ maxLen ∧ (∀ x ∈ l, Tx.GoodRow ks x) ∧ (∀ x ∈ l, RowsAt ki w (sel x)) ∧ holdsP 0 w (.orow e ks l) v := by
  obtain ⟨l, h1, h2, h3⟩ := open_rows (ks := ks) (Good := fun x => Tx.GoodRow ks x ∧ RowsAt ki w (sel x)) ht hc hv h fun fuel cs y hy => by
    obtain ⟨x, hx, hg⟩ := (Tx.kindsT_ok n e ks hk fuel cs y hy).row
    obtain ⟨z, hz, hr⟩ := trod_field n hs hki hci hy
    rw [hx, hsel x] at hz
    simp only [Option.some.injEq, Value.slice.injEq] at hz
    have : sel x = z := Prod.ext hz.1 (Prod.ext hz.2.1 hz.2.2)
    exact ⟨x, hx, hg, by rw [this]; exact hr⟩
  exact ⟨l, h1, fun x hx => (h2 x hx).1, fun x hx => (h2 x hx).2, h3⟩
end
end Go.Proofs.YtndcealgackgiaaDoor.Law

/- The machine: rows of any kinds, read out of a block. No program is named here. -/
namespace Go.Eng
set_option linter.unusedSectionVars false
variable [Go.Eng.GW]
open Go.RowKit
set_option linter.unusedVariables false
def asRows (ks : List K) : Blk → Option (Bool × TypeId × List (Row ks))
  | .lst own t ks' l => if h : ks' = ks then some (own, t, h ▸ l) else none
  | _ => none
theorem asRows_ok {ks : List K} {b : Blk} {own : Bool} {t : TypeId} {l : List (Row ks)} (h : asRows ks b = some (own, t, l)) : b = .lst own t ks l := by
  unfold asRows at h
  split at h
  · split at h
    · rename_i hk
      subst hk
      cases h
      rfl
    · cases h
  · cases h
def rowsOf (own : Bool) (t : TypeId) (ks : List K) (b : Blk) : Option (List (Row ks)) := match asRows ks b with
  | some (o, t', l) => if o = own ∧ t' = t then some l else none
  | none => none
theorem rowsOf_ok {own : Bool} {t : TypeId} {ks : List K} {b : Blk} {l : List (Row ks)} (h : rowsOf own t ks b = some l) : b = .lst own t ks l := by
  unfold rowsOf at h
  split at h
  · rename_i o t' l' hr
    split at h
    · rename_i hc
      obtain ⟨rfl, rfl⟩ := hc
      cases h
      exact asRows_ok hr
    · cases h
  · cases h
end Go.Eng

