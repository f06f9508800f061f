/- The machine: functions that look at structs alone, whatever else these lead to. No program is named here. -/
import Derived.Test.YtheknddbbgjpkaaEngY
namespace Go.Eng
open Go.RowKit
set_option linter.unusedVariables false
set_option linter.unusedSimpArgs false
def roB (c : Bool) : Blk → Blk
  | .cells t l => .ro t l
  | .ro t l => .ro t l
  | _ => .leaf c
/-- structs to be read, and places of which nothing is known -/
def roH (c : Nat → Bool) : Heap → Heap
  | [] => []
  | (i, b) :: r => (i, roB (c i) b) :: roH c r
theorem look_roH {c : Nat → Bool} : ∀ {h : Heap} {i : Nat}, look (roH c h) i = (look h i).map (roB (c i))
  | [], i => rfl
  | (j, b) :: r, i => by
    simp only [roH, look]
    by_cases e : (j == i) = true
    · rw [if_pos e, if_pos e]
      have : j = i := by simpa using e
      subst this; rfl
    · rw [if_neg e, if_neg e]; exact look_roH
theorem roH_length {c : Nat → Bool} : ∀ h : Heap, (roH c h).length = h.length
  | [] => rfl
  | (j, b) :: r => by simp [roH, roH_length r]
theorem ObjOk.peep {P : Program} {f : Nat} {sp : Obj} (h : ObjOk P f sp) (g : List V → Heap → T V)
    (he : ∀ args hp v, (g args hp).eval = some v → flat v = true → ∀ c, (sp args (roH c hp)).eval = some (v, [])) : SeeOk P f g := by
  refine ⟨h.body, fun args hp v ν w ha hb hr hv hfv => ?_⟩
  let c : Nat → Bool := fun i => (ν i).core.cond
  have hsp := he args hp v hv hfv c
  have hin : inH (roH c hp) = inH hp := by
    funext i
    unfold inH
    rw [look_roH]
    cases Eng.look hp i <;> rfl
  let ν2 : Env := fun i => ⟨(ν i).core, match Eng.look hp i with
    | some (.cells _ _) => (ν i).fp
    | some (.ro _ _) => (ν i).fp
    | _ => fun _ => False⟩
  have hcore : ∀ i, (ν2 i).core = (ν i).core := fun _ => rfl
  have hown : ∀ i b, Eng.look (roH c hp) i = some b → b.owned = false := by
    intro i b e
    rw [look_roH] at e
    obtain ⟨b0, _, rfl⟩ := Option.map_eq_some_iff.1 e
    cases b0 <;> rfl
  have hrel : Rel ν2 (Eng.look (roH c hp)) w := by
    refine ⟨fun i b e => ?_, fun i j bi bj ne ei ej ho => ?_⟩
    · rw [look_roH] at e
      obtain ⟨b0, e0, rfl⟩ := Option.map_eq_some_iff.1 e
      have hd := hr.den i b0 e0
      have hok := (hb i b0 e0).1
      have cell : ∀ {t : TypeId} {l : List V}, (ν2 i).fp = (ν i).fp → okL (inH hp) l = true → ((ν i).core.off = 0 ∧ (∀ k, (ν i).fp k ↔ k = (ν i).core.blk) ∧ w.heap[(ν i).core.blk]? = some (.cells (denL ν l).toArray t (0, 0))) → (Blk.ro t l).den ν2 (ν2 i) w := by
        intro t l hf ho ⟨d1, d2, d3⟩
        refine ⟨d1, fun k => by rw [hf]; exact d2 k, ?_⟩
        rw [show denL ν2 l = denL ν l from denL_congr (ν := ν2) (ν' := ν) (p := inH hp) (fun i _ => hcore i) l ho]
        exact d3
      cases b0 with
      | cells t l => exact cell (by simp [ν2, e0]) hok hd
      | ro t l => exact cell (by simp [ν2, e0]) hok hd
      | leaf b => exact ⟨rfl, fun k => by simp [ν2, e0]⟩
      | lst own t ks l => exact ⟨rfl, fun k => by simp [ν2, e0]⟩
      | dead => exact ⟨rfl, fun k => by simp [ν2, e0]⟩
      | bx t tp tb ks l g x => exact ⟨rfl, fun k => by simp [ν2, e0]⟩
    · rw [hown i bi ei] at ho; cases ho
  have hc := h.calls args (roH c hp) v [] ν2 w (by rw [hin]; exact ha) (fun i b e => by
    rw [hin, roH_length]
    rw [look_roH] at e
    obtain ⟨b0, e0, rfl⟩ := Option.map_eq_some_iff.1 e
    refine ⟨?_, (hb i b0 e0).2⟩
    have := (hb i b0 e0).1
    cases b0 <;> first | exact this | rfl) hrel hsp (by
    unfold outO
    simp only [List.all_nil, Bool.and_true]
    exact V.ok_mono (fun i hi => by cases hi) v hfv)
  have ed : denL ν2 args = denL ν args := denL_congr (ν := ν2) (ν' := ν) (p := inH hp) (fun i _ => hcore i) args ha
  rw [ed] at hc
  refine hc.mono ?_
  rintro e w' ⟨ν', rfl, _, _, _, hprog⟩
  refine ⟨by rw [flat_den hfv ν' nu0], hprog.os, hprog.tape, hprog.output, hprog.size, fun k hk => ?_⟩
  refine hprog.block k hk ?_
  rintro ⟨j, b, e, ho, _⟩
  rw [hown j b e] at ho; cases ho
/-! ### a contract's truths and told numbers in their plainest form -/
def nrm1 : V → V
  | .tt => .s (.bool true)
  | .ff => .s (.bool false)
  | .n k x => .s (.int k x)
  | v => v
def nrmV : V → V
  | .tup l => .tup (l.map nrm1)
  | v => nrm1 v
def nrmB : Blk → Blk
  | .cells t l => .cells t (l.map nrm1)
  | b => b
def nrmH : Heap → Heap
  | [] => []
  | (i, b) :: r => (i, nrmB b) :: nrmH r
theorem nrm1_den (ν : Env) (v : V) : (nrm1 v).den ν = v.den ν := by cases v <;> rfl
theorem nrm1_ok (p : Nat → Bool) (v : V) : (nrm1 v).ok p = v.ok p := by cases v <;> rfl
theorem nrmL_den (ν : Env) : ∀ l : List V, denL ν (l.map nrm1) = denL ν l
  | [] => rfl
  | v :: r => by simp only [List.map_cons, denL, nrm1_den, nrmL_den ν r]
theorem nrmL_ok (p : Nat → Bool) : ∀ l : List V, okL p (l.map nrm1) = okL p l
  | [] => rfl
  | v :: r => by simp only [List.map_cons, okL, nrm1_ok, nrmL_ok p r]
theorem nrmV_den (ν : Env) (v : V) : (nrmV v).den ν = v.den ν := by
  unfold nrmV
  split
  · simp only [V.den, nrmL_den]
  · exact nrm1_den ν _
theorem nrmV_ok (p : Nat → Bool) (v : V) : (nrmV v).ok p = v.ok p := by
  unfold nrmV
  split
  · simp only [V.ok, nrmL_ok]
  · exact nrm1_ok p _
theorem nrmB_owned (b : Blk) : (nrmB b).owned = b.owned := by cases b <;> rfl
theorem nrmB_ok (p : Nat → Bool) (b : Blk) : (nrmB b).ok p = b.ok p := by
  cases b <;> first | rfl | exact nrmL_ok p _
theorem nrmB_den {ν : Env} {σ : Slot} {w : World} (b : Blk) (h : b.den ν σ w) : (nrmB b).den ν σ w := by
  cases b with
  | cells t l => exact ⟨h.1, h.2.1, by rw [nrmL_den]; exact h.2.2⟩
  | _ => exact h
theorem look_nrmH : ∀ {h : Heap} {i : Nat}, look (nrmH h) i = (look h i).map nrmB
  | [], i => rfl
  | (j, b) :: r, i => by
    simp only [nrmH, look]
    by_cases e : (j == i) = true
    · rw [if_pos e, if_pos e]; rfl
    · rw [if_neg e, if_neg e]; exact look_nrmH
theorem inH_nrm {h : Heap} : inH (nrmH h) = inH h := by
  funext i
  unfold inH
  rw [look_nrmH]
  cases look h i <;> rfl
theorem outO_nrm {h h' : Heap} {v : V} : outO h (nrmV v) (nrmH h') = outO h v h' := by
  have e : inO h (nrmH h') = inO h h' := by
    funext j
    unfold inO
    rw [inH_nrm]
  unfold outO
  rw [e, nrmV_ok]
  clear e
  congr 1
  generalize inO h h' = p
  induction h' with
  | nil => rfl
  | cons q r ih =>
    obtain ⟨j, b⟩ := q
    simp only [nrmH, List.all_cons, ih, nrmB_owned, nrmB_ok]
theorem ObjOk.norm {P : Program} {f : Nat} {sp : Obj} (h : ObjOk P f sp) : ObjOk P f (fun args h0 => (sp args h0).bind fun r => .ret (nrmV r.1, nrmH r.2)) := by
  refine ⟨h.body, fun args h0 v h'' ν w hoa hoh hrel hv hout => ?_⟩
  obtain ⟨⟨v0, h'⟩, h1, h2⟩ := T.eval_bind_some hv
  simp only [T.eval, Option.some.injEq, Prod.mk.injEq] at h2
  obtain ⟨rfl, rfl⟩ := h2
  have hout : outO h0 (nrmV v0) (nrmH h') = true := hout
  rw [outO_nrm] at hout
  refine (h.calls args h0 v0 h' ν w hoa hoh hrel h1 hout).mono ?_
  rintro e w' ⟨ν', e1, e2, e3, e4, e5⟩
  refine ⟨ν', by rw [nrmV_den]; exact e1, e2, ⟨fun i b e => ?_, fun i j bi bj ne ei ej ho => ?_⟩, fun i b e => ?_, e5⟩
  · rw [look_nrmH] at e
    obtain ⟨b0, e0, rfl⟩ := Option.map_eq_some_iff.1 e
    exact nrmB_den b0 (e3.den i b0 e0)
  · rw [look_nrmH] at ei ej
    obtain ⟨b0, q0, rfl⟩ := Option.map_eq_some_iff.1 ei
    obtain ⟨b1, q1, rfl⟩ := Option.map_eq_some_iff.1 ej
    rw [nrmB_owned] at ho
    exact e3.dis i j b0 b1 ne q0 q1 ho
  · rw [look_nrmH] at e
    obtain ⟨b0, e0, rfl⟩ := Option.map_eq_some_iff.1 e
    exact e4 i b0 e0
end Go.Eng
