import Derived.WalkMore
import Derived.ScopeJumps
namespace Go.Proofs.YtclbkfpbdidaiaaGreatDoor
set_option linter.unusedVariables false
def fwdQ (P:Program) (c:Code) (Q:Exit→Act→World→Prop):Exit→Act→World→Prop
 | .goto l,a,w=>∃ rest,findLabel c l=some rest∧rest.wp P (Exit.noGoto Q) a w
 | e,a,w=>Q e a w
section
variable {P:Program} {a:Act} {w:World} {Q:Exit→Act→World→Prop} {c:Code}
theorem z7m:fwdQ P c Q .ret a w=Q .ret a w:=rfl
theorem z2y (h:c.wp P (fwdQ P c Q) a w):(Code.scope c).wp P Q a w:=by
 intro b k cs
 obtain⟨e,a₁,w₁,hq,harr⟩:=h b (.inScope c::k) cs
 cases e with
 | normal=>exact⟨.normal,a₁,w₁,hq,.head step_scope (Steps.trans harr (.one step_inScope))⟩
 | exit id=>exact⟨.exit id,a₁,w₁,hq,fun k' hk=>.head step_scope (harr k' (by simp [exitTo,hk]))⟩
 | goto l =>
  obtain⟨rest,hf,hr⟩:=hq
  have hg:gotoIn l (.inScope c::k)=some (.code rest :: .inScope c::k):=by simp [gotoIn,hf]
  obtain⟨e₂,a₂,w₂,hq₂,harr₂⟩:=hr b (.inScope c::k) cs
  have hpre:=harr _ hg
  cases e₂ with
  | normal=>exact⟨.normal,a₂,w₂,hq₂,.head step_scope (Steps.trans hpre (Steps.trans harr₂ (.one step_inScope)))⟩
  | exit id=>exact⟨.exit id,a₂,w₂,hq₂,fun k' hk=>.head step_scope (Steps.trans hpre (harr₂ k' (by simp [exitTo,hk])))⟩
  | goto l=>exact hq₂.elim
  | ret=>exact⟨_,a₂,w₂,hq₂,.of_steps (.head step_scope hpre) harr₂⟩
  | panic ch=>exact⟨_,a₂,w₂,hq₂,.of_steps (.head step_scope hpre) harr₂⟩
  | outgrown=>exact⟨_,a₂,w₂,hq₂,.of_steps (.head step_scope hpre) harr₂⟩
 | ret=>exact⟨_,a₁,w₁,hq,.of_steps (.one step_scope) harr⟩
 | panic ch=>exact⟨_,a₁,w₁,hq,.of_steps (.one step_scope) harr⟩
 | outgrown=>exact⟨_,a₁,w₁,hq,.of_steps (.one step_scope) harr⟩
end
end Go.Proofs.YtclbkfpbdidaiaaGreatDoor
