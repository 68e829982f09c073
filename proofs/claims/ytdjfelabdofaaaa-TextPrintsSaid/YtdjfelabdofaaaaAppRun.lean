import Derived.Laws.AppendOwn
import Derived.Tactics
import Derived.BigFrame
namespace Go
/-- The run of an append, kept whole: a walk that meets it takes what the context says of it. -/
def appRun (P : Program) (ats : Array TypeId) (ty : TypeId) (args : Array Value) (w : World) := (Builtin.append_ ats ty args).run P w
def appB (ats : Array TypeId) (ty : TypeId) (cs : Array Bool) (args : Array Value) := builtin .append ats ty cs args
theorem app_pre (ats : Array TypeId) (ty : TypeId) (cs : Array Bool) (args : Array Value) : builtin .append ats ty cs args = appB ats ty cs args := rfl
theorem app_run (P : Program) (ats : Array TypeId) (ty : TypeId) (cs : Array Bool) (args : Array Value) (w : World) : Sem.run P (appB ats ty cs args) w = (appRun P ats ty args w).andThen fun v w' => .ok (Next.value v) w' := by
  unfold appB appRun
  simp only [BigFrame.builtin_append, Sem.run_bind, Sem.run_pure]
end Go
