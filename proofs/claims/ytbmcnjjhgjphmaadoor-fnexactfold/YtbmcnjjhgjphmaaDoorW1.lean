import Derived.Test.YtbmcnjjhgjphmaaDoorW0
namespace Go.Proofs.YtbmcnjjhgjphmaaDoor
set_option linter.unusedVariables false
def lastKind (e : List Nd) : Int := match e[e.length - 1]? with | some n => n.kind | none => 0
/-- A statement's fields, but for the sizes of its blocks. -/
def stmtB (s : St) : Bool :=
  decide (1 ≤ s.kind ∧ s.kind ≤ 8) && (if s.kind ≤ 3 then nameB s.name else s.name.toList == []) && oneB s.e && (if s.kind = 3 then oneB s.f else s.f.length == 0) && (decide (s.kind ≠ 8) || lastKind s.e == 4) && (decide (s.kind = 4 ∨ s.kind = 5) || s.thn == 0) && (decide (s.kind = 4) || s.els == 0)
theorem oneB_pos {l : List Nd} (h : oneB l = true) : 0 < l.length := by
  cases l with
  | nil => simp [oneB, wholeTo] at h
  | cons n r => simp
end Go.Proofs.YtbmcnjjhgjphmaaDoor
