/- How a method of the interface value is found. -/
import Derived.Test.YtlfgglmgajcpoaaHm
namespace Go.Proofs.Ytlfgglmgajcpoaa
open Go.RowKit Pl
set_option linter.unusedVariables false

theorem met_val {P : Program} {w : World} {n : Nat} {t e : TypeId} {name : String} {m : Method} {f : FuncId} {c : Nat} {v : Value} (hi : ((P.info? t).bind fun i => i.methods.find? (·.name == name)) = some m) (hp : m.path = #[]) (hf : m.func = some (f, false)) (hu : P.underlying t = some (.pointer e)) (hl : (loadVar e ⟨c, 0, none⟩).run P w = .ok v w) :
    (method (n + 1) t (.pointer (some ⟨c, 0, none⟩)) name).run P w = .ok (f, v) w := by
  obtain ⟨i, hi1, hi2⟩ := Option.bind_eq_some_iff.1 hi
  have hw : ∀ s : String, (Builtin.ssaWrapNilChk_ #[t] t #[.pointer (some ⟨c, 0, none⟩), strVal "", strVal s]).run P w = .ok (.pointer (some ⟨c, 0, none⟩)) w := fun s => rfl
  unfold method
  simp [typeInfo, hi1, hi2, hp, hf, follow, receiverAt, run_underlying hu, Place.get, hw, asAddr, hl]
theorem met_ptr {P : Program} {w : World} {n : Nat} {t e : TypeId} {name : String} {m : Method} {f : FuncId} {v : Value} (hi : ((P.info? t).bind fun i => i.methods.find? (·.name == name)) = some m) (hp : m.path = #[]) (hf : m.func = some (f, true)) (hu : P.underlying t = some (.pointer e)) :
    (method (n + 1) t v name).run P w = .ok (f, v) w := by
  obtain ⟨i, hi1, hi2⟩ := Option.bind_eq_some_iff.1 hi
  unfold method
  simp [typeInfo, hi1, hi2, hp, hf, follow, receiverAt, run_underlying hu, Place.get]

theorem load_stops {w : World} {c : Nat} {v : Value} (h : w.cell? ⟨c, 0, none⟩ = some v) : (loadVar 60 ⟨c, 0, none⟩).run Try.prog w = .ok v w := by
  go_simp
theorem mLen {w : World} {c : Nat} {v : Value} (h : w.cell? ⟨c, 0, none⟩ = some v) : (method 236 62 (.pointer (some ⟨c, 0, none⟩)) "Len").run Try.prog w = .ok (101, v) w :=
  met_val (m := ⟨ "Len", 85, #[], some (101, false)⟩) (by kernel_rfl) rfl rfl Try.underlying62 (load_stops h)
theorem mLess {w : World} {c : Nat} {v : Value} (h : w.cell? ⟨c, 0, none⟩ = some v) : (method 236 62 (.pointer (some ⟨c, 0, none⟩)) "Less").run Try.prog w = .ok (102, v) w :=
  met_val (m := ⟨ "Less", 99, #[], some (102, false)⟩) (by kernel_rfl) rfl rfl Try.underlying62 (load_stops h)
theorem mSwap {w : World} {c : Nat} {v : Value} (h : w.cell? ⟨c, 0, none⟩ = some v) : (method 236 62 (.pointer (some ⟨c, 0, none⟩)) "Swap").run Try.prog w = .ok (103, v) w :=
  met_val (m := ⟨ "Swap", 86, #[], some (103, false)⟩) (by kernel_rfl) rfl rfl Try.underlying62 (load_stops h)
theorem mPush (w : World) (v : Value) : (method 236 62 v "Push").run Try.prog w = .ok (105, v) w :=
  met_ptr (m := ⟨ "Push", 100, #[], some (105, true)⟩) (by kernel_rfl) rfl rfl Try.underlying62
theorem mPop (w : World) (v : Value) : (method 236 62 v "Pop").run Try.prog w = .ok (104, v) w :=
  met_ptr (m := ⟨ "Pop", 88, #[], some (104, true)⟩) (by kernel_rfl) rfl rfl Try.underlying62
end Go.Proofs.Ytlfgglmgajcpoaa
