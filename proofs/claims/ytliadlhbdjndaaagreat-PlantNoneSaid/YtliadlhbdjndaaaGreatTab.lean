/-
  The tables of this seat's program, for the runner of closed code.
-/
import Derived.Test.YtliadlhbdjndaaaGreatSx19
import Derived.KernelRfl
import Derived.Test.YtliadlhbdjndaaaGreatProg
namespace Go.Proofs.YtliadlhbdjndaaaGreat
open Go Go.Proofs.YtliadlhbdjndaaaGreat.Sx
def TyOk (p : Nat × Ty) : Prop := (∀ w, (typeInfo p.1).run Tryz.prog w = .ok p.2.info w) ∧ Tryz.prog.underlying p.1 = some p.2.desc ∧ (p.2.plain = true → Tryz.prog.stoodInHeld p.1 = false ∧ Tryz.prog.eqGuardType Tryz.prog.depth p.1 = false ∧ ∀ f ∈ (Tryz.prog.fieldsOf p.1).toList, f.name ≠ "_")
def FnOk (p : Nat × Func) : Prop := Tryz.prog.funcs[p.1]? = some p.2 ∧ ∀ args w, (callFunc p.1 args).run Tryz.prog w = .ok (.enter p.1 args) w
theorem cons_mem {α : Type} {p : α → Prop} {a : α} {l : List α} (h : p a) (k : ∀ x ∈ l, p x) : ∀ x ∈ a :: l, p x := fun x hx => by
  rcases List.mem_cons.1 hx with rfl | hx
  · exact h
  · exact k x hx
theorem nil_mem {α : Type} {p : α → Prop} : ∀ x ∈ ([] : List α), p x := fun x hx => nomatch hx
theorem app_mem {α : Type} {p : α → Prop} {l m : List α} (h : ∀ x ∈ l, p x) (k : ∀ x ∈ m, p x) : ∀ x ∈ l ++ m, p x := fun x hx => (List.mem_append.1 hx).elim (h x) (k x)
theorem plain7 : ∀ f ∈ (Tryz.prog.fieldsOf 7).toList, f.name ≠ "_" := by
  have e : Tryz.prog.fieldsOf 7 = match Tryz.t7.desc with | .struct fs => fs | _ => #[] := by
    unfold Program.fieldsOf; rw [Tryz.underlying7]; rfl
  rw [e]; decide
theorem plain8 : ∀ f ∈ (Tryz.prog.fieldsOf 8).toList, f.name ≠ "_" := by
  have e : Tryz.prog.fieldsOf 8 = match Tryz.t7.desc with | .struct fs => fs | _ => #[] := by
    unfold Program.fieldsOf; rw [Tryz.underlying8]; rfl
  rw [e]; decide
noncomputable def tyL0 : List (Nat × Ty) := [(0, ⟨Tryz.t0, Tryz.t0.desc, false⟩), (1, ⟨Tryz.t1, Tryz.t1.desc, false⟩), (2, ⟨Tryz.t2, Tryz.t2.desc, false⟩), (3, ⟨Tryz.t3, Tryz.t3.desc, false⟩), (4, ⟨Tryz.t4, Tryz.t4.desc, false⟩), (5, ⟨Tryz.t5, Tryz.t5.desc, false⟩), (6, ⟨Tryz.t6, Tryz.t5.desc, false⟩), (7, ⟨Tryz.t7, Tryz.t7.desc, true⟩), (8, ⟨Tryz.t8, Tryz.t7.desc, true⟩), (9, ⟨Tryz.t9, Tryz.t9.desc, false⟩), (10, ⟨Tryz.t10, Tryz.t9.desc, false⟩), (11, ⟨Tryz.t11, Tryz.t9.desc, false⟩), (12, ⟨Tryz.t12, Tryz.t12.desc, false⟩), (13, ⟨Tryz.t13, Tryz.t13.desc, false⟩), (14, ⟨Tryz.t14, Tryz.t13.desc, false⟩), (15, ⟨Tryz.t15, Tryz.t15.desc, false⟩)]
theorem tyL0_ok : ∀ p ∈ tyL0, TyOk p :=
  cons_mem ⟨Tryz.typeInfo0, Tryz.underlying0, fun h => nomatch h⟩ (cons_mem ⟨Tryz.typeInfo1, Tryz.underlying1, fun h => nomatch h⟩ (cons_mem ⟨Tryz.typeInfo2, Tryz.underlying2, fun h => nomatch h⟩ (cons_mem ⟨Tryz.typeInfo3, Tryz.underlying3, fun h => nomatch h⟩ (cons_mem ⟨Tryz.typeInfo4, Tryz.underlying4, fun h => nomatch h⟩ (cons_mem ⟨Tryz.typeInfo5, Tryz.underlying5, fun h => nomatch h⟩ (cons_mem ⟨Tryz.typeInfo6, Tryz.underlying6, fun h => nomatch h⟩ (cons_mem ⟨Tryz.typeInfo7, Tryz.underlying7, fun _ => ⟨Tryz.stoodInHeld7, Tryz.eqGuardType7, plain7⟩⟩ (cons_mem ⟨Tryz.typeInfo8, Tryz.underlying8, fun _ => ⟨Tryz.stoodInHeld8, Tryz.eqGuardType8, plain8⟩⟩ (cons_mem ⟨Tryz.typeInfo9, Tryz.underlying9, fun h => nomatch h⟩ (cons_mem ⟨Tryz.typeInfo10, Tryz.underlying10, fun h => nomatch h⟩ (cons_mem ⟨Tryz.typeInfo11, Tryz.underlying11, fun h => nomatch h⟩ (cons_mem ⟨Tryz.typeInfo12, Tryz.underlying12, fun h => nomatch h⟩ (cons_mem ⟨Tryz.typeInfo13, Tryz.underlying13, fun h => nomatch h⟩ (cons_mem ⟨Tryz.typeInfo14, Tryz.underlying14, fun h => nomatch h⟩ (cons_mem ⟨Tryz.typeInfo15, Tryz.underlying15, fun h => nomatch h⟩ nil_mem)))))))))))))))
theorem plain24 : ∀ f ∈ (Tryz.prog.fieldsOf 24).toList, f.name ≠ "_" := by
  have e : Tryz.prog.fieldsOf 24 = match Tryz.t24.desc with | .struct fs => fs | _ => #[] := by
    unfold Program.fieldsOf; rw [Tryz.underlying24]; rfl
  rw [e]; decide
theorem plain25 : ∀ f ∈ (Tryz.prog.fieldsOf 25).toList, f.name ≠ "_" := by
  have e : Tryz.prog.fieldsOf 25 = match Tryz.t24.desc with | .struct fs => fs | _ => #[] := by
    unfold Program.fieldsOf; rw [Tryz.underlying25]; rfl
  rw [e]; decide
theorem plain27 : ∀ f ∈ (Tryz.prog.fieldsOf 27).toList, f.name ≠ "_" := by
  have e : Tryz.prog.fieldsOf 27 = match Tryz.t27.desc with | .struct fs => fs | _ => #[] := by
    unfold Program.fieldsOf; rw [Tryz.underlying27]; rfl
  rw [e]; decide
theorem plain28 : ∀ f ∈ (Tryz.prog.fieldsOf 28).toList, f.name ≠ "_" := by
  have e : Tryz.prog.fieldsOf 28 = match Tryz.t27.desc with | .struct fs => fs | _ => #[] := by
    unfold Program.fieldsOf; rw [Tryz.underlying28]; rfl
  rw [e]; decide
noncomputable def tyL1 : List (Nat × Ty) := [(16, ⟨Tryz.t16, Tryz.t16.desc, false⟩), (17, ⟨Tryz.t17, Tryz.t17.desc, false⟩), (18, ⟨Tryz.t18, Tryz.t18.desc, false⟩), (19, ⟨Tryz.t19, Tryz.t18.desc, false⟩), (20, ⟨Tryz.t20, Tryz.t20.desc, false⟩), (21, ⟨Tryz.t21, Tryz.t21.desc, false⟩), (22, ⟨Tryz.t22, Tryz.t22.desc, false⟩), (23, ⟨Tryz.t23, Tryz.t23.desc, false⟩), (24, ⟨Tryz.t24, Tryz.t24.desc, true⟩), (25, ⟨Tryz.t25, Tryz.t24.desc, true⟩), (26, ⟨Tryz.t26, Tryz.t26.desc, false⟩), (27, ⟨Tryz.t27, Tryz.t27.desc, true⟩), (28, ⟨Tryz.t28, Tryz.t27.desc, true⟩), (29, ⟨Tryz.t29, Tryz.t29.desc, false⟩), (30, ⟨Tryz.t30, Tryz.t30.desc, false⟩), (31, ⟨Tryz.t31, Tryz.t31.desc, false⟩)]
theorem tyL1_ok : ∀ p ∈ tyL1, TyOk p :=
  cons_mem ⟨Tryz.typeInfo16, Tryz.underlying16, fun h => nomatch h⟩ (cons_mem ⟨Tryz.typeInfo17, Tryz.underlying17, fun h => nomatch h⟩ (cons_mem ⟨Tryz.typeInfo18, Tryz.underlying18, fun h => nomatch h⟩ (cons_mem ⟨Tryz.typeInfo19, Tryz.underlying19, fun h => nomatch h⟩ (cons_mem ⟨Tryz.typeInfo20, Tryz.underlying20, fun h => nomatch h⟩ (cons_mem ⟨Tryz.typeInfo21, Tryz.underlying21, fun h => nomatch h⟩ (cons_mem ⟨Tryz.typeInfo22, Tryz.underlying22, fun h => nomatch h⟩ (cons_mem ⟨Tryz.typeInfo23, Tryz.underlying23, fun h => nomatch h⟩ (cons_mem ⟨Tryz.typeInfo24, Tryz.underlying24, fun _ => ⟨Tryz.stoodInHeld24, Tryz.eqGuardType24, plain24⟩⟩ (cons_mem ⟨Tryz.typeInfo25, Tryz.underlying25, fun _ => ⟨Tryz.stoodInHeld25, Tryz.eqGuardType25, plain25⟩⟩ (cons_mem ⟨Tryz.typeInfo26, Tryz.underlying26, fun h => nomatch h⟩ (cons_mem ⟨Tryz.typeInfo27, Tryz.underlying27, fun _ => ⟨Tryz.stoodInHeld27, Tryz.eqGuardType27, plain27⟩⟩ (cons_mem ⟨Tryz.typeInfo28, Tryz.underlying28, fun _ => ⟨Tryz.stoodInHeld28, Tryz.eqGuardType28, plain28⟩⟩ (cons_mem ⟨Tryz.typeInfo29, Tryz.underlying29, fun h => nomatch h⟩ (cons_mem ⟨Tryz.typeInfo30, Tryz.underlying30, fun h => nomatch h⟩ (cons_mem ⟨Tryz.typeInfo31, Tryz.underlying31, fun h => nomatch h⟩ nil_mem)))))))))))))))
theorem plain37 : ∀ f ∈ (Tryz.prog.fieldsOf 37).toList, f.name ≠ "_" := by
  have e : Tryz.prog.fieldsOf 37 = match Tryz.t37.desc with | .struct fs => fs | _ => #[] := by
    unfold Program.fieldsOf; rw [Tryz.underlying37]; rfl
  rw [e]; decide
theorem plain38 : ∀ f ∈ (Tryz.prog.fieldsOf 38).toList, f.name ≠ "_" := by
  have e : Tryz.prog.fieldsOf 38 = match Tryz.t37.desc with | .struct fs => fs | _ => #[] := by
    unfold Program.fieldsOf; rw [Tryz.underlying38]; rfl
  rw [e]; decide
theorem plain47 : ∀ f ∈ (Tryz.prog.fieldsOf 47).toList, f.name ≠ "_" := by
  have e : Tryz.prog.fieldsOf 47 = match Tryz.t47.desc with | .struct fs => fs | _ => #[] := by
    unfold Program.fieldsOf; rw [Tryz.underlying47]; rfl
  rw [e]; decide
noncomputable def tyL2 : List (Nat × Ty) := [(32, ⟨Tryz.t32, Tryz.t32.desc, false⟩), (33, ⟨Tryz.t33, Tryz.t33.desc, false⟩), (34, ⟨Tryz.t34, Tryz.t34.desc, false⟩), (35, ⟨Tryz.t35, Tryz.t35.desc, false⟩), (36, ⟨Tryz.t36, Tryz.t36.desc, false⟩), (37, ⟨Tryz.t37, Tryz.t37.desc, true⟩), (38, ⟨Tryz.t38, Tryz.t37.desc, true⟩), (39, ⟨Tryz.t39, Tryz.t39.desc, false⟩), (40, ⟨Tryz.t40, Tryz.t40.desc, false⟩), (41, ⟨Tryz.t41, Tryz.t41.desc, false⟩), (42, ⟨Tryz.t42, Tryz.t42.desc, false⟩), (43, ⟨Tryz.t43, Tryz.t42.desc, false⟩), (44, ⟨Tryz.t44, Tryz.t44.desc, false⟩), (45, ⟨Tryz.t45, Tryz.t45.desc, false⟩), (46, ⟨Tryz.t46, Tryz.t46.desc, false⟩), (47, ⟨Tryz.t47, Tryz.t47.desc, true⟩)]
theorem tyL2_ok : ∀ p ∈ tyL2, TyOk p :=
  cons_mem ⟨Tryz.typeInfo32, Tryz.underlying32, fun h => nomatch h⟩ (cons_mem ⟨Tryz.typeInfo33, Tryz.underlying33, fun h => nomatch h⟩ (cons_mem ⟨Tryz.typeInfo34, Tryz.underlying34, fun h => nomatch h⟩ (cons_mem ⟨Tryz.typeInfo35, Tryz.underlying35, fun h => nomatch h⟩ (cons_mem ⟨Tryz.typeInfo36, Tryz.underlying36, fun h => nomatch h⟩ (cons_mem ⟨Tryz.typeInfo37, Tryz.underlying37, fun _ => ⟨Tryz.stoodInHeld37, Tryz.eqGuardType37, plain37⟩⟩ (cons_mem ⟨Tryz.typeInfo38, Tryz.underlying38, fun _ => ⟨Tryz.stoodInHeld38, Tryz.eqGuardType38, plain38⟩⟩ (cons_mem ⟨Tryz.typeInfo39, Tryz.underlying39, fun h => nomatch h⟩ (cons_mem ⟨Tryz.typeInfo40, Tryz.underlying40, fun h => nomatch h⟩ (cons_mem ⟨Tryz.typeInfo41, Tryz.underlying41, fun h => nomatch h⟩ (cons_mem ⟨Tryz.typeInfo42, Tryz.underlying42, fun h => nomatch h⟩ (cons_mem ⟨Tryz.typeInfo43, Tryz.underlying43, fun h => nomatch h⟩ (cons_mem ⟨Tryz.typeInfo44, Tryz.underlying44, fun h => nomatch h⟩ (cons_mem ⟨Tryz.typeInfo45, Tryz.underlying45, fun h => nomatch h⟩ (cons_mem ⟨Tryz.typeInfo46, Tryz.underlying46, fun h => nomatch h⟩ (cons_mem ⟨Tryz.typeInfo47, Tryz.underlying47, fun _ => ⟨Tryz.stoodInHeld47, Tryz.eqGuardType47, plain47⟩⟩ nil_mem)))))))))))))))
theorem plain48 : ∀ f ∈ (Tryz.prog.fieldsOf 48).toList, f.name ≠ "_" := by
  have e : Tryz.prog.fieldsOf 48 = match Tryz.t47.desc with | .struct fs => fs | _ => #[] := by
    unfold Program.fieldsOf; rw [Tryz.underlying48]; rfl
  rw [e]; decide
theorem plain54 : ∀ f ∈ (Tryz.prog.fieldsOf 54).toList, f.name ≠ "_" := by
  have e : Tryz.prog.fieldsOf 54 = match Tryz.t54.desc with | .struct fs => fs | _ => #[] := by
    unfold Program.fieldsOf; rw [Tryz.underlying54]; rfl
  rw [e]; decide
theorem plain55 : ∀ f ∈ (Tryz.prog.fieldsOf 55).toList, f.name ≠ "_" := by
  have e : Tryz.prog.fieldsOf 55 = match Tryz.t54.desc with | .struct fs => fs | _ => #[] := by
    unfold Program.fieldsOf; rw [Tryz.underlying55]; rfl
  rw [e]; decide
theorem plain58 : ∀ f ∈ (Tryz.prog.fieldsOf 58).toList, f.name ≠ "_" := by
  have e : Tryz.prog.fieldsOf 58 = match Tryz.t58.desc with | .struct fs => fs | _ => #[] := by
    unfold Program.fieldsOf; rw [Tryz.underlying58]; rfl
  rw [e]; decide
theorem plain59 : ∀ f ∈ (Tryz.prog.fieldsOf 59).toList, f.name ≠ "_" := by
  have e : Tryz.prog.fieldsOf 59 = match Tryz.t58.desc with | .struct fs => fs | _ => #[] := by
    unfold Program.fieldsOf; rw [Tryz.underlying59]; rfl
  rw [e]; decide
noncomputable def tyL3 : List (Nat × Ty) := [(48, ⟨Tryz.t48, Tryz.t47.desc, true⟩), (49, ⟨Tryz.t49, Tryz.t49.desc, false⟩), (50, ⟨Tryz.t50, Tryz.t50.desc, false⟩), (51, ⟨Tryz.t51, Tryz.t51.desc, false⟩), (52, ⟨Tryz.t52, Tryz.t52.desc, false⟩), (53, ⟨Tryz.t53, Tryz.t53.desc, false⟩), (54, ⟨Tryz.t54, Tryz.t54.desc, true⟩), (55, ⟨Tryz.t55, Tryz.t54.desc, true⟩), (56, ⟨Tryz.t56, Tryz.t56.desc, false⟩), (57, ⟨Tryz.t57, Tryz.t57.desc, false⟩), (58, ⟨Tryz.t58, Tryz.t58.desc, true⟩), (59, ⟨Tryz.t59, Tryz.t58.desc, true⟩), (60, ⟨Tryz.t60, Tryz.t60.desc, false⟩), (61, ⟨Tryz.t61, Tryz.t61.desc, false⟩), (62, ⟨Tryz.t62, Tryz.t62.desc, false⟩), (63, ⟨Tryz.t63, Tryz.t63.desc, false⟩)]
theorem tyL3_ok : ∀ p ∈ tyL3, TyOk p :=
  cons_mem ⟨Tryz.typeInfo48, Tryz.underlying48, fun _ => ⟨Tryz.stoodInHeld48, Tryz.eqGuardType48, plain48⟩⟩ (cons_mem ⟨Tryz.typeInfo49, Tryz.underlying49, fun h => nomatch h⟩ (cons_mem ⟨Tryz.typeInfo50, Tryz.underlying50, fun h => nomatch h⟩ (cons_mem ⟨Tryz.typeInfo51, Tryz.underlying51, fun h => nomatch h⟩ (cons_mem ⟨Tryz.typeInfo52, Tryz.underlying52, fun h => nomatch h⟩ (cons_mem ⟨Tryz.typeInfo53, Tryz.underlying53, fun h => nomatch h⟩ (cons_mem ⟨Tryz.typeInfo54, Tryz.underlying54, fun _ => ⟨Tryz.stoodInHeld54, Tryz.eqGuardType54, plain54⟩⟩ (cons_mem ⟨Tryz.typeInfo55, Tryz.underlying55, fun _ => ⟨Tryz.stoodInHeld55, Tryz.eqGuardType55, plain55⟩⟩ (cons_mem ⟨Tryz.typeInfo56, Tryz.underlying56, fun h => nomatch h⟩ (cons_mem ⟨Tryz.typeInfo57, Tryz.underlying57, fun h => nomatch h⟩ (cons_mem ⟨Tryz.typeInfo58, Tryz.underlying58, fun _ => ⟨Tryz.stoodInHeld58, Tryz.eqGuardType58, plain58⟩⟩ (cons_mem ⟨Tryz.typeInfo59, Tryz.underlying59, fun _ => ⟨Tryz.stoodInHeld59, Tryz.eqGuardType59, plain59⟩⟩ (cons_mem ⟨Tryz.typeInfo60, Tryz.underlying60, fun h => nomatch h⟩ (cons_mem ⟨Tryz.typeInfo61, Tryz.underlying61, fun h => nomatch h⟩ (cons_mem ⟨Tryz.typeInfo62, Tryz.underlying62, fun h => nomatch h⟩ (cons_mem ⟨Tryz.typeInfo63, Tryz.underlying63, fun h => nomatch h⟩ nil_mem)))))))))))))))
theorem plain66 : ∀ f ∈ (Tryz.prog.fieldsOf 66).toList, f.name ≠ "_" := by
  have e : Tryz.prog.fieldsOf 66 = match Tryz.t66.desc with | .struct fs => fs | _ => #[] := by
    unfold Program.fieldsOf; rw [Tryz.underlying66]; rfl
  rw [e]; decide
theorem plain67 : ∀ f ∈ (Tryz.prog.fieldsOf 67).toList, f.name ≠ "_" := by
  have e : Tryz.prog.fieldsOf 67 = match Tryz.t66.desc with | .struct fs => fs | _ => #[] := by
    unfold Program.fieldsOf; rw [Tryz.underlying67]; rfl
  rw [e]; decide
theorem plain68 : ∀ f ∈ (Tryz.prog.fieldsOf 68).toList, f.name ≠ "_" := by
  have e : Tryz.prog.fieldsOf 68 = match Tryz.t68.desc with | .struct fs => fs | _ => #[] := by
    unfold Program.fieldsOf; rw [Tryz.underlying68]; rfl
  rw [e]; decide
theorem plain69 : ∀ f ∈ (Tryz.prog.fieldsOf 69).toList, f.name ≠ "_" := by
  have e : Tryz.prog.fieldsOf 69 = match Tryz.t68.desc with | .struct fs => fs | _ => #[] := by
    unfold Program.fieldsOf; rw [Tryz.underlying69]; rfl
  rw [e]; decide
theorem plain70 : ∀ f ∈ (Tryz.prog.fieldsOf 70).toList, f.name ≠ "_" := by
  have e : Tryz.prog.fieldsOf 70 = match Tryz.t70.desc with | .struct fs => fs | _ => #[] := by
    unfold Program.fieldsOf; rw [Tryz.underlying70]; rfl
  rw [e]; decide
theorem plain71 : ∀ f ∈ (Tryz.prog.fieldsOf 71).toList, f.name ≠ "_" := by
  have e : Tryz.prog.fieldsOf 71 = match Tryz.t70.desc with | .struct fs => fs | _ => #[] := by
    unfold Program.fieldsOf; rw [Tryz.underlying71]; rfl
  rw [e]; decide
theorem plain75 : ∀ f ∈ (Tryz.prog.fieldsOf 75).toList, f.name ≠ "_" := by
  have e : Tryz.prog.fieldsOf 75 = match Tryz.t75.desc with | .struct fs => fs | _ => #[] := by
    unfold Program.fieldsOf; rw [Tryz.underlying75]; rfl
  rw [e]; decide
theorem plain76 : ∀ f ∈ (Tryz.prog.fieldsOf 76).toList, f.name ≠ "_" := by
  have e : Tryz.prog.fieldsOf 76 = match Tryz.t75.desc with | .struct fs => fs | _ => #[] := by
    unfold Program.fieldsOf; rw [Tryz.underlying76]; rfl
  rw [e]; decide
noncomputable def tyL4 : List (Nat × Ty) := [(64, ⟨Tryz.t64, Tryz.t64.desc, false⟩), (65, ⟨Tryz.t65, Tryz.t65.desc, false⟩), (66, ⟨Tryz.t66, Tryz.t66.desc, true⟩), (67, ⟨Tryz.t67, Tryz.t66.desc, true⟩), (68, ⟨Tryz.t68, Tryz.t68.desc, true⟩), (69, ⟨Tryz.t69, Tryz.t68.desc, true⟩), (70, ⟨Tryz.t70, Tryz.t70.desc, true⟩), (71, ⟨Tryz.t71, Tryz.t70.desc, true⟩), (72, ⟨Tryz.t72, Tryz.t72.desc, false⟩), (73, ⟨Tryz.t73, Tryz.t73.desc, false⟩), (74, ⟨Tryz.t74, Tryz.t74.desc, false⟩), (75, ⟨Tryz.t75, Tryz.t75.desc, true⟩), (76, ⟨Tryz.t76, Tryz.t75.desc, true⟩), (77, ⟨Tryz.t77, Tryz.t77.desc, false⟩), (78, ⟨Tryz.t78, Tryz.t78.desc, false⟩), (79, ⟨Tryz.t79, Tryz.t79.desc, false⟩)]
theorem tyL4_ok : ∀ p ∈ tyL4, TyOk p :=
  cons_mem ⟨Tryz.typeInfo64, Tryz.underlying64, fun h => nomatch h⟩ (cons_mem ⟨Tryz.typeInfo65, Tryz.underlying65, fun h => nomatch h⟩ (cons_mem ⟨Tryz.typeInfo66, Tryz.underlying66, fun _ => ⟨Tryz.stoodInHeld66, Tryz.eqGuardType66, plain66⟩⟩ (cons_mem ⟨Tryz.typeInfo67, Tryz.underlying67, fun _ => ⟨Tryz.stoodInHeld67, Tryz.eqGuardType67, plain67⟩⟩ (cons_mem ⟨Tryz.typeInfo68, Tryz.underlying68, fun _ => ⟨Tryz.stoodInHeld68, Tryz.eqGuardType68, plain68⟩⟩ (cons_mem ⟨Tryz.typeInfo69, Tryz.underlying69, fun _ => ⟨Tryz.stoodInHeld69, Tryz.eqGuardType69, plain69⟩⟩ (cons_mem ⟨Tryz.typeInfo70, Tryz.underlying70, fun _ => ⟨Tryz.stoodInHeld70, Tryz.eqGuardType70, plain70⟩⟩ (cons_mem ⟨Tryz.typeInfo71, Tryz.underlying71, fun _ => ⟨Tryz.stoodInHeld71, Tryz.eqGuardType71, plain71⟩⟩ (cons_mem ⟨Tryz.typeInfo72, Tryz.underlying72, fun h => nomatch h⟩ (cons_mem ⟨Tryz.typeInfo73, Tryz.underlying73, fun h => nomatch h⟩ (cons_mem ⟨Tryz.typeInfo74, Tryz.underlying74, fun h => nomatch h⟩ (cons_mem ⟨Tryz.typeInfo75, Tryz.underlying75, fun _ => ⟨Tryz.stoodInHeld75, Tryz.eqGuardType75, plain75⟩⟩ (cons_mem ⟨Tryz.typeInfo76, Tryz.underlying76, fun _ => ⟨Tryz.stoodInHeld76, Tryz.eqGuardType76, plain76⟩⟩ (cons_mem ⟨Tryz.typeInfo77, Tryz.underlying77, fun h => nomatch h⟩ (cons_mem ⟨Tryz.typeInfo78, Tryz.underlying78, fun h => nomatch h⟩ (cons_mem ⟨Tryz.typeInfo79, Tryz.underlying79, fun h => nomatch h⟩ nil_mem)))))))))))))))
theorem plain80 : ∀ f ∈ (Tryz.prog.fieldsOf 80).toList, f.name ≠ "_" := by
  have e : Tryz.prog.fieldsOf 80 = match Tryz.t80.desc with | .struct fs => fs | _ => #[] := by
    unfold Program.fieldsOf; rw [Tryz.underlying80]; rfl
  rw [e]; decide
theorem plain81 : ∀ f ∈ (Tryz.prog.fieldsOf 81).toList, f.name ≠ "_" := by
  have e : Tryz.prog.fieldsOf 81 = match Tryz.t80.desc with | .struct fs => fs | _ => #[] := by
    unfold Program.fieldsOf; rw [Tryz.underlying81]; rfl
  rw [e]; decide
theorem plain83 : ∀ f ∈ (Tryz.prog.fieldsOf 83).toList, f.name ≠ "_" := by
  have e : Tryz.prog.fieldsOf 83 = match Tryz.t83.desc with | .struct fs => fs | _ => #[] := by
    unfold Program.fieldsOf; rw [Tryz.underlying83]; rfl
  rw [e]; decide
theorem plain84 : ∀ f ∈ (Tryz.prog.fieldsOf 84).toList, f.name ≠ "_" := by
  have e : Tryz.prog.fieldsOf 84 = match Tryz.t83.desc with | .struct fs => fs | _ => #[] := by
    unfold Program.fieldsOf; rw [Tryz.underlying84]; rfl
  rw [e]; decide
theorem plain91 : ∀ f ∈ (Tryz.prog.fieldsOf 91).toList, f.name ≠ "_" := by
  have e : Tryz.prog.fieldsOf 91 = match Tryz.t91.desc with | .struct fs => fs | _ => #[] := by
    unfold Program.fieldsOf; rw [Tryz.underlying91]; rfl
  rw [e]; decide
theorem plain92 : ∀ f ∈ (Tryz.prog.fieldsOf 92).toList, f.name ≠ "_" := by
  have e : Tryz.prog.fieldsOf 92 = match Tryz.t91.desc with | .struct fs => fs | _ => #[] := by
    unfold Program.fieldsOf; rw [Tryz.underlying92]; rfl
  rw [e]; decide
theorem plain93 : ∀ f ∈ (Tryz.prog.fieldsOf 93).toList, f.name ≠ "_" := by
  have e : Tryz.prog.fieldsOf 93 = match Tryz.t93.desc with | .struct fs => fs | _ => #[] := by
    unfold Program.fieldsOf; rw [Tryz.underlying93]; rfl
  rw [e]; decide
theorem plain94 : ∀ f ∈ (Tryz.prog.fieldsOf 94).toList, f.name ≠ "_" := by
  have e : Tryz.prog.fieldsOf 94 = match Tryz.t93.desc with | .struct fs => fs | _ => #[] := by
    unfold Program.fieldsOf; rw [Tryz.underlying94]; rfl
  rw [e]; decide
noncomputable def tyL5 : List (Nat × Ty) := [(80, ⟨Tryz.t80, Tryz.t80.desc, true⟩), (81, ⟨Tryz.t81, Tryz.t80.desc, true⟩), (82, ⟨Tryz.t82, Tryz.t82.desc, false⟩), (83, ⟨Tryz.t83, Tryz.t83.desc, true⟩), (84, ⟨Tryz.t84, Tryz.t83.desc, true⟩), (85, ⟨Tryz.t85, Tryz.t85.desc, false⟩), (86, ⟨Tryz.t86, Tryz.t86.desc, false⟩), (87, ⟨Tryz.t87, Tryz.t87.desc, false⟩), (88, ⟨Tryz.t88, Tryz.t88.desc, false⟩), (89, ⟨Tryz.t89, Tryz.t89.desc, false⟩), (90, ⟨Tryz.t90, Tryz.t90.desc, false⟩), (91, ⟨Tryz.t91, Tryz.t91.desc, true⟩), (92, ⟨Tryz.t92, Tryz.t91.desc, true⟩), (93, ⟨Tryz.t93, Tryz.t93.desc, true⟩), (94, ⟨Tryz.t94, Tryz.t93.desc, true⟩), (95, ⟨Tryz.t95, Tryz.t95.desc, false⟩)]
theorem tyL5_ok : ∀ p ∈ tyL5, TyOk p :=
  cons_mem ⟨Tryz.typeInfo80, Tryz.underlying80, fun _ => ⟨Tryz.stoodInHeld80, Tryz.eqGuardType80, plain80⟩⟩ (cons_mem ⟨Tryz.typeInfo81, Tryz.underlying81, fun _ => ⟨Tryz.stoodInHeld81, Tryz.eqGuardType81, plain81⟩⟩ (cons_mem ⟨Tryz.typeInfo82, Tryz.underlying82, fun h => nomatch h⟩ (cons_mem ⟨Tryz.typeInfo83, Tryz.underlying83, fun _ => ⟨Tryz.stoodInHeld83, Tryz.eqGuardType83, plain83⟩⟩ (cons_mem ⟨Tryz.typeInfo84, Tryz.underlying84, fun _ => ⟨Tryz.stoodInHeld84, Tryz.eqGuardType84, plain84⟩⟩ (cons_mem ⟨Tryz.typeInfo85, Tryz.underlying85, fun h => nomatch h⟩ (cons_mem ⟨Tryz.typeInfo86, Tryz.underlying86, fun h => nomatch h⟩ (cons_mem ⟨Tryz.typeInfo87, Tryz.underlying87, fun h => nomatch h⟩ (cons_mem ⟨Tryz.typeInfo88, Tryz.underlying88, fun h => nomatch h⟩ (cons_mem ⟨Tryz.typeInfo89, Tryz.underlying89, fun h => nomatch h⟩ (cons_mem ⟨Tryz.typeInfo90, Tryz.underlying90, fun h => nomatch h⟩ (cons_mem ⟨Tryz.typeInfo91, Tryz.underlying91, fun _ => ⟨Tryz.stoodInHeld91, Tryz.eqGuardType91, plain91⟩⟩ (cons_mem ⟨Tryz.typeInfo92, Tryz.underlying92, fun _ => ⟨Tryz.stoodInHeld92, Tryz.eqGuardType92, plain92⟩⟩ (cons_mem ⟨Tryz.typeInfo93, Tryz.underlying93, fun _ => ⟨Tryz.stoodInHeld93, Tryz.eqGuardType93, plain93⟩⟩ (cons_mem ⟨Tryz.typeInfo94, Tryz.underlying94, fun _ => ⟨Tryz.stoodInHeld94, Tryz.eqGuardType94, plain94⟩⟩ (cons_mem ⟨Tryz.typeInfo95, Tryz.underlying95, fun h => nomatch h⟩ nil_mem)))))))))))))))
theorem plain105 : ∀ f ∈ (Tryz.prog.fieldsOf 105).toList, f.name ≠ "_" := by
  have e : Tryz.prog.fieldsOf 105 = match Tryz.t105.desc with | .struct fs => fs | _ => #[] := by
    unfold Program.fieldsOf; rw [Tryz.underlying105]; rfl
  rw [e]; decide
theorem plain106 : ∀ f ∈ (Tryz.prog.fieldsOf 106).toList, f.name ≠ "_" := by
  have e : Tryz.prog.fieldsOf 106 = match Tryz.t105.desc with | .struct fs => fs | _ => #[] := by
    unfold Program.fieldsOf; rw [Tryz.underlying106]; rfl
  rw [e]; decide
theorem plain107 : ∀ f ∈ (Tryz.prog.fieldsOf 107).toList, f.name ≠ "_" := by
  have e : Tryz.prog.fieldsOf 107 = match Tryz.t107.desc with | .struct fs => fs | _ => #[] := by
    unfold Program.fieldsOf; rw [Tryz.underlying107]; rfl
  rw [e]; decide
theorem plain108 : ∀ f ∈ (Tryz.prog.fieldsOf 108).toList, f.name ≠ "_" := by
  have e : Tryz.prog.fieldsOf 108 = match Tryz.t107.desc with | .struct fs => fs | _ => #[] := by
    unfold Program.fieldsOf; rw [Tryz.underlying108]; rfl
  rw [e]; decide
noncomputable def tyL6 : List (Nat × Ty) := [(96, ⟨Tryz.t96, Tryz.t96.desc, false⟩), (97, ⟨Tryz.t97, Tryz.t97.desc, false⟩), (98, ⟨Tryz.t98, Tryz.t97.desc, false⟩), (99, ⟨Tryz.t99, Tryz.t99.desc, false⟩), (100, ⟨Tryz.t100, Tryz.t100.desc, false⟩), (101, ⟨Tryz.t101, Tryz.t101.desc, false⟩), (102, ⟨Tryz.t102, Tryz.t102.desc, false⟩), (103, ⟨Tryz.t103, Tryz.t103.desc, false⟩), (104, ⟨Tryz.t104, Tryz.t104.desc, false⟩), (105, ⟨Tryz.t105, Tryz.t105.desc, true⟩), (106, ⟨Tryz.t106, Tryz.t105.desc, true⟩), (107, ⟨Tryz.t107, Tryz.t107.desc, true⟩), (108, ⟨Tryz.t108, Tryz.t107.desc, true⟩), (109, ⟨Tryz.t109, Tryz.t109.desc, false⟩), (110, ⟨Tryz.t110, Tryz.t110.desc, false⟩), (111, ⟨Tryz.t111, Tryz.t111.desc, false⟩)]
theorem tyL6_ok : ∀ p ∈ tyL6, TyOk p :=
  cons_mem ⟨Tryz.typeInfo96, Tryz.underlying96, fun h => nomatch h⟩ (cons_mem ⟨Tryz.typeInfo97, Tryz.underlying97, fun h => nomatch h⟩ (cons_mem ⟨Tryz.typeInfo98, Tryz.underlying98, fun h => nomatch h⟩ (cons_mem ⟨Tryz.typeInfo99, Tryz.underlying99, fun h => nomatch h⟩ (cons_mem ⟨Tryz.typeInfo100, Tryz.underlying100, fun h => nomatch h⟩ (cons_mem ⟨Tryz.typeInfo101, Tryz.underlying101, fun h => nomatch h⟩ (cons_mem ⟨Tryz.typeInfo102, Tryz.underlying102, fun h => nomatch h⟩ (cons_mem ⟨Tryz.typeInfo103, Tryz.underlying103, fun h => nomatch h⟩ (cons_mem ⟨Tryz.typeInfo104, Tryz.underlying104, fun h => nomatch h⟩ (cons_mem ⟨Tryz.typeInfo105, Tryz.underlying105, fun _ => ⟨Tryz.stoodInHeld105, Tryz.eqGuardType105, plain105⟩⟩ (cons_mem ⟨Tryz.typeInfo106, Tryz.underlying106, fun _ => ⟨Tryz.stoodInHeld106, Tryz.eqGuardType106, plain106⟩⟩ (cons_mem ⟨Tryz.typeInfo107, Tryz.underlying107, fun _ => ⟨Tryz.stoodInHeld107, Tryz.eqGuardType107, plain107⟩⟩ (cons_mem ⟨Tryz.typeInfo108, Tryz.underlying108, fun _ => ⟨Tryz.stoodInHeld108, Tryz.eqGuardType108, plain108⟩⟩ (cons_mem ⟨Tryz.typeInfo109, Tryz.underlying109, fun h => nomatch h⟩ (cons_mem ⟨Tryz.typeInfo110, Tryz.underlying110, fun h => nomatch h⟩ (cons_mem ⟨Tryz.typeInfo111, Tryz.underlying111, fun h => nomatch h⟩ nil_mem)))))))))))))))
theorem plain114 : ∀ f ∈ (Tryz.prog.fieldsOf 114).toList, f.name ≠ "_" := by
  have e : Tryz.prog.fieldsOf 114 = match Tryz.t114.desc with | .struct fs => fs | _ => #[] := by
    unfold Program.fieldsOf; rw [Tryz.underlying114]; rfl
  rw [e]; decide
theorem plain115 : ∀ f ∈ (Tryz.prog.fieldsOf 115).toList, f.name ≠ "_" := by
  have e : Tryz.prog.fieldsOf 115 = match Tryz.t114.desc with | .struct fs => fs | _ => #[] := by
    unfold Program.fieldsOf; rw [Tryz.underlying115]; rfl
  rw [e]; decide
theorem plain123 : ∀ f ∈ (Tryz.prog.fieldsOf 123).toList, f.name ≠ "_" := by
  have e : Tryz.prog.fieldsOf 123 = match Tryz.t123.desc with | .struct fs => fs | _ => #[] := by
    unfold Program.fieldsOf; rw [Tryz.underlying123]; rfl
  rw [e]; decide
theorem plain124 : ∀ f ∈ (Tryz.prog.fieldsOf 124).toList, f.name ≠ "_" := by
  have e : Tryz.prog.fieldsOf 124 = match Tryz.t123.desc with | .struct fs => fs | _ => #[] := by
    unfold Program.fieldsOf; rw [Tryz.underlying124]; rfl
  rw [e]; decide
theorem plain125 : ∀ f ∈ (Tryz.prog.fieldsOf 125).toList, f.name ≠ "_" := by
  have e : Tryz.prog.fieldsOf 125 = match Tryz.t125.desc with | .struct fs => fs | _ => #[] := by
    unfold Program.fieldsOf; rw [Tryz.underlying125]; rfl
  rw [e]; decide
theorem plain126 : ∀ f ∈ (Tryz.prog.fieldsOf 126).toList, f.name ≠ "_" := by
  have e : Tryz.prog.fieldsOf 126 = match Tryz.t125.desc with | .struct fs => fs | _ => #[] := by
    unfold Program.fieldsOf; rw [Tryz.underlying126]; rfl
  rw [e]; decide
noncomputable def tyL7 : List (Nat × Ty) := [(112, ⟨Tryz.t112, Tryz.t112.desc, false⟩), (113, ⟨Tryz.t113, Tryz.t113.desc, false⟩), (114, ⟨Tryz.t114, Tryz.t114.desc, true⟩), (115, ⟨Tryz.t115, Tryz.t114.desc, true⟩), (116, ⟨Tryz.t116, Tryz.t116.desc, false⟩), (117, ⟨Tryz.t117, Tryz.t117.desc, false⟩), (118, ⟨Tryz.t118, Tryz.t118.desc, false⟩), (119, ⟨Tryz.t119, Tryz.t119.desc, false⟩), (120, ⟨Tryz.t120, Tryz.t120.desc, false⟩), (121, ⟨Tryz.t121, Tryz.t121.desc, false⟩), (122, ⟨Tryz.t122, Tryz.t122.desc, false⟩), (123, ⟨Tryz.t123, Tryz.t123.desc, true⟩), (124, ⟨Tryz.t124, Tryz.t123.desc, true⟩), (125, ⟨Tryz.t125, Tryz.t125.desc, true⟩), (126, ⟨Tryz.t126, Tryz.t125.desc, true⟩), (127, ⟨Tryz.t127, Tryz.t127.desc, false⟩)]
theorem tyL7_ok : ∀ p ∈ tyL7, TyOk p :=
  cons_mem ⟨Tryz.typeInfo112, Tryz.underlying112, fun h => nomatch h⟩ (cons_mem ⟨Tryz.typeInfo113, Tryz.underlying113, fun h => nomatch h⟩ (cons_mem ⟨Tryz.typeInfo114, Tryz.underlying114, fun _ => ⟨Tryz.stoodInHeld114, Tryz.eqGuardType114, plain114⟩⟩ (cons_mem ⟨Tryz.typeInfo115, Tryz.underlying115, fun _ => ⟨Tryz.stoodInHeld115, Tryz.eqGuardType115, plain115⟩⟩ (cons_mem ⟨Tryz.typeInfo116, Tryz.underlying116, fun h => nomatch h⟩ (cons_mem ⟨Tryz.typeInfo117, Tryz.underlying117, fun h => nomatch h⟩ (cons_mem ⟨Tryz.typeInfo118, Tryz.underlying118, fun h => nomatch h⟩ (cons_mem ⟨Tryz.typeInfo119, Tryz.underlying119, fun h => nomatch h⟩ (cons_mem ⟨Tryz.typeInfo120, Tryz.underlying120, fun h => nomatch h⟩ (cons_mem ⟨Tryz.typeInfo121, Tryz.underlying121, fun h => nomatch h⟩ (cons_mem ⟨Tryz.typeInfo122, Tryz.underlying122, fun h => nomatch h⟩ (cons_mem ⟨Tryz.typeInfo123, Tryz.underlying123, fun _ => ⟨Tryz.stoodInHeld123, Tryz.eqGuardType123, plain123⟩⟩ (cons_mem ⟨Tryz.typeInfo124, Tryz.underlying124, fun _ => ⟨Tryz.stoodInHeld124, Tryz.eqGuardType124, plain124⟩⟩ (cons_mem ⟨Tryz.typeInfo125, Tryz.underlying125, fun _ => ⟨Tryz.stoodInHeld125, Tryz.eqGuardType125, plain125⟩⟩ (cons_mem ⟨Tryz.typeInfo126, Tryz.underlying126, fun _ => ⟨Tryz.stoodInHeld126, Tryz.eqGuardType126, plain126⟩⟩ (cons_mem ⟨Tryz.typeInfo127, Tryz.underlying127, fun h => nomatch h⟩ nil_mem)))))))))))))))
theorem plain131 : ∀ f ∈ (Tryz.prog.fieldsOf 131).toList, f.name ≠ "_" := by
  have e : Tryz.prog.fieldsOf 131 = match Tryz.t131.desc with | .struct fs => fs | _ => #[] := by
    unfold Program.fieldsOf; rw [Tryz.underlying131]; rfl
  rw [e]; decide
theorem plain132 : ∀ f ∈ (Tryz.prog.fieldsOf 132).toList, f.name ≠ "_" := by
  have e : Tryz.prog.fieldsOf 132 = match Tryz.t131.desc with | .struct fs => fs | _ => #[] := by
    unfold Program.fieldsOf; rw [Tryz.underlying132]; rfl
  rw [e]; decide
theorem plain136 : ∀ f ∈ (Tryz.prog.fieldsOf 136).toList, f.name ≠ "_" := by
  have e : Tryz.prog.fieldsOf 136 = match Tryz.t136.desc with | .struct fs => fs | _ => #[] := by
    unfold Program.fieldsOf; rw [Tryz.underlying136]; rfl
  rw [e]; decide
theorem plain137 : ∀ f ∈ (Tryz.prog.fieldsOf 137).toList, f.name ≠ "_" := by
  have e : Tryz.prog.fieldsOf 137 = match Tryz.t136.desc with | .struct fs => fs | _ => #[] := by
    unfold Program.fieldsOf; rw [Tryz.underlying137]; rfl
  rw [e]; decide
noncomputable def tyL8 : List (Nat × Ty) := [(128, ⟨Tryz.t128, Tryz.t128.desc, false⟩), (129, ⟨Tryz.t129, Tryz.t129.desc, false⟩), (130, ⟨Tryz.t130, Tryz.t130.desc, false⟩), (131, ⟨Tryz.t131, Tryz.t131.desc, true⟩), (132, ⟨Tryz.t132, Tryz.t131.desc, true⟩), (133, ⟨Tryz.t133, Tryz.t133.desc, false⟩), (134, ⟨Tryz.t134, Tryz.t134.desc, false⟩), (135, ⟨Tryz.t135, Tryz.t135.desc, false⟩), (136, ⟨Tryz.t136, Tryz.t136.desc, true⟩), (137, ⟨Tryz.t137, Tryz.t136.desc, true⟩), (138, ⟨Tryz.t138, Tryz.t138.desc, false⟩), (139, ⟨Tryz.t139, Tryz.t139.desc, false⟩), (140, ⟨Tryz.t140, Tryz.t140.desc, false⟩), (141, ⟨Tryz.t141, Tryz.t141.desc, false⟩), (142, ⟨Tryz.t142, Tryz.t142.desc, false⟩), (143, ⟨Tryz.t143, Tryz.t143.desc, false⟩)]
theorem tyL8_ok : ∀ p ∈ tyL8, TyOk p :=
  cons_mem ⟨Tryz.typeInfo128, Tryz.underlying128, fun h => nomatch h⟩ (cons_mem ⟨Tryz.typeInfo129, Tryz.underlying129, fun h => nomatch h⟩ (cons_mem ⟨Tryz.typeInfo130, Tryz.underlying130, fun h => nomatch h⟩ (cons_mem ⟨Tryz.typeInfo131, Tryz.underlying131, fun _ => ⟨Tryz.stoodInHeld131, Tryz.eqGuardType131, plain131⟩⟩ (cons_mem ⟨Tryz.typeInfo132, Tryz.underlying132, fun _ => ⟨Tryz.stoodInHeld132, Tryz.eqGuardType132, plain132⟩⟩ (cons_mem ⟨Tryz.typeInfo133, Tryz.underlying133, fun h => nomatch h⟩ (cons_mem ⟨Tryz.typeInfo134, Tryz.underlying134, fun h => nomatch h⟩ (cons_mem ⟨Tryz.typeInfo135, Tryz.underlying135, fun h => nomatch h⟩ (cons_mem ⟨Tryz.typeInfo136, Tryz.underlying136, fun _ => ⟨Tryz.stoodInHeld136, Tryz.eqGuardType136, plain136⟩⟩ (cons_mem ⟨Tryz.typeInfo137, Tryz.underlying137, fun _ => ⟨Tryz.stoodInHeld137, Tryz.eqGuardType137, plain137⟩⟩ (cons_mem ⟨Tryz.typeInfo138, Tryz.underlying138, fun h => nomatch h⟩ (cons_mem ⟨Tryz.typeInfo139, Tryz.underlying139, fun h => nomatch h⟩ (cons_mem ⟨Tryz.typeInfo140, Tryz.underlying140, fun h => nomatch h⟩ (cons_mem ⟨Tryz.typeInfo141, Tryz.underlying141, fun h => nomatch h⟩ (cons_mem ⟨Tryz.typeInfo142, Tryz.underlying142, fun h => nomatch h⟩ (cons_mem ⟨Tryz.typeInfo143, Tryz.underlying143, fun h => nomatch h⟩ nil_mem)))))))))))))))
theorem plain151 : ∀ f ∈ (Tryz.prog.fieldsOf 151).toList, f.name ≠ "_" := by
  have e : Tryz.prog.fieldsOf 151 = match Tryz.t151.desc with | .struct fs => fs | _ => #[] := by
    unfold Program.fieldsOf; rw [Tryz.underlying151]; rfl
  rw [e]; decide
theorem plain152 : ∀ f ∈ (Tryz.prog.fieldsOf 152).toList, f.name ≠ "_" := by
  have e : Tryz.prog.fieldsOf 152 = match Tryz.t151.desc with | .struct fs => fs | _ => #[] := by
    unfold Program.fieldsOf; rw [Tryz.underlying152]; rfl
  rw [e]; decide
noncomputable def tyL9 : List (Nat × Ty) := [(144, ⟨Tryz.t144, Tryz.t144.desc, false⟩), (145, ⟨Tryz.t145, Tryz.t145.desc, false⟩), (146, ⟨Tryz.t146, Tryz.t146.desc, false⟩), (147, ⟨Tryz.t147, Tryz.t147.desc, false⟩), (148, ⟨Tryz.t148, Tryz.t148.desc, false⟩), (149, ⟨Tryz.t149, Tryz.t149.desc, false⟩), (150, ⟨Tryz.t150, Tryz.t150.desc, false⟩), (151, ⟨Tryz.t151, Tryz.t151.desc, true⟩), (152, ⟨Tryz.t152, Tryz.t151.desc, true⟩), (153, ⟨Tryz.t153, Tryz.t153.desc, false⟩), (154, ⟨Tryz.t154, Tryz.t154.desc, false⟩), (155, ⟨Tryz.t155, Tryz.t155.desc, false⟩), (156, ⟨Tryz.t156, Tryz.t156.desc, false⟩), (157, ⟨Tryz.t157, Tryz.t157.desc, false⟩), (158, ⟨Tryz.t158, Tryz.t158.desc, false⟩), (159, ⟨Tryz.t159, Tryz.t159.desc, false⟩)]
theorem tyL9_ok : ∀ p ∈ tyL9, TyOk p :=
  cons_mem ⟨Tryz.typeInfo144, Tryz.underlying144, fun h => nomatch h⟩ (cons_mem ⟨Tryz.typeInfo145, Tryz.underlying145, fun h => nomatch h⟩ (cons_mem ⟨Tryz.typeInfo146, Tryz.underlying146, fun h => nomatch h⟩ (cons_mem ⟨Tryz.typeInfo147, Tryz.underlying147, fun h => nomatch h⟩ (cons_mem ⟨Tryz.typeInfo148, Tryz.underlying148, fun h => nomatch h⟩ (cons_mem ⟨Tryz.typeInfo149, Tryz.underlying149, fun h => nomatch h⟩ (cons_mem ⟨Tryz.typeInfo150, Tryz.underlying150, fun h => nomatch h⟩ (cons_mem ⟨Tryz.typeInfo151, Tryz.underlying151, fun _ => ⟨Tryz.stoodInHeld151, Tryz.eqGuardType151, plain151⟩⟩ (cons_mem ⟨Tryz.typeInfo152, Tryz.underlying152, fun _ => ⟨Tryz.stoodInHeld152, Tryz.eqGuardType152, plain152⟩⟩ (cons_mem ⟨Tryz.typeInfo153, Tryz.underlying153, fun h => nomatch h⟩ (cons_mem ⟨Tryz.typeInfo154, Tryz.underlying154, fun h => nomatch h⟩ (cons_mem ⟨Tryz.typeInfo155, Tryz.underlying155, fun h => nomatch h⟩ (cons_mem ⟨Tryz.typeInfo156, Tryz.underlying156, fun h => nomatch h⟩ (cons_mem ⟨Tryz.typeInfo157, Tryz.underlying157, fun h => nomatch h⟩ (cons_mem ⟨Tryz.typeInfo158, Tryz.underlying158, fun h => nomatch h⟩ (cons_mem ⟨Tryz.typeInfo159, Tryz.underlying159, fun h => nomatch h⟩ nil_mem)))))))))))))))
theorem plain161 : ∀ f ∈ (Tryz.prog.fieldsOf 161).toList, f.name ≠ "_" := by
  have e : Tryz.prog.fieldsOf 161 = match Tryz.t161.desc with | .struct fs => fs | _ => #[] := by
    unfold Program.fieldsOf; rw [Tryz.underlying161]; rfl
  rw [e]; decide
theorem plain162 : ∀ f ∈ (Tryz.prog.fieldsOf 162).toList, f.name ≠ "_" := by
  have e : Tryz.prog.fieldsOf 162 = match Tryz.t161.desc with | .struct fs => fs | _ => #[] := by
    unfold Program.fieldsOf; rw [Tryz.underlying162]; rfl
  rw [e]; decide
theorem plain163 : ∀ f ∈ (Tryz.prog.fieldsOf 163).toList, f.name ≠ "_" := by
  have e : Tryz.prog.fieldsOf 163 = match Tryz.t163.desc with | .struct fs => fs | _ => #[] := by
    unfold Program.fieldsOf; rw [Tryz.underlying163]; rfl
  rw [e]; decide
theorem plain164 : ∀ f ∈ (Tryz.prog.fieldsOf 164).toList, f.name ≠ "_" := by
  have e : Tryz.prog.fieldsOf 164 = match Tryz.t163.desc with | .struct fs => fs | _ => #[] := by
    unfold Program.fieldsOf; rw [Tryz.underlying164]; rfl
  rw [e]; decide
theorem plain173 : ∀ f ∈ (Tryz.prog.fieldsOf 173).toList, f.name ≠ "_" := by
  have e : Tryz.prog.fieldsOf 173 = match Tryz.t173.desc with | .struct fs => fs | _ => #[] := by
    unfold Program.fieldsOf; rw [Tryz.underlying173]; rfl
  rw [e]; decide
theorem plain174 : ∀ f ∈ (Tryz.prog.fieldsOf 174).toList, f.name ≠ "_" := by
  have e : Tryz.prog.fieldsOf 174 = match Tryz.t173.desc with | .struct fs => fs | _ => #[] := by
    unfold Program.fieldsOf; rw [Tryz.underlying174]; rfl
  rw [e]; decide
noncomputable def tyL10 : List (Nat × Ty) := [(160, ⟨Tryz.t160, Tryz.t160.desc, false⟩), (161, ⟨Tryz.t161, Tryz.t161.desc, true⟩), (162, ⟨Tryz.t162, Tryz.t161.desc, true⟩), (163, ⟨Tryz.t163, Tryz.t163.desc, true⟩), (164, ⟨Tryz.t164, Tryz.t163.desc, true⟩), (165, ⟨Tryz.t165, Tryz.t165.desc, false⟩), (166, ⟨Tryz.t166, Tryz.t166.desc, false⟩), (167, ⟨Tryz.t167, Tryz.t167.desc, false⟩), (168, ⟨Tryz.t168, Tryz.t167.desc, false⟩), (169, ⟨Tryz.t169, Tryz.t169.desc, false⟩), (170, ⟨Tryz.t170, Tryz.t170.desc, false⟩), (171, ⟨Tryz.t171, Tryz.t171.desc, false⟩), (172, ⟨Tryz.t172, Tryz.t172.desc, false⟩), (173, ⟨Tryz.t173, Tryz.t173.desc, true⟩), (174, ⟨Tryz.t174, Tryz.t173.desc, true⟩), (175, ⟨Tryz.t175, Tryz.t175.desc, false⟩)]
theorem tyL10_ok : ∀ p ∈ tyL10, TyOk p :=
  cons_mem ⟨Tryz.typeInfo160, Tryz.underlying160, fun h => nomatch h⟩ (cons_mem ⟨Tryz.typeInfo161, Tryz.underlying161, fun _ => ⟨Tryz.stoodInHeld161, Tryz.eqGuardType161, plain161⟩⟩ (cons_mem ⟨Tryz.typeInfo162, Tryz.underlying162, fun _ => ⟨Tryz.stoodInHeld162, Tryz.eqGuardType162, plain162⟩⟩ (cons_mem ⟨Tryz.typeInfo163, Tryz.underlying163, fun _ => ⟨Tryz.stoodInHeld163, Tryz.eqGuardType163, plain163⟩⟩ (cons_mem ⟨Tryz.typeInfo164, Tryz.underlying164, fun _ => ⟨Tryz.stoodInHeld164, Tryz.eqGuardType164, plain164⟩⟩ (cons_mem ⟨Tryz.typeInfo165, Tryz.underlying165, fun h => nomatch h⟩ (cons_mem ⟨Tryz.typeInfo166, Tryz.underlying166, fun h => nomatch h⟩ (cons_mem ⟨Tryz.typeInfo167, Tryz.underlying167, fun h => nomatch h⟩ (cons_mem ⟨Tryz.typeInfo168, Tryz.underlying168, fun h => nomatch h⟩ (cons_mem ⟨Tryz.typeInfo169, Tryz.underlying169, fun h => nomatch h⟩ (cons_mem ⟨Tryz.typeInfo170, Tryz.underlying170, fun h => nomatch h⟩ (cons_mem ⟨Tryz.typeInfo171, Tryz.underlying171, fun h => nomatch h⟩ (cons_mem ⟨Tryz.typeInfo172, Tryz.underlying172, fun h => nomatch h⟩ (cons_mem ⟨Tryz.typeInfo173, Tryz.underlying173, fun _ => ⟨Tryz.stoodInHeld173, Tryz.eqGuardType173, plain173⟩⟩ (cons_mem ⟨Tryz.typeInfo174, Tryz.underlying174, fun _ => ⟨Tryz.stoodInHeld174, Tryz.eqGuardType174, plain174⟩⟩ (cons_mem ⟨Tryz.typeInfo175, Tryz.underlying175, fun h => nomatch h⟩ nil_mem)))))))))))))))
theorem plain188 : ∀ f ∈ (Tryz.prog.fieldsOf 188).toList, f.name ≠ "_" := by
  have e : Tryz.prog.fieldsOf 188 = match Tryz.t188.desc with | .struct fs => fs | _ => #[] := by
    unfold Program.fieldsOf; rw [Tryz.underlying188]; rfl
  rw [e]; decide
theorem plain189 : ∀ f ∈ (Tryz.prog.fieldsOf 189).toList, f.name ≠ "_" := by
  have e : Tryz.prog.fieldsOf 189 = match Tryz.t188.desc with | .struct fs => fs | _ => #[] := by
    unfold Program.fieldsOf; rw [Tryz.underlying189]; rfl
  rw [e]; decide
theorem plain191 : ∀ f ∈ (Tryz.prog.fieldsOf 191).toList, f.name ≠ "_" := by
  have e : Tryz.prog.fieldsOf 191 = match Tryz.t191.desc with | .struct fs => fs | _ => #[] := by
    unfold Program.fieldsOf; rw [Tryz.underlying191]; rfl
  rw [e]; decide
noncomputable def tyL11 : List (Nat × Ty) := [(176, ⟨Tryz.t176, Tryz.t176.desc, false⟩), (177, ⟨Tryz.t177, Tryz.t177.desc, false⟩), (178, ⟨Tryz.t178, Tryz.t178.desc, false⟩), (179, ⟨Tryz.t179, Tryz.t179.desc, false⟩), (180, ⟨Tryz.t180, Tryz.t180.desc, false⟩), (181, ⟨Tryz.t181, Tryz.t181.desc, false⟩), (182, ⟨Tryz.t182, Tryz.t182.desc, false⟩), (183, ⟨Tryz.t183, Tryz.t183.desc, false⟩), (184, ⟨Tryz.t184, Tryz.t184.desc, false⟩), (185, ⟨Tryz.t185, Tryz.t185.desc, false⟩), (186, ⟨Tryz.t186, Tryz.t186.desc, false⟩), (187, ⟨Tryz.t187, Tryz.t187.desc, false⟩), (188, ⟨Tryz.t188, Tryz.t188.desc, true⟩), (189, ⟨Tryz.t189, Tryz.t188.desc, true⟩), (190, ⟨Tryz.t190, Tryz.t190.desc, false⟩), (191, ⟨Tryz.t191, Tryz.t191.desc, true⟩)]
theorem tyL11_ok : ∀ p ∈ tyL11, TyOk p :=
  cons_mem ⟨Tryz.typeInfo176, Tryz.underlying176, fun h => nomatch h⟩ (cons_mem ⟨Tryz.typeInfo177, Tryz.underlying177, fun h => nomatch h⟩ (cons_mem ⟨Tryz.typeInfo178, Tryz.underlying178, fun h => nomatch h⟩ (cons_mem ⟨Tryz.typeInfo179, Tryz.underlying179, fun h => nomatch h⟩ (cons_mem ⟨Tryz.typeInfo180, Tryz.underlying180, fun h => nomatch h⟩ (cons_mem ⟨Tryz.typeInfo181, Tryz.underlying181, fun h => nomatch h⟩ (cons_mem ⟨Tryz.typeInfo182, Tryz.underlying182, fun h => nomatch h⟩ (cons_mem ⟨Tryz.typeInfo183, Tryz.underlying183, fun h => nomatch h⟩ (cons_mem ⟨Tryz.typeInfo184, Tryz.underlying184, fun h => nomatch h⟩ (cons_mem ⟨Tryz.typeInfo185, Tryz.underlying185, fun h => nomatch h⟩ (cons_mem ⟨Tryz.typeInfo186, Tryz.underlying186, fun h => nomatch h⟩ (cons_mem ⟨Tryz.typeInfo187, Tryz.underlying187, fun h => nomatch h⟩ (cons_mem ⟨Tryz.typeInfo188, Tryz.underlying188, fun _ => ⟨Tryz.stoodInHeld188, Tryz.eqGuardType188, plain188⟩⟩ (cons_mem ⟨Tryz.typeInfo189, Tryz.underlying189, fun _ => ⟨Tryz.stoodInHeld189, Tryz.eqGuardType189, plain189⟩⟩ (cons_mem ⟨Tryz.typeInfo190, Tryz.underlying190, fun h => nomatch h⟩ (cons_mem ⟨Tryz.typeInfo191, Tryz.underlying191, fun _ => ⟨Tryz.stoodInHeld191, Tryz.eqGuardType191, plain191⟩⟩ nil_mem)))))))))))))))
theorem plain192 : ∀ f ∈ (Tryz.prog.fieldsOf 192).toList, f.name ≠ "_" := by
  have e : Tryz.prog.fieldsOf 192 = match Tryz.t191.desc with | .struct fs => fs | _ => #[] := by
    unfold Program.fieldsOf; rw [Tryz.underlying192]; rfl
  rw [e]; decide
noncomputable def tyL12 : List (Nat × Ty) := [(192, ⟨Tryz.t192, Tryz.t191.desc, true⟩), (193, ⟨Tryz.t193, Tryz.t193.desc, false⟩), (194, ⟨Tryz.t194, Tryz.t194.desc, false⟩), (195, ⟨Tryz.t195, Tryz.t195.desc, false⟩), (196, ⟨Tryz.t196, Tryz.t196.desc, false⟩), (197, ⟨Tryz.t197, Tryz.t197.desc, false⟩), (198, ⟨Tryz.t198, Tryz.t198.desc, false⟩), (199, ⟨Tryz.t199, Tryz.t199.desc, false⟩), (200, ⟨Tryz.t200, Tryz.t200.desc, false⟩), (201, ⟨Tryz.t201, Tryz.t201.desc, false⟩), (202, ⟨Tryz.t202, Tryz.t202.desc, false⟩), (203, ⟨Tryz.t203, Tryz.t203.desc, false⟩), (204, ⟨Tryz.t204, Tryz.t204.desc, false⟩), (205, ⟨Tryz.t205, Tryz.t205.desc, false⟩), (206, ⟨Tryz.t206, Tryz.t206.desc, false⟩), (207, ⟨Tryz.t207, Tryz.t207.desc, false⟩)]
theorem tyL12_ok : ∀ p ∈ tyL12, TyOk p :=
  cons_mem ⟨Tryz.typeInfo192, Tryz.underlying192, fun _ => ⟨Tryz.stoodInHeld192, Tryz.eqGuardType192, plain192⟩⟩ (cons_mem ⟨Tryz.typeInfo193, Tryz.underlying193, fun h => nomatch h⟩ (cons_mem ⟨Tryz.typeInfo194, Tryz.underlying194, fun h => nomatch h⟩ (cons_mem ⟨Tryz.typeInfo195, Tryz.underlying195, fun h => nomatch h⟩ (cons_mem ⟨Tryz.typeInfo196, Tryz.underlying196, fun h => nomatch h⟩ (cons_mem ⟨Tryz.typeInfo197, Tryz.underlying197, fun h => nomatch h⟩ (cons_mem ⟨Tryz.typeInfo198, Tryz.underlying198, fun h => nomatch h⟩ (cons_mem ⟨Tryz.typeInfo199, Tryz.underlying199, fun h => nomatch h⟩ (cons_mem ⟨Tryz.typeInfo200, Tryz.underlying200, fun h => nomatch h⟩ (cons_mem ⟨Tryz.typeInfo201, Tryz.underlying201, fun h => nomatch h⟩ (cons_mem ⟨Tryz.typeInfo202, Tryz.underlying202, fun h => nomatch h⟩ (cons_mem ⟨Tryz.typeInfo203, Tryz.underlying203, fun h => nomatch h⟩ (cons_mem ⟨Tryz.typeInfo204, Tryz.underlying204, fun h => nomatch h⟩ (cons_mem ⟨Tryz.typeInfo205, Tryz.underlying205, fun h => nomatch h⟩ (cons_mem ⟨Tryz.typeInfo206, Tryz.underlying206, fun h => nomatch h⟩ (cons_mem ⟨Tryz.typeInfo207, Tryz.underlying207, fun h => nomatch h⟩ nil_mem)))))))))))))))
theorem plain221 : ∀ f ∈ (Tryz.prog.fieldsOf 221).toList, f.name ≠ "_" := by
  have e : Tryz.prog.fieldsOf 221 = match Tryz.t221.desc with | .struct fs => fs | _ => #[] := by
    unfold Program.fieldsOf; rw [Tryz.underlying221]; rfl
  rw [e]; decide
theorem plain222 : ∀ f ∈ (Tryz.prog.fieldsOf 222).toList, f.name ≠ "_" := by
  have e : Tryz.prog.fieldsOf 222 = match Tryz.t221.desc with | .struct fs => fs | _ => #[] := by
    unfold Program.fieldsOf; rw [Tryz.underlying222]; rfl
  rw [e]; decide
noncomputable def tyL13 : List (Nat × Ty) := [(208, ⟨Tryz.t208, Tryz.t208.desc, false⟩), (209, ⟨Tryz.t209, Tryz.t209.desc, false⟩), (210, ⟨Tryz.t210, Tryz.t210.desc, false⟩), (211, ⟨Tryz.t211, Tryz.t211.desc, false⟩), (212, ⟨Tryz.t212, Tryz.t212.desc, false⟩), (213, ⟨Tryz.t213, Tryz.t213.desc, false⟩), (214, ⟨Tryz.t214, Tryz.t214.desc, false⟩), (215, ⟨Tryz.t215, Tryz.t215.desc, false⟩), (216, ⟨Tryz.t216, Tryz.t216.desc, false⟩), (217, ⟨Tryz.t217, Tryz.t217.desc, false⟩), (218, ⟨Tryz.t218, Tryz.t218.desc, false⟩), (219, ⟨Tryz.t219, Tryz.t219.desc, false⟩), (220, ⟨Tryz.t220, Tryz.t220.desc, false⟩), (221, ⟨Tryz.t221, Tryz.t221.desc, true⟩), (222, ⟨Tryz.t222, Tryz.t221.desc, true⟩), (223, ⟨Tryz.t223, Tryz.t223.desc, false⟩)]
theorem tyL13_ok : ∀ p ∈ tyL13, TyOk p :=
  cons_mem ⟨Tryz.typeInfo208, Tryz.underlying208, fun h => nomatch h⟩ (cons_mem ⟨Tryz.typeInfo209, Tryz.underlying209, fun h => nomatch h⟩ (cons_mem ⟨Tryz.typeInfo210, Tryz.underlying210, fun h => nomatch h⟩ (cons_mem ⟨Tryz.typeInfo211, Tryz.underlying211, fun h => nomatch h⟩ (cons_mem ⟨Tryz.typeInfo212, Tryz.underlying212, fun h => nomatch h⟩ (cons_mem ⟨Tryz.typeInfo213, Tryz.underlying213, fun h => nomatch h⟩ (cons_mem ⟨Tryz.typeInfo214, Tryz.underlying214, fun h => nomatch h⟩ (cons_mem ⟨Tryz.typeInfo215, Tryz.underlying215, fun h => nomatch h⟩ (cons_mem ⟨Tryz.typeInfo216, Tryz.underlying216, fun h => nomatch h⟩ (cons_mem ⟨Tryz.typeInfo217, Tryz.underlying217, fun h => nomatch h⟩ (cons_mem ⟨Tryz.typeInfo218, Tryz.underlying218, fun h => nomatch h⟩ (cons_mem ⟨Tryz.typeInfo219, Tryz.underlying219, fun h => nomatch h⟩ (cons_mem ⟨Tryz.typeInfo220, Tryz.underlying220, fun h => nomatch h⟩ (cons_mem ⟨Tryz.typeInfo221, Tryz.underlying221, fun _ => ⟨Tryz.stoodInHeld221, Tryz.eqGuardType221, plain221⟩⟩ (cons_mem ⟨Tryz.typeInfo222, Tryz.underlying222, fun _ => ⟨Tryz.stoodInHeld222, Tryz.eqGuardType222, plain222⟩⟩ (cons_mem ⟨Tryz.typeInfo223, Tryz.underlying223, fun h => nomatch h⟩ nil_mem)))))))))))))))
theorem plain225 : ∀ f ∈ (Tryz.prog.fieldsOf 225).toList, f.name ≠ "_" := by
  have e : Tryz.prog.fieldsOf 225 = match Tryz.t225.desc with | .struct fs => fs | _ => #[] := by
    unfold Program.fieldsOf; rw [Tryz.underlying225]; rfl
  rw [e]; decide
theorem plain226 : ∀ f ∈ (Tryz.prog.fieldsOf 226).toList, f.name ≠ "_" := by
  have e : Tryz.prog.fieldsOf 226 = match Tryz.t225.desc with | .struct fs => fs | _ => #[] := by
    unfold Program.fieldsOf; rw [Tryz.underlying226]; rfl
  rw [e]; decide
noncomputable def tyL14 : List (Nat × Ty) := [(224, ⟨Tryz.t224, Tryz.t224.desc, false⟩), (225, ⟨Tryz.t225, Tryz.t225.desc, true⟩), (226, ⟨Tryz.t226, Tryz.t225.desc, true⟩), (227, ⟨Tryz.t227, Tryz.t227.desc, false⟩), (228, ⟨Tryz.t228, Tryz.t228.desc, false⟩), (229, ⟨Tryz.t229, Tryz.t229.desc, false⟩), (230, ⟨Tryz.t230, Tryz.t230.desc, false⟩), (231, ⟨Tryz.t231, Tryz.t231.desc, false⟩), (232, ⟨Tryz.t232, Tryz.t232.desc, false⟩), (233, ⟨Tryz.t233, Tryz.t233.desc, false⟩), (234, ⟨Tryz.t234, Tryz.t234.desc, false⟩), (235, ⟨Tryz.t235, Tryz.t235.desc, false⟩), (236, ⟨Tryz.t236, Tryz.t236.desc, false⟩), (237, ⟨Tryz.t237, Tryz.t237.desc, false⟩), (238, ⟨Tryz.t238, Tryz.t238.desc, false⟩), (239, ⟨Tryz.t239, Tryz.t238.desc, false⟩)]
theorem tyL14_ok : ∀ p ∈ tyL14, TyOk p :=
  cons_mem ⟨Tryz.typeInfo224, Tryz.underlying224, fun h => nomatch h⟩ (cons_mem ⟨Tryz.typeInfo225, Tryz.underlying225, fun _ => ⟨Tryz.stoodInHeld225, Tryz.eqGuardType225, plain225⟩⟩ (cons_mem ⟨Tryz.typeInfo226, Tryz.underlying226, fun _ => ⟨Tryz.stoodInHeld226, Tryz.eqGuardType226, plain226⟩⟩ (cons_mem ⟨Tryz.typeInfo227, Tryz.underlying227, fun h => nomatch h⟩ (cons_mem ⟨Tryz.typeInfo228, Tryz.underlying228, fun h => nomatch h⟩ (cons_mem ⟨Tryz.typeInfo229, Tryz.underlying229, fun h => nomatch h⟩ (cons_mem ⟨Tryz.typeInfo230, Tryz.underlying230, fun h => nomatch h⟩ (cons_mem ⟨Tryz.typeInfo231, Tryz.underlying231, fun h => nomatch h⟩ (cons_mem ⟨Tryz.typeInfo232, Tryz.underlying232, fun h => nomatch h⟩ (cons_mem ⟨Tryz.typeInfo233, Tryz.underlying233, fun h => nomatch h⟩ (cons_mem ⟨Tryz.typeInfo234, Tryz.underlying234, fun h => nomatch h⟩ (cons_mem ⟨Tryz.typeInfo235, Tryz.underlying235, fun h => nomatch h⟩ (cons_mem ⟨Tryz.typeInfo236, Tryz.underlying236, fun h => nomatch h⟩ (cons_mem ⟨Tryz.typeInfo237, Tryz.underlying237, fun h => nomatch h⟩ (cons_mem ⟨Tryz.typeInfo238, Tryz.underlying238, fun h => nomatch h⟩ (cons_mem ⟨Tryz.typeInfo239, Tryz.underlying239, fun h => nomatch h⟩ nil_mem)))))))))))))))
theorem plain242 : ∀ f ∈ (Tryz.prog.fieldsOf 242).toList, f.name ≠ "_" := by
  have e : Tryz.prog.fieldsOf 242 = match Tryz.t242.desc with | .struct fs => fs | _ => #[] := by
    unfold Program.fieldsOf; rw [Tryz.underlying242]; rfl
  rw [e]; decide
theorem plain243 : ∀ f ∈ (Tryz.prog.fieldsOf 243).toList, f.name ≠ "_" := by
  have e : Tryz.prog.fieldsOf 243 = match Tryz.t242.desc with | .struct fs => fs | _ => #[] := by
    unfold Program.fieldsOf; rw [Tryz.underlying243]; rfl
  rw [e]; decide
theorem plain251 : ∀ f ∈ (Tryz.prog.fieldsOf 251).toList, f.name ≠ "_" := by
  have e : Tryz.prog.fieldsOf 251 = match Tryz.t251.desc with | .struct fs => fs | _ => #[] := by
    unfold Program.fieldsOf; rw [Tryz.underlying251]; rfl
  rw [e]; decide
theorem plain252 : ∀ f ∈ (Tryz.prog.fieldsOf 252).toList, f.name ≠ "_" := by
  have e : Tryz.prog.fieldsOf 252 = match Tryz.t251.desc with | .struct fs => fs | _ => #[] := by
    unfold Program.fieldsOf; rw [Tryz.underlying252]; rfl
  rw [e]; decide
theorem plain253 : ∀ f ∈ (Tryz.prog.fieldsOf 253).toList, f.name ≠ "_" := by
  have e : Tryz.prog.fieldsOf 253 = match Tryz.t253.desc with | .struct fs => fs | _ => #[] := by
    unfold Program.fieldsOf; rw [Tryz.underlying253]; rfl
  rw [e]; decide
theorem plain254 : ∀ f ∈ (Tryz.prog.fieldsOf 254).toList, f.name ≠ "_" := by
  have e : Tryz.prog.fieldsOf 254 = match Tryz.t253.desc with | .struct fs => fs | _ => #[] := by
    unfold Program.fieldsOf; rw [Tryz.underlying254]; rfl
  rw [e]; decide
noncomputable def tyL15 : List (Nat × Ty) := [(240, ⟨Tryz.t240, Tryz.t240.desc, false⟩), (241, ⟨Tryz.t241, Tryz.t241.desc, false⟩), (242, ⟨Tryz.t242, Tryz.t242.desc, true⟩), (243, ⟨Tryz.t243, Tryz.t242.desc, true⟩), (244, ⟨Tryz.t244, Tryz.t244.desc, false⟩), (245, ⟨Tryz.t245, Tryz.t245.desc, false⟩), (246, ⟨Tryz.t246, Tryz.t246.desc, false⟩), (247, ⟨Tryz.t247, Tryz.t247.desc, false⟩), (248, ⟨Tryz.t248, Tryz.t248.desc, false⟩), (249, ⟨Tryz.t249, Tryz.t249.desc, false⟩), (250, ⟨Tryz.t250, Tryz.t250.desc, false⟩), (251, ⟨Tryz.t251, Tryz.t251.desc, true⟩), (252, ⟨Tryz.t252, Tryz.t251.desc, true⟩), (253, ⟨Tryz.t253, Tryz.t253.desc, true⟩), (254, ⟨Tryz.t254, Tryz.t253.desc, true⟩), (255, ⟨Tryz.t255, Tryz.t255.desc, false⟩)]
theorem tyL15_ok : ∀ p ∈ tyL15, TyOk p :=
  cons_mem ⟨Tryz.typeInfo240, Tryz.underlying240, fun h => nomatch h⟩ (cons_mem ⟨Tryz.typeInfo241, Tryz.underlying241, fun h => nomatch h⟩ (cons_mem ⟨Tryz.typeInfo242, Tryz.underlying242, fun _ => ⟨Tryz.stoodInHeld242, Tryz.eqGuardType242, plain242⟩⟩ (cons_mem ⟨Tryz.typeInfo243, Tryz.underlying243, fun _ => ⟨Tryz.stoodInHeld243, Tryz.eqGuardType243, plain243⟩⟩ (cons_mem ⟨Tryz.typeInfo244, Tryz.underlying244, fun h => nomatch h⟩ (cons_mem ⟨Tryz.typeInfo245, Tryz.underlying245, fun h => nomatch h⟩ (cons_mem ⟨Tryz.typeInfo246, Tryz.underlying246, fun h => nomatch h⟩ (cons_mem ⟨Tryz.typeInfo247, Tryz.underlying247, fun h => nomatch h⟩ (cons_mem ⟨Tryz.typeInfo248, Tryz.underlying248, fun h => nomatch h⟩ (cons_mem ⟨Tryz.typeInfo249, Tryz.underlying249, fun h => nomatch h⟩ (cons_mem ⟨Tryz.typeInfo250, Tryz.underlying250, fun h => nomatch h⟩ (cons_mem ⟨Tryz.typeInfo251, Tryz.underlying251, fun _ => ⟨Tryz.stoodInHeld251, Tryz.eqGuardType251, plain251⟩⟩ (cons_mem ⟨Tryz.typeInfo252, Tryz.underlying252, fun _ => ⟨Tryz.stoodInHeld252, Tryz.eqGuardType252, plain252⟩⟩ (cons_mem ⟨Tryz.typeInfo253, Tryz.underlying253, fun _ => ⟨Tryz.stoodInHeld253, Tryz.eqGuardType253, plain253⟩⟩ (cons_mem ⟨Tryz.typeInfo254, Tryz.underlying254, fun _ => ⟨Tryz.stoodInHeld254, Tryz.eqGuardType254, plain254⟩⟩ (cons_mem ⟨Tryz.typeInfo255, Tryz.underlying255, fun h => nomatch h⟩ nil_mem)))))))))))))))
theorem plain260 : ∀ f ∈ (Tryz.prog.fieldsOf 260).toList, f.name ≠ "_" := by
  have e : Tryz.prog.fieldsOf 260 = match Tryz.t260.desc with | .struct fs => fs | _ => #[] := by
    unfold Program.fieldsOf; rw [Tryz.underlying260]; rfl
  rw [e]; decide
theorem plain261 : ∀ f ∈ (Tryz.prog.fieldsOf 261).toList, f.name ≠ "_" := by
  have e : Tryz.prog.fieldsOf 261 = match Tryz.t260.desc with | .struct fs => fs | _ => #[] := by
    unfold Program.fieldsOf; rw [Tryz.underlying261]; rfl
  rw [e]; decide
theorem plain268 : ∀ f ∈ (Tryz.prog.fieldsOf 268).toList, f.name ≠ "_" := by
  have e : Tryz.prog.fieldsOf 268 = match Tryz.t268.desc with | .struct fs => fs | _ => #[] := by
    unfold Program.fieldsOf; rw [Tryz.underlying268]; rfl
  rw [e]; decide
theorem plain269 : ∀ f ∈ (Tryz.prog.fieldsOf 269).toList, f.name ≠ "_" := by
  have e : Tryz.prog.fieldsOf 269 = match Tryz.t268.desc with | .struct fs => fs | _ => #[] := by
    unfold Program.fieldsOf; rw [Tryz.underlying269]; rfl
  rw [e]; decide
noncomputable def tyL16 : List (Nat × Ty) := [(256, ⟨Tryz.t256, Tryz.t256.desc, false⟩), (257, ⟨Tryz.t257, Tryz.t257.desc, false⟩), (258, ⟨Tryz.t258, Tryz.t258.desc, false⟩), (259, ⟨Tryz.t259, Tryz.t259.desc, false⟩), (260, ⟨Tryz.t260, Tryz.t260.desc, true⟩), (261, ⟨Tryz.t261, Tryz.t260.desc, true⟩), (262, ⟨Tryz.t262, Tryz.t262.desc, false⟩), (263, ⟨Tryz.t263, Tryz.t263.desc, false⟩), (264, ⟨Tryz.t264, Tryz.t264.desc, false⟩), (265, ⟨Tryz.t265, Tryz.t265.desc, false⟩), (266, ⟨Tryz.t266, Tryz.t266.desc, false⟩), (267, ⟨Tryz.t267, Tryz.t267.desc, false⟩), (268, ⟨Tryz.t268, Tryz.t268.desc, true⟩), (269, ⟨Tryz.t269, Tryz.t268.desc, true⟩), (270, ⟨Tryz.t270, Tryz.t270.desc, false⟩), (271, ⟨Tryz.t271, Tryz.t271.desc, false⟩)]
theorem tyL16_ok : ∀ p ∈ tyL16, TyOk p :=
  cons_mem ⟨Tryz.typeInfo256, Tryz.underlying256, fun h => nomatch h⟩ (cons_mem ⟨Tryz.typeInfo257, Tryz.underlying257, fun h => nomatch h⟩ (cons_mem ⟨Tryz.typeInfo258, Tryz.underlying258, fun h => nomatch h⟩ (cons_mem ⟨Tryz.typeInfo259, Tryz.underlying259, fun h => nomatch h⟩ (cons_mem ⟨Tryz.typeInfo260, Tryz.underlying260, fun _ => ⟨Tryz.stoodInHeld260, Tryz.eqGuardType260, plain260⟩⟩ (cons_mem ⟨Tryz.typeInfo261, Tryz.underlying261, fun _ => ⟨Tryz.stoodInHeld261, Tryz.eqGuardType261, plain261⟩⟩ (cons_mem ⟨Tryz.typeInfo262, Tryz.underlying262, fun h => nomatch h⟩ (cons_mem ⟨Tryz.typeInfo263, Tryz.underlying263, fun h => nomatch h⟩ (cons_mem ⟨Tryz.typeInfo264, Tryz.underlying264, fun h => nomatch h⟩ (cons_mem ⟨Tryz.typeInfo265, Tryz.underlying265, fun h => nomatch h⟩ (cons_mem ⟨Tryz.typeInfo266, Tryz.underlying266, fun h => nomatch h⟩ (cons_mem ⟨Tryz.typeInfo267, Tryz.underlying267, fun h => nomatch h⟩ (cons_mem ⟨Tryz.typeInfo268, Tryz.underlying268, fun _ => ⟨Tryz.stoodInHeld268, Tryz.eqGuardType268, plain268⟩⟩ (cons_mem ⟨Tryz.typeInfo269, Tryz.underlying269, fun _ => ⟨Tryz.stoodInHeld269, Tryz.eqGuardType269, plain269⟩⟩ (cons_mem ⟨Tryz.typeInfo270, Tryz.underlying270, fun h => nomatch h⟩ (cons_mem ⟨Tryz.typeInfo271, Tryz.underlying271, fun h => nomatch h⟩ nil_mem)))))))))))))))
noncomputable def tyL17 : List (Nat × Ty) := [(272, ⟨Tryz.t272, Tryz.t272.desc, false⟩), (273, ⟨Tryz.t273, Tryz.t273.desc, false⟩), (274, ⟨Tryz.t274, Tryz.t274.desc, false⟩), (275, ⟨Tryz.t275, Tryz.t275.desc, false⟩), (276, ⟨Tryz.t276, Tryz.t276.desc, false⟩), (277, ⟨Tryz.t277, Tryz.t277.desc, false⟩), (278, ⟨Tryz.t278, Tryz.t278.desc, false⟩), (279, ⟨Tryz.t279, Tryz.t279.desc, false⟩), (280, ⟨Tryz.t280, Tryz.t280.desc, false⟩), (281, ⟨Tryz.t281, Tryz.t281.desc, false⟩), (282, ⟨Tryz.t282, Tryz.t282.desc, false⟩), (283, ⟨Tryz.t283, Tryz.t283.desc, false⟩), (284, ⟨Tryz.t284, Tryz.t284.desc, false⟩), (285, ⟨Tryz.t285, Tryz.t3.desc, false⟩), (286, ⟨Tryz.t286, Tryz.t286.desc, false⟩), (287, ⟨Tryz.t287, Tryz.t287.desc, false⟩)]
theorem tyL17_ok : ∀ p ∈ tyL17, TyOk p :=
  cons_mem ⟨Tryz.typeInfo272, Tryz.underlying272, fun h => nomatch h⟩ (cons_mem ⟨Tryz.typeInfo273, Tryz.underlying273, fun h => nomatch h⟩ (cons_mem ⟨Tryz.typeInfo274, Tryz.underlying274, fun h => nomatch h⟩ (cons_mem ⟨Tryz.typeInfo275, Tryz.underlying275, fun h => nomatch h⟩ (cons_mem ⟨Tryz.typeInfo276, Tryz.underlying276, fun h => nomatch h⟩ (cons_mem ⟨Tryz.typeInfo277, Tryz.underlying277, fun h => nomatch h⟩ (cons_mem ⟨Tryz.typeInfo278, Tryz.underlying278, fun h => nomatch h⟩ (cons_mem ⟨Tryz.typeInfo279, Tryz.underlying279, fun h => nomatch h⟩ (cons_mem ⟨Tryz.typeInfo280, Tryz.underlying280, fun h => nomatch h⟩ (cons_mem ⟨Tryz.typeInfo281, Tryz.underlying281, fun h => nomatch h⟩ (cons_mem ⟨Tryz.typeInfo282, Tryz.underlying282, fun h => nomatch h⟩ (cons_mem ⟨Tryz.typeInfo283, Tryz.underlying283, fun h => nomatch h⟩ (cons_mem ⟨Tryz.typeInfo284, Tryz.underlying284, fun h => nomatch h⟩ (cons_mem ⟨Tryz.typeInfo285, Tryz.underlying285, fun h => nomatch h⟩ (cons_mem ⟨Tryz.typeInfo286, Tryz.underlying286, fun h => nomatch h⟩ (cons_mem ⟨Tryz.typeInfo287, Tryz.underlying287, fun h => nomatch h⟩ nil_mem)))))))))))))))
theorem plain296 : ∀ f ∈ (Tryz.prog.fieldsOf 296).toList, f.name ≠ "_" := by
  have e : Tryz.prog.fieldsOf 296 = match Tryz.t296.desc with | .struct fs => fs | _ => #[] := by
    unfold Program.fieldsOf; rw [Tryz.underlying296]; rfl
  rw [e]; decide
theorem plain297 : ∀ f ∈ (Tryz.prog.fieldsOf 297).toList, f.name ≠ "_" := by
  have e : Tryz.prog.fieldsOf 297 = match Tryz.t296.desc with | .struct fs => fs | _ => #[] := by
    unfold Program.fieldsOf; rw [Tryz.underlying297]; rfl
  rw [e]; decide
noncomputable def tyL18 : List (Nat × Ty) := [(288, ⟨Tryz.t288, Tryz.t288.desc, false⟩), (289, ⟨Tryz.t289, Tryz.t289.desc, false⟩), (290, ⟨Tryz.t290, Tryz.t290.desc, false⟩), (291, ⟨Tryz.t291, Tryz.t291.desc, false⟩), (292, ⟨Tryz.t292, Tryz.t292.desc, false⟩), (293, ⟨Tryz.t293, Tryz.t293.desc, false⟩), (294, ⟨Tryz.t294, Tryz.t294.desc, false⟩), (295, ⟨Tryz.t295, Tryz.t295.desc, false⟩), (296, ⟨Tryz.t296, Tryz.t296.desc, true⟩), (297, ⟨Tryz.t297, Tryz.t296.desc, true⟩), (298, ⟨Tryz.t298, Tryz.t298.desc, false⟩), (299, ⟨Tryz.t299, Tryz.t299.desc, false⟩), (300, ⟨Tryz.t300, Tryz.t300.desc, false⟩), (301, ⟨Tryz.t301, Tryz.t301.desc, false⟩), (302, ⟨Tryz.t302, Tryz.t302.desc, false⟩), (303, ⟨Tryz.t303, Tryz.t303.desc, false⟩)]
theorem tyL18_ok : ∀ p ∈ tyL18, TyOk p :=
  cons_mem ⟨Tryz.typeInfo288, Tryz.underlying288, fun h => nomatch h⟩ (cons_mem ⟨Tryz.typeInfo289, Tryz.underlying289, fun h => nomatch h⟩ (cons_mem ⟨Tryz.typeInfo290, Tryz.underlying290, fun h => nomatch h⟩ (cons_mem ⟨Tryz.typeInfo291, Tryz.underlying291, fun h => nomatch h⟩ (cons_mem ⟨Tryz.typeInfo292, Tryz.underlying292, fun h => nomatch h⟩ (cons_mem ⟨Tryz.typeInfo293, Tryz.underlying293, fun h => nomatch h⟩ (cons_mem ⟨Tryz.typeInfo294, Tryz.underlying294, fun h => nomatch h⟩ (cons_mem ⟨Tryz.typeInfo295, Tryz.underlying295, fun h => nomatch h⟩ (cons_mem ⟨Tryz.typeInfo296, Tryz.underlying296, fun _ => ⟨Tryz.stoodInHeld296, Tryz.eqGuardType296, plain296⟩⟩ (cons_mem ⟨Tryz.typeInfo297, Tryz.underlying297, fun _ => ⟨Tryz.stoodInHeld297, Tryz.eqGuardType297, plain297⟩⟩ (cons_mem ⟨Tryz.typeInfo298, Tryz.underlying298, fun h => nomatch h⟩ (cons_mem ⟨Tryz.typeInfo299, Tryz.underlying299, fun h => nomatch h⟩ (cons_mem ⟨Tryz.typeInfo300, Tryz.underlying300, fun h => nomatch h⟩ (cons_mem ⟨Tryz.typeInfo301, Tryz.underlying301, fun h => nomatch h⟩ (cons_mem ⟨Tryz.typeInfo302, Tryz.underlying302, fun h => nomatch h⟩ (cons_mem ⟨Tryz.typeInfo303, Tryz.underlying303, fun h => nomatch h⟩ nil_mem)))))))))))))))
noncomputable def tyL19 : List (Nat × Ty) := [(304, ⟨Tryz.t304, Tryz.t304.desc, false⟩), (305, ⟨Tryz.t305, Tryz.t305.desc, false⟩), (306, ⟨Tryz.t306, Tryz.t306.desc, false⟩), (307, ⟨Tryz.t307, Tryz.t307.desc, false⟩), (308, ⟨Tryz.t308, Tryz.t308.desc, false⟩), (309, ⟨Tryz.t309, Tryz.t294.desc, false⟩), (310, ⟨Tryz.t310, Tryz.t310.desc, false⟩), (311, ⟨Tryz.t311, Tryz.t311.desc, false⟩), (312, ⟨Tryz.t312, Tryz.t312.desc, false⟩), (313, ⟨Tryz.t313, Tryz.t313.desc, false⟩), (314, ⟨Tryz.t314, Tryz.t314.desc, false⟩), (315, ⟨Tryz.t315, Tryz.t315.desc, false⟩), (316, ⟨Tryz.t316, Tryz.t316.desc, false⟩), (317, ⟨Tryz.t317, Tryz.t317.desc, false⟩), (318, ⟨Tryz.t318, Tryz.t318.desc, false⟩), (319, ⟨Tryz.t319, Tryz.t319.desc, false⟩)]
theorem tyL19_ok : ∀ p ∈ tyL19, TyOk p :=
  cons_mem ⟨Tryz.typeInfo304, Tryz.underlying304, fun h => nomatch h⟩ (cons_mem ⟨Tryz.typeInfo305, Tryz.underlying305, fun h => nomatch h⟩ (cons_mem ⟨Tryz.typeInfo306, Tryz.underlying306, fun h => nomatch h⟩ (cons_mem ⟨Tryz.typeInfo307, Tryz.underlying307, fun h => nomatch h⟩ (cons_mem ⟨Tryz.typeInfo308, Tryz.underlying308, fun h => nomatch h⟩ (cons_mem ⟨Tryz.typeInfo309, Tryz.underlying309, fun h => nomatch h⟩ (cons_mem ⟨Tryz.typeInfo310, Tryz.underlying310, fun h => nomatch h⟩ (cons_mem ⟨Tryz.typeInfo311, Tryz.underlying311, fun h => nomatch h⟩ (cons_mem ⟨Tryz.typeInfo312, Tryz.underlying312, fun h => nomatch h⟩ (cons_mem ⟨Tryz.typeInfo313, Tryz.underlying313, fun h => nomatch h⟩ (cons_mem ⟨Tryz.typeInfo314, Tryz.underlying314, fun h => nomatch h⟩ (cons_mem ⟨Tryz.typeInfo315, Tryz.underlying315, fun h => nomatch h⟩ (cons_mem ⟨Tryz.typeInfo316, Tryz.underlying316, fun h => nomatch h⟩ (cons_mem ⟨Tryz.typeInfo317, Tryz.underlying317, fun h => nomatch h⟩ (cons_mem ⟨Tryz.typeInfo318, Tryz.underlying318, fun h => nomatch h⟩ (cons_mem ⟨Tryz.typeInfo319, Tryz.underlying319, fun h => nomatch h⟩ nil_mem)))))))))))))))
noncomputable def tyL20 : List (Nat × Ty) := [(320, ⟨Tryz.t320, Tryz.t320.desc, false⟩), (321, ⟨Tryz.t321, Tryz.t321.desc, false⟩), (322, ⟨Tryz.t322, Tryz.t321.desc, false⟩), (323, ⟨Tryz.t323, Tryz.t323.desc, false⟩), (324, ⟨Tryz.t324, Tryz.t324.desc, false⟩), (325, ⟨Tryz.t325, Tryz.t324.desc, false⟩), (326, ⟨Tryz.t326, Tryz.t5.desc, false⟩), (327, ⟨Tryz.t327, Tryz.t5.desc, false⟩), (328, ⟨Tryz.t328, Tryz.t328.desc, false⟩), (329, ⟨Tryz.t329, Tryz.t329.desc, false⟩), (330, ⟨Tryz.t330, Tryz.t21.desc, false⟩), (331, ⟨Tryz.t331, Tryz.t21.desc, false⟩), (332, ⟨Tryz.t332, Tryz.t332.desc, false⟩), (333, ⟨Tryz.t333, Tryz.t332.desc, false⟩), (334, ⟨Tryz.t334, Tryz.t334.desc, false⟩)]
theorem tyL20_ok : ∀ p ∈ tyL20, TyOk p :=
  cons_mem ⟨Tryz.typeInfo320, Tryz.underlying320, fun h => nomatch h⟩ (cons_mem ⟨Tryz.typeInfo321, Tryz.underlying321, fun h => nomatch h⟩ (cons_mem ⟨Tryz.typeInfo322, Tryz.underlying322, fun h => nomatch h⟩ (cons_mem ⟨Tryz.typeInfo323, Tryz.underlying323, fun h => nomatch h⟩ (cons_mem ⟨Tryz.typeInfo324, Tryz.underlying324, fun h => nomatch h⟩ (cons_mem ⟨Tryz.typeInfo325, Tryz.underlying325, fun h => nomatch h⟩ (cons_mem ⟨Tryz.typeInfo326, Tryz.underlying326, fun h => nomatch h⟩ (cons_mem ⟨Tryz.typeInfo327, Tryz.underlying327, fun h => nomatch h⟩ (cons_mem ⟨Tryz.typeInfo328, Tryz.underlying328, fun h => nomatch h⟩ (cons_mem ⟨Tryz.typeInfo329, Tryz.underlying329, fun h => nomatch h⟩ (cons_mem ⟨Tryz.typeInfo330, Tryz.underlying330, fun h => nomatch h⟩ (cons_mem ⟨Tryz.typeInfo331, Tryz.underlying331, fun h => nomatch h⟩ (cons_mem ⟨Tryz.typeInfo332, Tryz.underlying332, fun h => nomatch h⟩ (cons_mem ⟨Tryz.typeInfo333, Tryz.underlying333, fun h => nomatch h⟩ (cons_mem ⟨Tryz.typeInfo334, Tryz.underlying334, fun h => nomatch h⟩ nil_mem))))))))))))))
noncomputable def tyL : List (Nat × Ty) := tyL0 ++ tyL1 ++ tyL2 ++ tyL3 ++ tyL4 ++ tyL5 ++ tyL6 ++ tyL7 ++ tyL8 ++ tyL9 ++ tyL10 ++ tyL11 ++ tyL12 ++ tyL13 ++ tyL14 ++ tyL15 ++ tyL16 ++ tyL17 ++ tyL18 ++ tyL19 ++ tyL20
theorem tyL_ok : ∀ p ∈ tyL, TyOk p := app_mem (app_mem (app_mem (app_mem (app_mem (app_mem (app_mem (app_mem (app_mem (app_mem (app_mem (app_mem (app_mem (app_mem (app_mem (app_mem (app_mem (app_mem (app_mem (app_mem (tyL0_ok) tyL1_ok) tyL2_ok) tyL3_ok) tyL4_ok) tyL5_ok) tyL6_ok) tyL7_ok) tyL8_ok) tyL9_ok) tyL10_ok) tyL11_ok) tyL12_ok) tyL13_ok) tyL14_ok) tyL15_ok) tyL16_ok) tyL17_ok) tyL18_ok) tyL19_ok) tyL20_ok
noncomputable def fnL0 : List (Nat × Func) := [(2, Tryz.f2), (3, Tryz.f3), (4, Tryz.f4), (5, Tryz.f5), (6, Tryz.f6), (7, Tryz.f7), (8, Tryz.f8), (9, Tryz.f9), (10, Tryz.f10), (11, Tryz.f11), (12, Tryz.f12), (13, Tryz.f13), (14, Tryz.f14), (15, Tryz.f15), (16, Tryz.f16), (17, Tryz.f17)]
theorem fnL0_ok : ∀ p ∈ fnL0, FnOk p :=
  cons_mem ⟨Tryz.func2, Tryz.call2⟩ (cons_mem ⟨Tryz.func3, Tryz.call3⟩ (cons_mem ⟨Tryz.func4, Tryz.call4⟩ (cons_mem ⟨Tryz.func5, Tryz.call5⟩ (cons_mem ⟨Tryz.func6, Tryz.call6⟩ (cons_mem ⟨Tryz.func7, Tryz.call7⟩ (cons_mem ⟨Tryz.func8, Tryz.call8⟩ (cons_mem ⟨Tryz.func9, Tryz.call9⟩ (cons_mem ⟨Tryz.func10, Tryz.call10⟩ (cons_mem ⟨Tryz.func11, Tryz.call11⟩ (cons_mem ⟨Tryz.func12, Tryz.call12⟩ (cons_mem ⟨Tryz.func13, Tryz.call13⟩ (cons_mem ⟨Tryz.func14, Tryz.call14⟩ (cons_mem ⟨Tryz.func15, Tryz.call15⟩ (cons_mem ⟨Tryz.func16, Tryz.call16⟩ (cons_mem ⟨Tryz.func17, Tryz.call17⟩ (nil_mem))))))))))))))))
noncomputable def fnL1 : List (Nat × Func) := [(18, Tryz.f18), (19, Tryz.f19), (20, Tryz.f20), (21, Tryz.f21), (22, Tryz.f22), (23, Tryz.f23), (24, Tryz.f24), (25, Tryz.f25), (26, Tryz.f26), (27, Tryz.f27), (28, Tryz.f28), (29, Tryz.f29), (30, Tryz.f30), (31, Tryz.f31), (32, Tryz.f32), (33, Tryz.f33)]
theorem fnL1_ok : ∀ p ∈ fnL1, FnOk p :=
  cons_mem ⟨Tryz.func18, Tryz.call18⟩ (cons_mem ⟨Tryz.func19, Tryz.call19⟩ (cons_mem ⟨Tryz.func20, Tryz.call20⟩ (cons_mem ⟨Tryz.func21, Tryz.call21⟩ (cons_mem ⟨Tryz.func22, Tryz.call22⟩ (cons_mem ⟨Tryz.func23, Tryz.call23⟩ (cons_mem ⟨Tryz.func24, Tryz.call24⟩ (cons_mem ⟨Tryz.func25, Tryz.call25⟩ (cons_mem ⟨Tryz.func26, Tryz.call26⟩ (cons_mem ⟨Tryz.func27, Tryz.call27⟩ (cons_mem ⟨Tryz.func28, Tryz.call28⟩ (cons_mem ⟨Tryz.func29, Tryz.call29⟩ (cons_mem ⟨Tryz.func30, Tryz.call30⟩ (cons_mem ⟨Tryz.func31, Tryz.call31⟩ (cons_mem ⟨Tryz.func32, Tryz.call32⟩ (cons_mem ⟨Tryz.func33, Tryz.call33⟩ (nil_mem))))))))))))))))
noncomputable def fnL2 : List (Nat × Func) := [(34, Tryz.f34), (35, Tryz.f35), (36, Tryz.f36), (37, Tryz.f37), (38, Tryz.f38), (39, Tryz.f39), (40, Tryz.f40), (41, Tryz.f41), (42, Tryz.f42), (43, Tryz.f43), (44, Tryz.f44), (45, Tryz.f45), (46, Tryz.f46), (47, Tryz.f47), (48, Tryz.f48), (49, Tryz.f49)]
theorem fnL2_ok : ∀ p ∈ fnL2, FnOk p :=
  cons_mem ⟨Tryz.func34, Tryz.call34⟩ (cons_mem ⟨Tryz.func35, Tryz.call35⟩ (cons_mem ⟨Tryz.func36, Tryz.call36⟩ (cons_mem ⟨Tryz.func37, Tryz.call37⟩ (cons_mem ⟨Tryz.func38, Tryz.call38⟩ (cons_mem ⟨Tryz.func39, Tryz.call39⟩ (cons_mem ⟨Tryz.func40, Tryz.call40⟩ (cons_mem ⟨Tryz.func41, Tryz.call41⟩ (cons_mem ⟨Tryz.func42, Tryz.call42⟩ (cons_mem ⟨Tryz.func43, Tryz.call43⟩ (cons_mem ⟨Tryz.func44, Tryz.call44⟩ (cons_mem ⟨Tryz.func45, Tryz.call45⟩ (cons_mem ⟨Tryz.func46, Tryz.call46⟩ (cons_mem ⟨Tryz.func47, Tryz.call47⟩ (cons_mem ⟨Tryz.func48, Tryz.call48⟩ (cons_mem ⟨Tryz.func49, Tryz.call49⟩ (nil_mem))))))))))))))))
noncomputable def fnL3 : List (Nat × Func) := [(50, Tryz.f50), (51, Tryz.f51), (52, Tryz.f52), (53, Tryz.f53), (54, Tryz.f54), (55, Tryz.f55), (56, Tryz.f56), (57, Tryz.f57), (58, Tryz.f58), (59, Tryz.f59), (60, Tryz.f60), (61, Tryz.f61), (62, Tryz.f62), (63, Tryz.f63), (64, Tryz.f64), (65, Tryz.f65)]
theorem fnL3_ok : ∀ p ∈ fnL3, FnOk p :=
  cons_mem ⟨Tryz.func50, Tryz.call50⟩ (cons_mem ⟨Tryz.func51, Tryz.call51⟩ (cons_mem ⟨Tryz.func52, Tryz.call52⟩ (cons_mem ⟨Tryz.func53, Tryz.call53⟩ (cons_mem ⟨Tryz.func54, Tryz.call54⟩ (cons_mem ⟨Tryz.func55, Tryz.call55⟩ (cons_mem ⟨Tryz.func56, Tryz.call56⟩ (cons_mem ⟨Tryz.func57, Tryz.call57⟩ (cons_mem ⟨Tryz.func58, Tryz.call58⟩ (cons_mem ⟨Tryz.func59, Tryz.call59⟩ (cons_mem ⟨Tryz.func60, Tryz.call60⟩ (cons_mem ⟨Tryz.func61, Tryz.call61⟩ (cons_mem ⟨Tryz.func62, Tryz.call62⟩ (cons_mem ⟨Tryz.func63, Tryz.call63⟩ (cons_mem ⟨Tryz.func64, Tryz.call64⟩ (cons_mem ⟨Tryz.func65, Tryz.call65⟩ (nil_mem))))))))))))))))
noncomputable def fnL4 : List (Nat × Func) := [(66, Tryz.f66), (67, Tryz.f67), (68, Tryz.f68), (69, Tryz.f69), (70, Tryz.f70), (71, Tryz.f71), (72, Tryz.f72), (73, Tryz.f73), (74, Tryz.f74), (75, Tryz.f75), (76, Tryz.f76), (77, Tryz.f77), (78, Tryz.f78), (79, Tryz.f79), (80, Tryz.f80), (81, Tryz.f81)]
theorem fnL4_ok : ∀ p ∈ fnL4, FnOk p :=
  cons_mem ⟨Tryz.func66, Tryz.call66⟩ (cons_mem ⟨Tryz.func67, Tryz.call67⟩ (cons_mem ⟨Tryz.func68, Tryz.call68⟩ (cons_mem ⟨Tryz.func69, Tryz.call69⟩ (cons_mem ⟨Tryz.func70, Tryz.call70⟩ (cons_mem ⟨Tryz.func71, Tryz.call71⟩ (cons_mem ⟨Tryz.func72, Tryz.call72⟩ (cons_mem ⟨Tryz.func73, Tryz.call73⟩ (cons_mem ⟨Tryz.func74, Tryz.call74⟩ (cons_mem ⟨Tryz.func75, Tryz.call75⟩ (cons_mem ⟨Tryz.func76, Tryz.call76⟩ (cons_mem ⟨Tryz.func77, Tryz.call77⟩ (cons_mem ⟨Tryz.func78, Tryz.call78⟩ (cons_mem ⟨Tryz.func79, Tryz.call79⟩ (cons_mem ⟨Tryz.func80, Tryz.call80⟩ (cons_mem ⟨Tryz.func81, Tryz.call81⟩ (nil_mem))))))))))))))))
noncomputable def fnL5 : List (Nat × Func) := [(82, Tryz.f82), (83, Tryz.f83), (84, Tryz.f84), (85, Tryz.f85), (86, Tryz.f86), (87, Tryz.f87), (88, Tryz.f88), (89, Tryz.f89), (90, Tryz.f90), (91, Tryz.f91), (92, Tryz.f92), (93, Tryz.f93), (94, Tryz.f94), (95, Tryz.f95), (96, Tryz.f96), (97, Tryz.f97)]
theorem fnL5_ok : ∀ p ∈ fnL5, FnOk p :=
  cons_mem ⟨Tryz.func82, Tryz.call82⟩ (cons_mem ⟨Tryz.func83, Tryz.call83⟩ (cons_mem ⟨Tryz.func84, Tryz.call84⟩ (cons_mem ⟨Tryz.func85, Tryz.call85⟩ (cons_mem ⟨Tryz.func86, Tryz.call86⟩ (cons_mem ⟨Tryz.func87, Tryz.call87⟩ (cons_mem ⟨Tryz.func88, Tryz.call88⟩ (cons_mem ⟨Tryz.func89, Tryz.call89⟩ (cons_mem ⟨Tryz.func90, Tryz.call90⟩ (cons_mem ⟨Tryz.func91, Tryz.call91⟩ (cons_mem ⟨Tryz.func92, Tryz.call92⟩ (cons_mem ⟨Tryz.func93, Tryz.call93⟩ (cons_mem ⟨Tryz.func94, Tryz.call94⟩ (cons_mem ⟨Tryz.func95, Tryz.call95⟩ (cons_mem ⟨Tryz.func96, Tryz.call96⟩ (cons_mem ⟨Tryz.func97, Tryz.call97⟩ (nil_mem))))))))))))))))
noncomputable def fnL6 : List (Nat × Func) := [(98, Tryz.f98), (99, Tryz.f99), (100, Tryz.f100), (101, Tryz.f101), (102, Tryz.f102), (103, Tryz.f103), (104, Tryz.f104), (105, Tryz.f105), (106, Tryz.f106), (107, Tryz.f107), (108, Tryz.f108), (109, Tryz.f109), (110, Tryz.f110), (111, Tryz.f111), (112, Tryz.f112), (113, Tryz.f113)]
theorem fnL6_ok : ∀ p ∈ fnL6, FnOk p :=
  cons_mem ⟨Tryz.func98, Tryz.call98⟩ (cons_mem ⟨Tryz.func99, Tryz.call99⟩ (cons_mem ⟨Tryz.func100, Tryz.call100⟩ (cons_mem ⟨Tryz.func101, Tryz.call101⟩ (cons_mem ⟨Tryz.func102, Tryz.call102⟩ (cons_mem ⟨Tryz.func103, Tryz.call103⟩ (cons_mem ⟨Tryz.func104, Tryz.call104⟩ (cons_mem ⟨Tryz.func105, Tryz.call105⟩ (cons_mem ⟨Tryz.func106, Tryz.call106⟩ (cons_mem ⟨Tryz.func107, Tryz.call107⟩ (cons_mem ⟨Tryz.func108, Tryz.call108⟩ (cons_mem ⟨Tryz.func109, Tryz.call109⟩ (cons_mem ⟨Tryz.func110, Tryz.call110⟩ (cons_mem ⟨Tryz.func111, Tryz.call111⟩ (cons_mem ⟨Tryz.func112, Tryz.call112⟩ (cons_mem ⟨Tryz.func113, Tryz.call113⟩ (nil_mem))))))))))))))))
noncomputable def fnL7 : List (Nat × Func) := [(114, Tryz.f114), (115, Tryz.f115), (116, Tryz.f116), (117, Tryz.f117), (118, Tryz.f118), (119, Tryz.f119), (120, Tryz.f120), (121, Tryz.f121), (122, Tryz.f122), (123, Tryz.f123), (124, Tryz.f124), (125, Tryz.f125), (126, Tryz.f126), (127, Tryz.f127), (128, Tryz.f128), (129, Tryz.f129)]
theorem fnL7_ok : ∀ p ∈ fnL7, FnOk p :=
  cons_mem ⟨Tryz.func114, Tryz.call114⟩ (cons_mem ⟨Tryz.func115, Tryz.call115⟩ (cons_mem ⟨Tryz.func116, Tryz.call116⟩ (cons_mem ⟨Tryz.func117, Tryz.call117⟩ (cons_mem ⟨Tryz.func118, Tryz.call118⟩ (cons_mem ⟨Tryz.func119, Tryz.call119⟩ (cons_mem ⟨Tryz.func120, Tryz.call120⟩ (cons_mem ⟨Tryz.func121, Tryz.call121⟩ (cons_mem ⟨Tryz.func122, Tryz.call122⟩ (cons_mem ⟨Tryz.func123, Tryz.call123⟩ (cons_mem ⟨Tryz.func124, Tryz.call124⟩ (cons_mem ⟨Tryz.func125, Tryz.call125⟩ (cons_mem ⟨Tryz.func126, Tryz.call126⟩ (cons_mem ⟨Tryz.func127, Tryz.call127⟩ (cons_mem ⟨Tryz.func128, Tryz.call128⟩ (cons_mem ⟨Tryz.func129, Tryz.call129⟩ (nil_mem))))))))))))))))
noncomputable def fnL8 : List (Nat × Func) := [(130, Tryz.f130), (131, Tryz.f131), (132, Tryz.f132), (133, Tryz.f133), (134, Tryz.f134), (135, Tryz.f135), (136, Tryz.f136), (137, Tryz.f137), (138, Tryz.f138), (139, Tryz.f139), (140, Tryz.f140), (141, Tryz.f141), (142, Tryz.f142), (143, Tryz.f143), (144, Tryz.f144), (145, Tryz.f145)]
theorem fnL8_ok : ∀ p ∈ fnL8, FnOk p :=
  cons_mem ⟨Tryz.func130, Tryz.call130⟩ (cons_mem ⟨Tryz.func131, Tryz.call131⟩ (cons_mem ⟨Tryz.func132, Tryz.call132⟩ (cons_mem ⟨Tryz.func133, Tryz.call133⟩ (cons_mem ⟨Tryz.func134, Tryz.call134⟩ (cons_mem ⟨Tryz.func135, Tryz.call135⟩ (cons_mem ⟨Tryz.func136, Tryz.call136⟩ (cons_mem ⟨Tryz.func137, Tryz.call137⟩ (cons_mem ⟨Tryz.func138, Tryz.call138⟩ (cons_mem ⟨Tryz.func139, Tryz.call139⟩ (cons_mem ⟨Tryz.func140, Tryz.call140⟩ (cons_mem ⟨Tryz.func141, Tryz.call141⟩ (cons_mem ⟨Tryz.func142, Tryz.call142⟩ (cons_mem ⟨Tryz.func143, Tryz.call143⟩ (cons_mem ⟨Tryz.func144, Tryz.call144⟩ (cons_mem ⟨Tryz.func145, Tryz.call145⟩ (nil_mem))))))))))))))))
noncomputable def fnL9 : List (Nat × Func) := [(146, Tryz.f146), (147, Tryz.f147), (148, Tryz.f148), (149, Tryz.f149), (150, Tryz.f150), (151, Tryz.f151), (152, Tryz.f152), (153, Tryz.f153), (154, Tryz.f154), (155, Tryz.f155), (156, Tryz.f156), (157, Tryz.f157), (158, Tryz.f158), (159, Tryz.f159), (160, Tryz.f160), (161, Tryz.f161)]
theorem fnL9_ok : ∀ p ∈ fnL9, FnOk p :=
  cons_mem ⟨Tryz.func146, Tryz.call146⟩ (cons_mem ⟨Tryz.func147, Tryz.call147⟩ (cons_mem ⟨Tryz.func148, Tryz.call148⟩ (cons_mem ⟨Tryz.func149, Tryz.call149⟩ (cons_mem ⟨Tryz.func150, Tryz.call150⟩ (cons_mem ⟨Tryz.func151, Tryz.call151⟩ (cons_mem ⟨Tryz.func152, Tryz.call152⟩ (cons_mem ⟨Tryz.func153, Tryz.call153⟩ (cons_mem ⟨Tryz.func154, Tryz.call154⟩ (cons_mem ⟨Tryz.func155, Tryz.call155⟩ (cons_mem ⟨Tryz.func156, Tryz.call156⟩ (cons_mem ⟨Tryz.func157, Tryz.call157⟩ (cons_mem ⟨Tryz.func158, Tryz.call158⟩ (cons_mem ⟨Tryz.func159, Tryz.call159⟩ (cons_mem ⟨Tryz.func160, Tryz.call160⟩ (cons_mem ⟨Tryz.func161, Tryz.call161⟩ (nil_mem))))))))))))))))
noncomputable def fnL10 : List (Nat × Func) := [(162, Tryz.f162), (163, Tryz.f163), (164, Tryz.f164), (165, Tryz.f165), (166, Tryz.f166), (167, Tryz.f167), (168, Tryz.f168), (169, Tryz.f169), (170, Tryz.f170), (171, Tryz.f171), (172, Tryz.f172), (173, Tryz.f173), (174, Tryz.f174), (175, Tryz.f175), (176, Tryz.f176), (177, Tryz.f177)]
theorem fnL10_ok : ∀ p ∈ fnL10, FnOk p :=
  cons_mem ⟨Tryz.func162, Tryz.call162⟩ (cons_mem ⟨Tryz.func163, Tryz.call163⟩ (cons_mem ⟨Tryz.func164, Tryz.call164⟩ (cons_mem ⟨Tryz.func165, Tryz.call165⟩ (cons_mem ⟨Tryz.func166, Tryz.call166⟩ (cons_mem ⟨Tryz.func167, Tryz.call167⟩ (cons_mem ⟨Tryz.func168, Tryz.call168⟩ (cons_mem ⟨Tryz.func169, Tryz.call169⟩ (cons_mem ⟨Tryz.func170, Tryz.call170⟩ (cons_mem ⟨Tryz.func171, Tryz.call171⟩ (cons_mem ⟨Tryz.func172, Tryz.call172⟩ (cons_mem ⟨Tryz.func173, Tryz.call173⟩ (cons_mem ⟨Tryz.func174, Tryz.call174⟩ (cons_mem ⟨Tryz.func175, Tryz.call175⟩ (cons_mem ⟨Tryz.func176, Tryz.call176⟩ (cons_mem ⟨Tryz.func177, Tryz.call177⟩ (nil_mem))))))))))))))))
noncomputable def fnL11 : List (Nat × Func) := [(178, Tryz.f178), (179, Tryz.f179), (180, Tryz.f180), (181, Tryz.f181), (182, Tryz.f182), (183, Tryz.f183), (184, Tryz.f184), (185, Tryz.f185), (186, Tryz.f186), (187, Tryz.f187), (188, Tryz.f188), (189, Tryz.f189), (190, Tryz.f190), (191, Tryz.f191), (192, Tryz.f192), (193, Tryz.f193)]
theorem fnL11_ok : ∀ p ∈ fnL11, FnOk p :=
  cons_mem ⟨Tryz.func178, Tryz.call178⟩ (cons_mem ⟨Tryz.func179, Tryz.call179⟩ (cons_mem ⟨Tryz.func180, Tryz.call180⟩ (cons_mem ⟨Tryz.func181, Tryz.call181⟩ (cons_mem ⟨Tryz.func182, Tryz.call182⟩ (cons_mem ⟨Tryz.func183, Tryz.call183⟩ (cons_mem ⟨Tryz.func184, Tryz.call184⟩ (cons_mem ⟨Tryz.func185, Tryz.call185⟩ (cons_mem ⟨Tryz.func186, Tryz.call186⟩ (cons_mem ⟨Tryz.func187, Tryz.call187⟩ (cons_mem ⟨Tryz.func188, Tryz.call188⟩ (cons_mem ⟨Tryz.func189, Tryz.call189⟩ (cons_mem ⟨Tryz.func190, Tryz.call190⟩ (cons_mem ⟨Tryz.func191, Tryz.call191⟩ (cons_mem ⟨Tryz.func192, Tryz.call192⟩ (cons_mem ⟨Tryz.func193, Tryz.call193⟩ (nil_mem))))))))))))))))
noncomputable def fnL12 : List (Nat × Func) := [(194, Tryz.f194), (195, Tryz.f195), (196, Tryz.f196), (197, Tryz.f197), (198, Tryz.f198), (199, Tryz.f199), (200, Tryz.f200), (201, Tryz.f201), (202, Tryz.f202), (203, Tryz.f203), (204, Tryz.f204), (205, Tryz.f205), (206, Tryz.f206), (207, Tryz.f207), (208, Tryz.f208), (209, Tryz.f209)]
theorem fnL12_ok : ∀ p ∈ fnL12, FnOk p :=
  cons_mem ⟨Tryz.func194, Tryz.call194⟩ (cons_mem ⟨Tryz.func195, Tryz.call195⟩ (cons_mem ⟨Tryz.func196, Tryz.call196⟩ (cons_mem ⟨Tryz.func197, Tryz.call197⟩ (cons_mem ⟨Tryz.func198, Tryz.call198⟩ (cons_mem ⟨Tryz.func199, Tryz.call199⟩ (cons_mem ⟨Tryz.func200, Tryz.call200⟩ (cons_mem ⟨Tryz.func201, Tryz.call201⟩ (cons_mem ⟨Tryz.func202, Tryz.call202⟩ (cons_mem ⟨Tryz.func203, Tryz.call203⟩ (cons_mem ⟨Tryz.func204, Tryz.call204⟩ (cons_mem ⟨Tryz.func205, Tryz.call205⟩ (cons_mem ⟨Tryz.func206, Tryz.call206⟩ (cons_mem ⟨Tryz.func207, Tryz.call207⟩ (cons_mem ⟨Tryz.func208, Tryz.call208⟩ (cons_mem ⟨Tryz.func209, Tryz.call209⟩ (nil_mem))))))))))))))))
noncomputable def fnL13 : List (Nat × Func) := [(210, Tryz.f210), (211, Tryz.f211), (212, Tryz.f212), (213, Tryz.f213), (214, Tryz.f214), (215, Tryz.f215), (216, Tryz.f216), (217, Tryz.f217), (218, Tryz.f218), (219, Tryz.f219), (220, Tryz.f220), (221, Tryz.f221), (222, Tryz.f222), (223, Tryz.f223), (224, Tryz.f224), (225, Tryz.f225)]
theorem fnL13_ok : ∀ p ∈ fnL13, FnOk p :=
  cons_mem ⟨Tryz.func210, Tryz.call210⟩ (cons_mem ⟨Tryz.func211, Tryz.call211⟩ (cons_mem ⟨Tryz.func212, Tryz.call212⟩ (cons_mem ⟨Tryz.func213, Tryz.call213⟩ (cons_mem ⟨Tryz.func214, Tryz.call214⟩ (cons_mem ⟨Tryz.func215, Tryz.call215⟩ (cons_mem ⟨Tryz.func216, Tryz.call216⟩ (cons_mem ⟨Tryz.func217, Tryz.call217⟩ (cons_mem ⟨Tryz.func218, Tryz.call218⟩ (cons_mem ⟨Tryz.func219, Tryz.call219⟩ (cons_mem ⟨Tryz.func220, Tryz.call220⟩ (cons_mem ⟨Tryz.func221, Tryz.call221⟩ (cons_mem ⟨Tryz.func222, Tryz.call222⟩ (cons_mem ⟨Tryz.func223, Tryz.call223⟩ (cons_mem ⟨Tryz.func224, Tryz.call224⟩ (cons_mem ⟨Tryz.func225, Tryz.call225⟩ (nil_mem))))))))))))))))
noncomputable def fnL14 : List (Nat × Func) := [(226, Tryz.f226), (227, Tryz.f227), (228, Tryz.f228), (229, Tryz.f229)]
theorem fnL14_ok : ∀ p ∈ fnL14, FnOk p :=
  cons_mem ⟨Tryz.func226, Tryz.call226⟩ (cons_mem ⟨Tryz.func227, Tryz.call227⟩ (cons_mem ⟨Tryz.func228, Tryz.call228⟩ (cons_mem ⟨Tryz.func229, Tryz.call229⟩ (nil_mem))))
noncomputable def fnL : List (Nat × Func) := fnL0 ++ fnL1 ++ fnL2 ++ fnL3 ++ fnL4 ++ fnL5 ++ fnL6 ++ fnL7 ++ fnL8 ++ fnL9 ++ fnL10 ++ fnL11 ++ fnL12 ++ fnL13 ++ fnL14
theorem fnL_ok : ∀ p ∈ fnL, FnOk p := app_mem (app_mem (app_mem (app_mem (app_mem (app_mem (app_mem (app_mem (app_mem (app_mem (app_mem (app_mem (app_mem (app_mem (fnL0_ok) fnL1_ok) fnL2_ok) fnL3_ok) fnL4_ok) fnL5_ok) fnL6_ok) fnL7_ok) fnL8_ok) fnL9_ok) fnL10_ok) fnL11_ok) fnL12_ok) fnL13_ok) fnL14_ok
noncomputable def tyT : Tr Ty := Tr.ofL tyL
noncomputable def fnT : Tr Func := Tr.ofL fnL
noncomputable def tabW (orc : List Orc) (mmo : List Mmo) (ctr : List Ctr) : Tab := ⟨tyT, fnT, orc, mmo, ctr⟩
theorem tyT_eq {orc : List Orc} {mmo : List Mmo} {ctr : List Ctr} : (tabW orc mmo ctr).ty = Tr.ofL tyL := by
  unfold tabW tyT
  dsimp only
theorem fnT_eq {orc : List Orc} {mmo : List Mmo} {ctr : List Ctr} : (tabW orc mmo ctr).fn = Tr.ofL fnL := by
  unfold tabW fnT
  dsimp only
theorem tab_ok {σ : Nat → Int} {orc : List Orc} {mmo : List Mmo} {ctr : List Ctr}
    (h1 : ∀ e ∈ orc, flatV e.v = true ∧ ∃ a b, (∀ E, den σ E e.x = .int .i64 a) ∧ (∀ E, den σ E e.y = .int .i64 b) ∧ intB e.op .i64 a b = some (den σ E00 e.v))
    (h2 : ∀ e ∈ mmo, flatV e.v = true ∧ ∃ a b, (∀ E, den σ E e.x = .int .i64 a) ∧ (∀ E, den σ E e.y = .int .i64 b) ∧ den σ E00 e.v = .int .i64 (if e.mx then (if b > a then b else a) else (if b < a then b else a)))
    (h3 : ∀ e ∈ ctr, flatV e.v = true ∧ e.args.all flatV = true ∧ ∀ w, Calls Tryz.prog e.f (e.args.map (den σ E00)).toArray w fun r w' => r = .returned (den σ E00 e.v) ∧ RowKit.Below w.heap.size w w') :
    (tabW orc mmo ctr).Ok σ Tryz.prog where
  info t y h := (tyL_ok (t, y) (Tr.get_of_eq tyT_eq h)).1
  desc t y h := (tyL_ok (t, y) (Tr.get_of_eq tyT_eq h)).2.1
  plain t y h := (tyL_ok (t, y) (Tr.get_of_eq tyT_eq h)).2.2
  fn f g h := (fnL_ok (f, g) (Tr.get_of_eq fnT_eq h)).1
  call f g h := (fnL_ok (f, g) (Tr.get_of_eq fnT_eq h)).2
  mixed := by kernel_rfl
  orc := h1
  mmo := h2
  ctr := h3
theorem tab_plain {σ : Nat → Int} : (tabW [] [] []).Ok σ Tryz.prog := tab_ok nil_mem nil_mem nil_mem
end Go.Proofs.YtliadlhbdjndaaaGreat
