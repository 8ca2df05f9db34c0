import Derived.Test.YtpfeegcdlikegaaGreatRows
import Derived.Test.YtpfeegcdlikegaaGreatLdFZ
set_option maxHeartbeats 16000000
set_option maxRecDepth 100000
namespace Go.Proofs.YtpfeegcdlikegaaGreat
open Go.ChangeShapes Go.WideShapes Go.ChangeAt Go.RowKit Go.Proofs.Tryz
theorem Tryz.own:ownKnob prog.godebug=none:=by kernel_rfl
theorem Tryz.laidOut:laidOutB prog=true:=by kernel_rfl
theorem sK (os:Os)(started:os.Started)(H:Type)(enc:TypeId × Value->H) :
  ReturnsInHanded {} Tryz.checked os 3 .any (Rows.fnLocalSpec.pre6 enc prog Tryz.f3 Rows.fnLocalRow.domain false) (Rows.fnLocalSpec.post enc prog Tryz.f3 false true false false):=by
 refine returnsInHanded_of_change_sized (C:=Tryz.checked) Tryz.own started (by kernel_rfl) func3
  (ChangeSpec.witness6 (enc:=enc) (C:=Tryz.checked) false ⟨#[],#[.slice none 0 0],[]⟩ 8 (by kernel_rfl) (by kernel_rfl) (by kernel_rfl) (by kernel_rfl)) ?_
 intro W base args ds gs before u hW _ G _;have ab:(DataW.weightsEach prog (Tryz.f3.params.toList ++ Rows.fnLocalSpec.plain.varTypes prog) (ds ++ gs)).all (·<=reachBytes)=true:=G;clear G;have hval:∀ (j:Nat) t v,Tryz.f3.params[j]?=some t->args[j]?=some v->Value.okWide prog W .any base t v:=u;have O:=hW;obtain ⟨p,q,Z,hV,rfl,_,_⟩:=hW;have hA:DataW.TrodAll enc prog W 0 (fun _=>true) true Tryz.f3.params.toList args.toList ds p:=Z;rw [Tryz.params3] at hA hval ab;obtain ⟨v0,d0,rfl,rfl,h0⟩:=trodAll_one hA;obtain ⟨rfl,rfl⟩:=trodVars_none hV;obtain ⟨a5,au,ax,rfl⟩:=okWide_slice underlying22 (hval 0 22 v0 rfl rfl);have ad:=h0;obtain ⟨af,ae⟩:=h0;clear Z u;simp only [List.append_nil] at O;have N:∀ x ∈ p,x.block<W.heap.size:=fun x hx=>by simpa using O.lt x hx
 obtain ⟨a0,n0,c0,J,I,Y,s0⟩:=LU ae N;simp only [Value.cells,List.cons.injEq,and_true] at J;injection J with e1 e2 e3
 subst e1 e2 e3;obtain ⟨bs,s1,s2⟩:=xI s0;refine (OT W (nZ I Y) (BB W I Y s1 s2)).mono fun e W' ⟨he,U⟩=>?_
 subst he;refine ⟨_,rfl,_,_,_,[],p,[],O,?_,?_,rfl,U.frame _,fun h=>by cases h⟩
 ·exact trodAll_mk1 (shut_bool underlying4 true)
 have:=trodAll_mk1 (Below.trod Tryz.laidOut (by kernel_rfl) (of_decide_eq_true (by kernel_rfl)) ad U N);try simp only [List.append_nil] at this
 exact this
theorem fnLocal_holds:Rows.FnLocalSaid :=
 OpenClaim.holds_of_wide 3 Tryz.f3 rfl rfl rfl rfl rfl rfl rfl ⟨rfl,rfl,rfl,rfl,rfl⟩ rfl rfl rfl rfl rfl (by kernel_rfl) func3 (by kernel_rfl)
  (of_decide_eq_true (by kernel_rfl)) (by unfold Func.isWrapper;first|(rw [if_pos (by decide +kernel)];kernel_rfl)|(rw [if_neg (by decide +kernel)];exact ⟨rfl,rfl⟩))
  (fun os started H enc _=>sK os started H enc)
#print axioms fnLocal_holds
end Go.Proofs.YtpfeegcdlikegaaGreat
