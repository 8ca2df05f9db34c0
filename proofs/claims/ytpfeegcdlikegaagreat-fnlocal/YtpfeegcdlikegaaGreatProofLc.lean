import Derived.Test.YtpfeegcdlikegaaGreatRows
import Derived.Test.YtpfeegcdlikegaaGreatAlIZ
import Derived.ProofKit
import Derived.SizedLaws
import Derived.Deep.Strs
set_option maxHeartbeats 16000000
set_option maxRecDepth 100000
namespace Go.Proofs.YtpfeegcdlikegaaGreat
open Go.RowKit Go.Proofs.Tryz
variable {m n q cap:Nat}{bs:Nat->Nat}{a:Option Addr}
theorem yD (h:q<=m):aN m q<=m:=by
 unfold aN;split <;> omega
theorem IS (w:World):LO w ((w.alloc (.cells #[.slice none 0 0] 25)).alloc (.cells #[.string ⟨#[]⟩,.string ⟨#[]⟩,.string ⟨#[]⟩,.bool false,.string ⟨#[]⟩,.int .i64 0,.slice none 0 0,.slice none 0 0,.string ⟨#[]⟩,.slice none 0 0] 30)):=by
 refine ⟨⟨_,by rw [World.cell?_alloc_past _ _ _ (by simp)];exact kA rfl⟩,fun o u=>?_,fun o=>by rw [World.frozen?_alloc_past _ _ _ (by simp)];exact kF rfl,fun o=>kF (by simp)⟩;rw [kA (by simp)]
 match o,u with
 | 0,_=>exact ⟨_,rfl⟩
 | 1,_=>exact ⟨_,rfl⟩
 | 2,_=>exact ⟨_,rfl⟩
 | 3,_=>exact ⟨_,rfl⟩
 | 4,_=>exact ⟨_,rfl⟩
 | 5,_=>exact ⟨_,rfl⟩
 | 6,_=>exact ⟨_,rfl⟩
 | 7,_=>exact ⟨_,rfl⟩
 | 8,_=>exact ⟨_,rfl⟩
 | 9,_=>exact ⟨_,rfl⟩
theorem l5D (p:Nat)(w:World)(h:nI w p bs m q)(a8:q<=m) :
  Calls prog 11 #[.pointer (some ⟨p,0,none⟩)] w (UH p w):=by
 have hp:=h.lt;obtain ⟨wa,J⟩:∃ wa,wa=(w.alloc (.cells #[.slice none 0 0] 25)).alloc (.cells #[.string ⟨#[]⟩,.string ⟨#[]⟩,.string ⟨#[]⟩,.bool false,.string ⟨#[]⟩,.int .i64 0,.slice none 0 0,.slice none 0 0,.string ⟨#[]⟩,.slice none 0 0] 30):=⟨_,rfl⟩;have Z:Below w.heap.size w wa:=by rw [J];exact bA.alloc (by simp) _
 have a3:wa.heap.size=w.heap.size+2:=by rw [J];simp
 have aw:LO w wa:=by rw [J];exact IS w
 have af:=h.below Z;have hk:=af.nx;obtain ⟨k,ab⟩:∃ k,k=eD bs m q:=⟨_,rfl⟩;rw [<- ab] at hk
 go_enter func11,ntmps11
 go_wp2_with fail
 rw [<- J];clear J;refine (iC p wa af).mono ?_;rintro x w1 ⟨rfl,O⟩;rw [<- ab];clear ab;have ay:=O.1.nx;obtain ⟨mm,H⟩:∃ mm,mm=eD bs m (aN m q):=⟨_,rfl⟩;rw [<- H] at ay
 go_wp2_with fail
 refine (iC p w1 O.1).mono ?_;rintro x w2 ⟨rfl,ae⟩;rw [<- H];clear H;obtain ⟨v,aq⟩:∃ v,v=eD bs m (aN m (aN m q)):=⟨_,rfl⟩
 go_wp2_with fail
 refine (iC p w2 ae.1).mono ?_;rintro x w3 ⟨rfl,ao⟩;rw [<- aq];clear aq;have hd:=(O.trans ae).trans ao;have bb:=hd.size;have an:He (LO w w3):=aw.kept (fun b h1 h2=>hd.2.block b (by omega) (fun e=>by injection e with e;omega));have hq:aN m (aN m (aN m q))<=m:=yD (yD (yD a8));have d0:He (w.grownBy w3 (some p)):=(((bR.refl h).below Z).trans hd).2;have l3:w.heap.size+2<=w3.heap.size:=by omega
 have HD:He (Calls prog 35 #[.pointer (some ⟨p,0,none⟩)] w3 (tR p w3 bs m (aN m (aN m (aN m q))))):=QD p w3 hd.1 hq;clear hd O ae ao af aw Z a3 bb hq h
 go_wp2_with fail
 refine (HD.o).mono ?_;rintro x N ⟨i,rb,rc,T,sg,sgc,Aa,Ca,ax,G,rfl,hR,hA,ah,U⟩;clear HD;obtain ⟨f,hf⟩:∃ f,f=fU bs m (aN m (aN m (aN m q))):=⟨_,rfl⟩;rw [<- hf] at G hR hA ah U ⊢;clear hf;have a2:=G.pos ax;have a6:f.n<=300:=dJ G.room;have HN:He (EG p w w3 (N.alloc (.cells #[.slice (some ⟨rb,0,none⟩) f.n rc] 25)) N.heap.size rb rc f.n f.E T sg sgc f.A Aa Ca):=RM (tr:=25) hp l3 d0.o U.2 hR hA ah G.room G.fit a2;have aj:He (bR p w3 N bs m f.q):=U;obtain ⟨r,hr⟩:∃ r,r=mm % f.n:=⟨_,rfl⟩;have br:r<f.n:=by rw [hr];exact Nat.mod_lt _ a2
 have au:((mm % f.n:Nat):Int)=(r:Int):=by rw [hr]
 have bp:(mm:Int) % (f.n:Int)=(r:Int):=by rw [<- au];simp
 have bo:¬ ((f.n:Nat):Int)=0:=by omega
 obtain ⟨j,hj⟩:∃ j,j=f.n - 1 - r:=⟨_,rfl⟩;have ag:j<f.n:=by omega
 have bn:(f.n:Int) - 1 - (r:Int)=(j:Int):=by omega
 have j0:(0:Int)<=(j:Int):=by omega
 have j1:(j:Int)<(f.n:Int):=by omega
 clear hr au hj hR hA ah U ax
 have I:(N.alloc (.cells #[.slice (some ⟨rb,0,none⟩) f.n rc] 25)).cell? ⟨sg,j,none⟩=some (.slice (Aa j) (f.A j).length (Ca j)):=by
  have:=HN.o.az.at.2.2.2.2 j ag;rw [Nat.zero_add] at this;exact this
 have Y:=HN.o.az.sl j ag;have ak:(f.A j).length<=300:=nZ ((HN.o.fit j ag).len HN.o.room) a6
 have HC:He (Calls prog 36 #[.slice (Aa j) (f.A j).length (Ca j)] (N.alloc (.cells #[.slice (some ⟨rb,0,none⟩) f.n rc] 25)) fun e w'=>∃ a c,e=.returned (.slice a (f.A j).length c)/\jA p w (N.alloc (.cells #[.slice (some ⟨rb,0,none⟩) f.n rc] 25)) w' bs m f.q N.heap.size (.slice (some ⟨rb,0,none⟩) f.n rc) (.slice a (f.A j).length c) (f.A j)):=(yC _ (by omega) Y).mono fun x w' ⟨u,hx,ho,hb⟩=>by
  obtain ⟨a,c,rfl,_⟩:=ho.sl (dF.ok Y).at;exact ⟨a,c,hx,UC HN.o an.o aj.o hb ho (dF.ok Y) (by omega)⟩
 clear Y G an d0 l3 aj
 go_upto_region 6 with fail
 go_cut [11] (fun x wx=>∃ sa sc,x=.slice sa (List.length (f.A j)) sc/\He (jA p w (N.alloc (.cells #[.slice (some ⟨rb,0,none⟩) f.n rc] 25)) wx bs m f.q N.heap.size (.slice (some ⟨rb,0,none⟩) f.n rc) (.slice sa (List.length (f.A j)) sc) (f.A j)))
 case first =>
  clear HN
  go_wp2_with fail
  refine HC.o.mono ?_;rintro x w5 ⟨a,c,rfl,hI⟩;have HI:He (_):=hI;clear HC hI I
  go_wp2_with fail
  go_meet;exact ⟨_,_,rfl,HI⟩
 case rest =>
  obtain ⟨sa,sc,rfl,HX⟩:=hcut;clear HC I
  apply_assumption
  exact b50 w w3 _ _ ay ak HN HX
theorem BB (w:World)(ad:n<=cap)(N:cap<=maxLen)(h:rN w a n bs)(G:∀ i,i<n->bs i<256) :
  Calls prog 4 #[.slice a n cap] w (DT w):=by
 obtain ⟨J,H⟩:∃ J,J=(w.alloc (.cells #[.slice none 0 0] 25)).alloc (.cells #[.string ⟨#[]⟩,.string ⟨#[]⟩,.string ⟨#[]⟩,.bool false,.string ⟨#[]⟩,.int .i64 0,.slice none 0 0,.slice none 0 0,.string ⟨#[]⟩,.slice none 0 0] 30):=⟨_,rfl⟩;have I:Below w.heap.size w J:=by rw [H];exact bA.alloc (by simp) _
 have ag:J.heap.size=w.heap.size+2:=by rw [H];simp
 have ae:LO w J:=by rw [H];exact IS w
 have af:rN J a n bs:=h.imp id fun ⟨b,off,e,aj,hx⟩=>⟨b,off,e,by omega,fun i hi=>(I.cell (by exact aj)).trans (hx i hi)⟩
 have HO:He (Calls prog 12 #[.slice a n cap] J (OpF J bs n)):=ZC J ad N af G;clear N ad h G af
 go_enter func4,ntmps4
 go_wp2_with fail
 rw [<- H];clear H;refine (HO.o).mono ?_;rintro x w1 ⟨p,rfl,O,hp,G⟩;clear HO;have ai:=G.size;have ah:=O.lt;have Y:LO w w1:=ae.kept (fun b h1 h2=>G.block b (by omega));have U:=I.trans (G.mono I.size);have HD:He (_):=l5D p w1 O nz;clear O
 go_wp2_with fail
 refine (Calls.mono HD.o ?_);rintro x w2 ⟨rb,rc,n',E,sa,sc,s,e,pa,cp,aa,ca,ga,cg,rfl,Z,hg⟩;have u:LO w w2:=Y.kept (fun b h1 h2=>hg.block b (by omega) (fun e=>by injection e with e;omega));have ab:Below w.heap.size w w2:=U.grown hg (by have:=U.size;omega) (fun b hb=>by injection hb with hb;omega);have HF:He (∀ W',KP (fun b=>w.heap.size+2<=b) w2 W'->Below w.heap.size w W'->DT w (.returned (.tuple #[.agg #[.slice (some ⟨rb,0,none⟩) n' rc],.slice sa s.length sc,.agg (ec e pa cp aa ca ga cg)])) W'):=fun W' hK hB=>⟨_,n',rc,E,sa,sc,s,e,pa,cp,aa,ca,ga,cg,rfl,⟨((Z.o.1.wide (fun b q=>(show w.heap.size+2<=b from by omega))).kP hK).slv nL,Z.o.2.1.kP (Z.o.2.2.1.wide (fun b q=>(show w.heap.size+2<=b from by omega))) hK,((Z.o.2.2.2.wide (fun b q=>(show w.heap.size+2<=b from by omega))).kP hK).ok⟩,hB⟩
 have HB:He (Below w.heap.size w w2):=ab;obtain ⟨z,y⟩:=u.z0;obtain ⟨x0,y0⟩:=u.z1 0 (by decide);obtain ⟨x1,y1⟩:=u.z1 1 (by decide);obtain ⟨x2,y2⟩:=u.z1 2 (by decide);obtain ⟨x3,y3⟩:=u.z1 3 (by decide);obtain ⟨x4,y4⟩:=u.z1 4 (by decide);obtain ⟨x5,y5⟩:=u.z1 5 (by decide);obtain ⟨x6,y6⟩:=u.z1 6 (by decide);obtain ⟨x7,y7⟩:=u.z1 7 (by decide);obtain ⟨x8,y8⟩:=u.z1 8 (by decide);obtain ⟨x9,y9⟩:=u.z1 9 (by decide);have g0:=u.g0;have g1:=u.g1;unfold Ev.val';clear HD Z hg u ab Y ae U G I ai ag hp ah;go_wp2
 refine bodyPost_ret (v:=.tuple #[.agg #[.slice (some ⟨rb,0,none⟩) n' rc],.slice sa s.length sc,.agg (ec e pa cp aa ca ga cg)]) (by simp [results,results4,go_sem,y,y0,y1,y2,y3,y4,y5,y6,y7,y8,y9]) rfl ?_;refine HF.o _ ?_ ?_
 ·repeat first
   | with_reducible exact KP.refl _ _
   | with_reducible refine KP.set ?_ (show ¬ w.heap.size+2<=w.heap.size from by omega) _ _
   | with_reducible refine KP.set ?_ (show ¬ w.heap.size+2<=w.heap.size+1 from by omega) _ _
   | with_reducible refine KP.drew ?_
 repeat first
  | with_reducible exact HB.o
  | with_reducible refine Below.setCell ?_ (show w.heap.size<=w.heap.size from nL) _
  | with_reducible refine Below.setCell ?_ (show w.heap.size<=w.heap.size+1 from Nat.le_succ _) _
  | with_reducible refine Below.drew ?_
def IL (w:World)(a:Option Addr)(n:Nat):Prop :=
 n=0\/∃ b off,a=some ⟨b,off,none⟩/\b<w.heap.size/\∀ i,i<n->∃ x:Nat,x<256/\w.cell? ⟨b,off+i,none⟩=some (.int .u8 (x:Int))
end Go.Proofs.YtpfeegcdlikegaaGreat
namespace Go.Proofs.YtpfeegcdlikegaaGreat
open Go.ChangeShapes Go.WideShapes Go.ChangeAt Go.RowKit Go.Deep Go.Proofs.Tryz
variable {W:World}
theorem Tryz.cellsU8:prog.cellsOf 5=1:=by kernel_rfl
theorem LU {H:Type}{enc:TypeId × Value->H}{fuel:Nat}{cs:List Value}{x:DataW H × List MemPlace}(h:DataW.trod enc prog W 0 (fun _=>true) true fuel 22 cs=some x)
  (O:∀ q ∈ x.2,q.block<W.heap.size):∃ a n cap,cs=[.slice a n cap]/\n<=cap/\cap<=maxLen/\IL W a n:=by
 rcases open_slice1 underlying22 Tryz.cellsU8 h with ⟨rfl,rfl⟩|⟨a,len,cap,m,n,V,D,Pl,rfl,_,hl,Z,J,rfl,U⟩
 ·exact ⟨none,0,0,rfl,nL,by decide,Or.inl rfl⟩
 simp only [if_true] at J;subst J;refine ⟨some a,len,m,rfl,hl,Z,?_⟩
 by_cases h0:len=0
 ·exact Or.inl h0
 right
 obtain ⟨b,off,I⟩:=a;have u:I=none:=by simpa [Addr.add] using World.cell?_spot (U 0 (by omega)).1
 subst u;refine ⟨b,off,rfl,O (.cell b off) (List.mem_append_left _ (MemPlace.mem_row.2 ⟨0,by omega,by simp⟩)),fun i hi=>?_⟩;obtain ⟨q1,q2⟩:=U i (by omega);obtain ⟨z,Y,_,G⟩:=DataW.trod_int underlying5 q2;simp only [List.cons.injEq,and_true] at Y;rw [Y] at q1;simp only [Lit.wf,Bool.and_eq_true,decide_eq_true_eq] at G;have N:(0:Int)<=z:=G.1;have ad:z<=255:=G.2;refine ⟨z.toNat,by omega,?_⟩;rw [Int.toNat_of_nonneg N,<- add_plain];exact q1
end Go.Proofs.YtpfeegcdlikegaaGreat
namespace Go.Proofs.YtpfeegcdlikegaaGreat
open Go.RowKit Go.Proofs.Tryz
variable {W:World}{a:Option Addr}{n:Nat}
theorem xI (h:IL W a n):∃ bs:Nat->Nat,rN W a n bs/\∀ i,i<n->bs i<256:=by
 rcases h with G|⟨b,off,e,hb,u⟩
 ·exact ⟨fun _=>0,Or.inl G,fun _ _=>by show (0:Nat)<256;decide⟩
 refine ⟨fun i=>if hi:i<n then Classical.choose (u i hi) else 0,Or.inr ⟨b,off,e,hb,fun i hi=>?_⟩,fun i hi=>?_⟩
 ·dsimp only
  rw [dif_pos hi];exact (Classical.choose_spec (u i hi)).2
 dsimp only;rw [dif_pos hi];exact (Classical.choose_spec (u i hi)).1
end Go.Proofs.YtpfeegcdlikegaaGreat
namespace Go.Proofs.YtpfeegcdlikegaaGreat
open Go.ChangeShapes Go.WideShapes Go.ChangeAt Go.RowKit Go.Proofs.Tryz
theorem Tryz.own:ownKnob prog.godebug=none:=by kernel_rfl
theorem Tryz.laidOut:laidOutB prog=true:=by kernel_rfl
theorem sK (os:Os)(started:os.Started)(H:Type)(enc:TypeId × Value->H) :
  ReturnsInHanded {} Tryz.checked os 3 .any (Rows.fnLocalSpec.pre6 enc prog Tryz.f3 Rows.fnLocalRow.domain false) (Rows.fnLocalSpec.post enc prog Tryz.f3 false true false false):=by
 refine returnsInHanded_of_change_sized (C:=Tryz.checked) Tryz.own started (by kernel_rfl) func3
  (ChangeSpec.witness6 (enc:=enc) (C:=Tryz.checked) false ⟨#[],#[.slice none 0 0],[]⟩ 8 (by kernel_rfl) (by kernel_rfl) (by kernel_rfl) (by kernel_rfl)) ?_
 intro W base args ds gs before u hW _ G _;have ab:(DataW.weightsEach prog (Tryz.f3.params.toList ++ Rows.fnLocalSpec.plain.varTypes prog) (ds ++ gs)).all (·<=reachBytes)=true:=G;clear G;have hval:∀ (j:Nat) t v,Tryz.f3.params[j]?=some t->args[j]?=some v->Value.okWide prog W .any base t v:=u;have O:=hW;obtain ⟨p,q,Z,hV,rfl,_,_⟩:=hW;have hA:DataW.TrodAll enc prog W 0 (fun _=>true) true Tryz.f3.params.toList args.toList ds p:=Z;rw [Tryz.params3] at hA hval ab;obtain ⟨v0,d0,rfl,rfl,h0⟩:=trodAll_one hA;obtain ⟨rfl,rfl⟩:=trodVars_none hV;obtain ⟨a5,au,ax,rfl⟩:=okWide_slice underlying22 (hval 0 22 v0 rfl rfl);have ad:=h0;obtain ⟨af,ae⟩:=h0;clear Z u;simp only [List.append_nil] at O;have N:∀ x ∈ p,x.block<W.heap.size:=fun x hx=>by simpa using O.lt x hx
 obtain ⟨a0,n0,c0,J,I,Y,s0⟩:=LU ae N;simp only [Value.cells,List.cons.injEq,and_true] at J;injection J with e1 e2 e3
 subst e1 e2 e3;obtain ⟨bs,s1,s2⟩:=xI s0;refine (OT W (nZ I Y) (BB W I Y s1 s2)).mono fun e W' ⟨he,U⟩=>?_
 subst he;refine ⟨_,rfl,_,_,_,[],p,[],O,?_,?_,rfl,U.frame _,fun h=>by cases h⟩
 ·exact trodAll_mk1 (shut_bool underlying4 true)
 have:=trodAll_mk1 (Below.trod Tryz.laidOut (by kernel_rfl) (of_decide_eq_true (by kernel_rfl)) ad U N);try simp only [List.append_nil] at this
 exact this
theorem fnLocal_holds:Rows.FnLocalSaid :=
 OpenClaim.holds_of_wide 3 Tryz.f3 rfl rfl rfl rfl rfl rfl rfl ⟨rfl,rfl,rfl,rfl,rfl⟩ rfl rfl rfl rfl rfl (by kernel_rfl) func3 (by kernel_rfl)
  (of_decide_eq_true (by kernel_rfl)) (by unfold Func.isWrapper;first|(rw [if_pos (by decide +kernel)];kernel_rfl)|(rw [if_neg (by decide +kernel)];exact ⟨rfl,rfl⟩))
  (fun os started H enc _=>sK os started H enc)
#print axioms fnLocal_holds
end Go.Proofs.YtpfeegcdlikegaaGreat
