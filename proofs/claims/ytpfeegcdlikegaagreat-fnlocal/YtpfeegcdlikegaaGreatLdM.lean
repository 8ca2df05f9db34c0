import Derived.Test.YtpfeegcdlikegaaGreatLdC
set_option maxHeartbeats 16000000
set_option maxRecDepth 100000
namespace Go.Proofs.YtpfeegcdlikegaaGreat
open Go.RowKit Go.Proofs.Tryz
theorem kX {P:Program}{w w':World}{ops:Array Oper}{o:Oper}{a:Act}{K:Act->World->Prop}{Q:Exit->Act->World->Prop}{E:Prop}(u:o.guard=none)(s x:Operand)(t:TypeId)(U:o.op=.call { callee:=.builtin .append,args:=#[s,x],argTypes:=#[t,t] })(vs H I:Value)
  (G:(Builtin.append_ #[t,t] o.type #[vs,H]).run P w=.ok I w') (J:a.eval s=vs) (N:a.eval x=H) (h:K (a.put o.dst I) w') :
  if Region.wanted o (yielded ops a.tmps)=true then Oper.wp P o a w K Q else E:=by
 have O:Region.wanted o (yielded ops a.tmps)=true:=by simp [Region.wanted,u]
 rw [if_pos O];unfold Oper.wp execOp;simp only [U,resolve,invoke,builtin,Sem.run_bind,Sem.run_pure,Result.andThen_ok,List.map_toArray,List.map_cons,List.map_nil,J,N,G];exact h
theorem wS {P:Nat->Prop}{W:World}{base st n cap:Nat}{t:TypeId}{a:Option Addr}{xs:List Value}(h:W.ownsRow base t st (.slice a n cap) n xs)(J:∀ b,base<=b->b<W.heap.size->P b):Ip P a n:=by
 rcases cX h with ⟨_,I⟩|⟨g,G,e,hg,u,_⟩
 ·exact Or.inl I
 injection e with H
 subst H;exact Or.inr ⟨g,0,rfl,J g hg u⟩
theorem QO.kP {W W':World}{e:Ev}{t:Ls}(h:QO W e t)(u:KP (fun b=>t.lo<=b/\b<t.hi) W W'):QO W' e t:=by
 have H:yN (fun b=>t.lo<=b/\b<t.hi) W e t.pa t.cp t.aa t.ca t.ga t.cg:=⟨h.j.ok,h.j.ip,h.j.ia,h.j.ig⟩;exact ⟨⟨(H.kP u).ok,h.j.ip,h.j.ia,h.j.ig,h.j.hh.1,nZ h.j.hh.2 u.1⟩,aM h.p (fun b hb G=>u.2 b ⟨(aD h.p b hb).1,h.h b (Or.inl hb)⟩ G),aM h.a (fun b hb G=>u.2 b ⟨(aD h.a b hb).1,h.h b (Or.inr (Or.inl hb))⟩ G),aM h.g (fun b hb G=>u.2 b ⟨(aD h.g b hb).1,h.h b (Or.inr (Or.inr hb))⟩ G),h.d,h.h⟩
theorem KP.less {P u:Nat->Prop}{W W':World}(h:KP P W W')(H:∀ b,u b->P b):KP u W W':=⟨h.1,fun b G I=>h.2 b (H b G) I⟩
structure EG (p:Nat)(w w3 wz:World)(R rb rc n:Nat)(E:Nat->Ev)(T:Nat->Ls)(sg sgc:Nat)(A:Nat->List aE)(Aa:Nat->Option Addr)(Ca:Nat->Nat):Prop where
 rz:bY QO wz w3.heap.size (.slice (some ⟨rb,0,none⟩) n rc) n E T
 az:dQ List.length PE 26 wz w3.heap.size (.slice (some ⟨sg,0,none⟩) n sgc) n A Aa Ca
 al:∀ j,j<n->(A j).length=0\/∃ b off,Aa j=some ⟨b,off,none⟩/\w3.heap.size<=b/\b<R
 hh:∀ i,i<n->(T i).hi<=R
 hb:rb<R
 hg:sg<R
 hz:wz.heap.size=R+1
 l3:w.heap.size+2<=w3.heap.size
 d0:w.grownBy w3 (some p)
 d3:w3.grownBy wz (some p)
 room:aF E n=true
 fit:∀ j,j<n->bB E n (A j)
 n0:0<n
 hp:p<w.heap.size
section
variable {p:Nat} {w w3 wz W W':World} {bs:Nat->Nat} {m q q' R rb rc n sg sgc:Nat} {E:Nat->Ev} {T:Nat->Ls} {A:Nat->List aE} {Aa:Nat->Option Addr} {Ca:Nat->Nat} {sa:Option Addr} {sc:Nat} {s:List aE}
theorem EG.rv (h:EG p w w3 wz R rb rc n E T sg sgc A Aa Ca)(u:KP (fun b=>w.heap.size<=b/\b<R) wz W):bY QO W w3.heap.size (.slice (some ⟨rb,0,none⟩) n rc) n E T:=by
 have l3:=h.l3;exact ⟨aM h.rz.own (fun b hb G=>u.2 b (by have:=(aD h.rz.own b hb).1;have e:rb=b:=(by simpa [Value.ownBlock] using hb);have:=h.hb;omega) G),fun i hi=>(h.rz.q i hi).kP (u.less fun b hb=>by have:=h.rz.low i hi;have:=h.hh i hi;omega),h.rz.low,h.rz.ord,h.rz.apart⟩
theorem EG.av (h:EG p w w3 wz R rb rc n E T sg sgc A Aa Ca)(u:KP (fun b=>w.heap.size<=b/\b<R) wz W):dQ List.length PE 26 W w3.heap.size (.slice (some ⟨sg,0,none⟩) n sgc) n A Aa Ca:=by
 have l3:=h.l3;exact ⟨aM h.az.own (fun b hb G=>u.2 b (by have:=(aD h.az.own b hb).1;have e:sg=b:=(by simpa [Value.ownBlock] using hb);have:=h.hg;omega) G),fun i hi=>dF.kP (h.az.sl i hi) ((h.al i hi).imp id fun ⟨b,off,e,q1,H⟩=>⟨b,off,e,(show w.heap.size<=b/\b<R from by omega)⟩) u,h.az.apart⟩
theorem EG.gw (h:EG p w w3 wz R rb rc n E T sg sgc A Aa Ca)(H:KP (fun b=>w.heap.size<=b/\b<R) wz W):YK p W rb 0 n rc E sg 0 n A Aa Ca:=fun W' hg=>by
 have l3:=h.l3;have hp:=h.hp;have G:KP (fun b=>w.heap.size<=b/\b<R) wz W':=H.trans ⟨hg.size,fun b J I=>hg.block b I (fun e=>by injection e with e;omega)⟩;have hr:=h.rv G;have ha:=h.av G;exact ⟨(hr.at uF).2.2.1,fun j u=>by rw [Nat.zero_add];exact ⟨_,_,_,_,_,_,(hr.at uF).2.2.2 j u,(hr.q j u).j.ok⟩,fun j u=>⟨ha.at.2.2.2.2 j u,ha.sl j u⟩⟩
theorem EG.d3w (h:EG p w w3 wz R rb rc n E T sg sgc A Aa Ca)(hi:jA p w wz W bs m q R (.slice (some ⟨rb,0,none⟩) n rc) (.slice sa s.length sc) s):bR p w3 W bs m q:=by
 have l3:=h.l3;refine ⟨hi.dw.1,hi.dw.2.os.trans h.d0.os.symm,hi.dw.2.tape.trans h.d0.tape.symm,hi.dw.2.output.trans h.d0.output.symm,nZ h.d3.size hi.kp.1,fun b hb u=>?_⟩;rcases Nat.lt_or_ge b w.heap.size with G|G
 ·exact (hi.dw.2.block b G u).trans (h.d0.block b G u).symm
 have:=h.d3.size
 have:=h.hz
 have:=(h.rz.at uF).2.1
 have:=h.hb;exact (hi.kp.2 b (by omega) (by omega)).trans (h.d3.block b hb u)
theorem jA.grow {row:Option Nat}{sv u:Value}{s G:List aE}(h:jA p w wz W bs m q R (.slice (some ⟨rb,0,none⟩) n rc) sv s)(hg:W.grownBy W' row)(hr:∀ b,row=some b->R<b)(U:aU W' (R+1) u G)(H:bK G)(Y:G.length<=900)(hp:p<w.heap.size):jA p w wz W' bs m q R (.slice (some ⟨rb,0,none⟩) n rc) u G:=by
 have lr:=h.lr;have I:∀ b,b<=R->W'.heap[b]?=W.heap[b]?:=fun b O=>hg.block b (by omega) (fun e=>by have:=hr b e.symm;omega)
 have J:=I R nL;exact ⟨h.dz.kept (fun b N O=>I b (by omega)),(World.cell?_of_block (a:=⟨R,0,none⟩) J).trans h.r,(World.frozen?_of_block (a:=⟨R,0,none⟩) J).trans h.rf,h.dw.grow hg (fun b hb=>by have:=hr b hb;omega) hp,h.kp.trans ⟨hg.size,fun b N _=>I b (by omega)⟩,U,H,Y,lr.1,nT lr.2 hg.size⟩
theorem jA.drew {sv:Value}{s:List aE}(h:jA p w wz W bs m q R (.slice (some ⟨rb,0,none⟩) n rc) sv s):jA p w wz W.drew bs m q R (.slice (some ⟨rb,0,none⟩) n rc) sv s:=h.below kB.drew
theorem RM {u:World}{tr:TypeId}(hp:p<w.heap.size)(l3:w.heap.size+2<=w3.heap.size)(d0:w.grownBy w3 (some p))(U:w3.grownBy u (some p))(J:bY QO u w3.heap.size (.slice (some ⟨rb,0,none⟩) n rc) n E T)(N:dQ List.length PE 26 u w3.heap.size (.slice (some ⟨sg,0,none⟩) n sgc) n A Aa Ca)(I:∀ j,j<n->(A j).length=0\/∃ b off,Aa j=some ⟨b,off,none⟩/\w3.heap.size<=b)(room:aF E n=true)(fit:∀ j,j<n->bB E n (A j))(n0:0<n) :
  EG p w w3 (u.alloc (.cells #[.slice (some ⟨rb,0,none⟩) n rc] tr)) u.heap.size rb rc n E T sg sgc A Aa Ca:=by
 have hb:Below u.heap.size u (u.alloc (.cells #[.slice (some ⟨rb,0,none⟩) n rc] tr)):=bA;refine ⟨J.below LK hb,N.below VG hb,fun j G=>?_,fun i hi=>(J.q i hi).j.hh.2,(J.at uF).1,N.at.1,by simp,l3,d0,U.andThen (RR hb none) (fun j G=>by cases G),room,fit,n0,hp⟩;rcases I j G with Z|⟨b,off,e,h1⟩
 ·exact Or.inl Z
 rcases (N.sl j G).cells with h2|⟨Y,O,H,h3,_⟩
 ·exact Or.inl (by rw [h2];rfl)
 have e2:b=Y:=by rw [e] at H;injection H with H;injection H
 exact Or.inr ⟨b,off,e,h1,by omega⟩
theorem UC {u:World}{tr:TypeId}{sv:Value}{s:List aE}(h:EG p w w3 (u.alloc (.cells #[.slice (some ⟨rb,0,none⟩) n rc] tr)) u.heap.size rb rc n E T sg sgc A Aa Ca)(hz:LO w w3)(H:bR p w3 u bs m q)(hb:Below (u.alloc (.cells #[.slice (some ⟨rb,0,none⟩) n rc] tr)).heap.size (u.alloc (.cells #[.slice (some ⟨rb,0,none⟩) n rc] tr)) W)(U:aU W (u.alloc (.cells #[.slice (some ⟨rb,0,none⟩) n rc] tr)).heap.size sv s)(J:bK s)(hl:s.length<=900):jA p w (u.alloc (.cells #[.slice (some ⟨rb,0,none⟩) n rc] tr)) W bs m q u.heap.size (.slice (some ⟨rb,0,none⟩) n rc) sv s:=by
 have I:(u.alloc (.cells #[.slice (some ⟨rb,0,none⟩) n rc] tr)).heap.size=u.heap.size+1:=by simp
 have G:Below u.heap.size u (u.alloc (.cells #[.slice (some ⟨rb,0,none⟩) n rc] tr)):=bA;have l3:=h.l3;have hp:=h.hp;have hs:=H.size;have Z:=hb.size;have k:∀ b,b<u.heap.size->W.heap[b]?=u.heap[b]?:=fun b N=>(hb.block b (by omega)).trans (G.block b N)
 have O:W.heap[u.heap.size]?=(u.alloc (.cells #[.slice (some ⟨rb,0,none⟩) n rc] tr)).heap[u.heap.size]?:=hb.block _ (by omega);have d0:bR p w u bs m q:=⟨H.1,h.d0.andThen H.2 (fun _ Y=>Or.inr Y)⟩;rw [I] at U;exact ⟨hz.kept (fun b h1 h2=>(k b (by omega)).trans (H.2.block b (by omega) (fun e=>by injection e with e;omega))),(World.cell?_of_block (a:=⟨u.heap.size,0,none⟩) O).trans (kA rfl),(World.frozen?_of_block (a:=⟨u.heap.size,0,none⟩) O).trans (kF rfl),(d0.below G).below hb,KP.blw hb,U,J,hl,by omega,by omega⟩
theorem RT {u:World}{te:TypeId}{e:Ev}{pa aa ga:Option Addr}{cp ca cg:Nat}(h:EG p w w3 wz R rb rc n E T sg sgc A Aa Ca)(hi:jA p w wz W bs m q R (.slice (some ⟨rb,0,none⟩) n rc) (.slice sa s.length sc) s)(ad:cI u e pa cp aa ca ga cg)(hO:GwO u W.heap.size e pa cp aa ca ga cg)(hd:bR p W u bs m q') :
  vQ p w w3 (u.alloc (.cells (ec e pa cp aa ca ga cg) te)) bs m q' R u.heap.size rb rc n E T sa sc s/\(∀ o,o<10->(u.alloc (.cells (ec e pa cp aa ca ga cg) te)).cell? ⟨u.heap.size,o,none⟩=some (((ec e pa cp aa ca ga cg):Array Value)[o]?.getD undef))/\yN (fun b=>PV w R u.heap.size b/\(Value.slice sa s.length sc).ownBlock≠some b) (u.alloc (.cells (ec e pa cp aa ca ga cg) te)) e pa cp aa ca ga cg:=by
 obtain ⟨J,U⟩:∃ J,J=u.alloc (.cells (ec e pa cp aa ca ga cg) te):=⟨_,rfl⟩
 have hv:∀ o,o<10->J.cell? ⟨u.heap.size,o,none⟩=some (((ec e pa cp aa ca ga cg):Array Value)[o]?.getD undef):=fun o ho=>by
  rw [U,kA rfl]
  match o,ho with
  | 0,_=>rfl
  | 1,_=>rfl
  | 2,_=>rfl
  | 3,_=>rfl
  | 4,_=>rfl
  | 5,_=>rfl
  | 6,_=>rfl
  | 7,_=>rfl
  | 8,_=>rfl
  | 9,_=>rfl
 have ab:∀ o,J.frozen? ⟨u.heap.size,o,none⟩=false:=fun o=>by rw [U];exact kF rfl
 have Y:Below u.heap.size u J:=by rw [U];exact bA
 have aq:J.heap.size=u.heap.size+1:=by rw [U];simp
 rw [<- U];clear U;have G:jA p w wz J bs m q' R (.slice (some ⟨rb,0,none⟩) n rc) (.slice sa s.length sc) s:=(hi.draw hd h.hp).below Y;have lr:=hi.lr;have l3:=h.l3;have ay:=hd.size;have O:∀ b,(Value.slice sa s.length sc).ownBlock=some b->R+1<=b/\b<W.heap.size:=fun b hb=>aD hi.so b hb
 have H:=h.rv G.kp;obtain ⟨a1,a2,a3,a4⟩:=H.at uF;have Z:=h.hb;have I:∀ b,w3.heap.size<=b->b<R->PV w R u.heap.size b:=fun b h1 h2=>⟨by omega,by omega,by omega⟩
 obtain ⟨x1,x2,e1,ai⟩:=G.so.sl G.ok.at;injection e1 with e1 _ e2
 subst e1 e2
 have af:EY (PV w R u.heap.size) J rb rc n E:=⟨a3.le,a3.max,I rb a2 Z,a1,fun i hi=>⟨_,_,_,_,_,_,a4 i hi,by
  have q:=(H.q i hi).j;have lo:=H.low i hi;have hh:=h.hh i hi;exact ⟨q.ok,q.ip.imp id fun ⟨b,o,e,q1,q2⟩=>⟨b,o,e,I b (by omega) (by omega)⟩,q.ia.imp id fun ⟨b,o,e,q1,q2⟩=>⟨b,o,e,I b (by omega) (by omega)⟩,q.ig.imp id fun ⟨b,o,e,q1,q2⟩=>⟨b,o,e,I b (by omega) (by omega)⟩⟩⟩⟩
 have hP:∀ b,W.heap.size<=b->b<u.heap.size->PV w R u.heap.size b/\(Value.slice sa s.length sc).ownBlock≠some b:=fun b h1 h2=>⟨⟨by omega,by omega,by omega⟩,fun e=>by have:=O b e;omega⟩
 refine ⟨⟨⟨G.dz,G.r,G.rf,fun o ho=>⟨_,hv o ho⟩,ab,lr.1,by omega,by omega,G.dw,af,ai,CP G.so (fun b hb=>by have:=O b hb;exact ⟨by omega,by omega,by omega⟩)⟩,G.so,fun b hb=>by have:=O b hb;omega,G.ok,G.len,H,h.hh,Z,l3,h.d3w G,h.d0,fun i hi=>?_⟩,hv,yN.kP ⟨ad,wS hO.1 hP,wS hO.2.1 hP,wS hO.2.2.1 hP⟩ (KP.blw Y)⟩;have N:=DG (cL h.room hi)
 have:=N.hnp
 have:=N.hna
 have:=N.hng;exact ⟨by omega,by omega,by omega⟩
end
theorem JD (a b:List aE):dP (a ++ b)=dP a ++ dP b:=by simp [dP]
theorem CW (l:List aE)(k:Nat):dP (l.drop k)=(dP l).drop (k * 3):=by
 induction l generalizing k with
 | nil=>simp [dP]
 | cons y l ih =>
  cases k with
  | zero=>simp
  | succ k =>
   rw [List.drop_succ_cons,ih,eN,Nat.succ_mul];rfl
theorem dF.takeE {w:World}{a:Option Addr}{cap i:Nat}{l:List aE}(h:dF w a cap l)(hi:i<=l.length):dF w a cap (l.take i):=by
 have e:(l.take i).length=i:=by rw [List.length_take];omega
 have H:∀ j,j<i->aI (l.take i) j=aI l j:=fun j u=>by
  unfold aI;rw [List.getD_eq_getElem?_getD,List.getD_eq_getElem?_getD,List.getElem?_take,if_pos u]
 have J:=h.le;refine ⟨by omega,h.max,fun j u=>?_,?_⟩
 ·rw [e] at u
  rw [H j u];exact h.size j (by omega)
 rcases h.cells with rfl|⟨b,off,I,G,c0,c1,c2⟩
 ·exact Or.inl (by simp)
 refine Or.inr ⟨b,off,I,G,fun j u=>?_,fun j u=>?_,fun j u=>?_⟩
 all_goals
  rw [e] at u;rw [H j u]
 ·exact c0 j (by omega)
 ·exact c1 j (by omega)
 exact c2 j (by omega)
theorem jA.setE {p:Nat}{w wz W:World}{bs:Nat->Nat}{m q R rb rc n sc:Nat}{s:List aE}{sa:Option Addr}{e:aE}(h:jA p w wz W bs m q R (.slice (some ⟨rb,0,none⟩) n rc) (.slice sa s.length sc) s)(U:s.length<=300)(N:e.ty.size<=maxLen/\e.key.size<=maxLen/\e.id.size<=maxLen):Calls prog 24 #[.slice sa s.length sc,.agg #[.string e.ty,.string e.key,.string e.id],.bool false] W fun x w'=>∃ a cap,x=.returned (.slice a (dG s e false).length cap)/\jA p w wz w' bs m q R (.slice (some ⟨rb,0,none⟩) n rc) (.slice a (dG s e false).length cap) (dG s e false):=by
 obtain ⟨x1,Y,H,G⟩:=h.so.sl h.ok.at;injection H with H _ O
 subst H O;refine (nH e false W (by omega) G).mono fun x w' ⟨v,J,I,hb⟩=>?_
 have u:bK (dG s e false):=h.ok.set N;obtain ⟨a,cap,rfl,_⟩:=I.sl u.at;exact ⟨a,cap,J,(h.below hb).list I (by have:=h.lr;omega) u (by have:=oO s e false;omega)⟩
theorem jA.copyE {p:Nat}{w wz W:World}{bs:Nat->Nat}{m q R rb rc n sc:Nat}{s:List aE}{sa:Option Addr}{X:World}{i L:Nat}(h:jA p w wz W bs m q R (.slice (some ⟨rb,0,none⟩) n rc) (.slice sa s.length sc) s)(hL:L=s.length)(hi:i<L)(H:Below W.heap.size W X):Calls prog 36 #[.slice sa i sc] X fun e w'=>∃ v,e=.returned v/\aU w' (R+1) v (s.take i)/\Below W.heap.size W w':=by
 have hl:=h.len;have lr:=h.lr;have I:=H.size;have J:(s.take i).length=i:=by rw [List.length_take];omega
 obtain ⟨x1,x2,G,u⟩:=(h.below H).so.sl h.ok.at;injection G with G _ U
 subst G U;have N:=yC X (by rw [J];omega) (u.takeE (i:=i) (by omega));rw [J] at N;exact N.mono fun _ w' ⟨v,Y,Z,O⟩=>⟨v,Y,Z.base_le (by omega),H.trans (O.mono I)⟩
theorem jA.cutE {p:Nat}{w wz W:World}{bs:Nat->Nat}{m q R rb rc n sc:Nat}{s:List aE}{g i L:Nat}(h:jA p w wz W bs m q R (.slice (some ⟨rb,0,none⟩) n rc) (.slice (some ⟨g,0,none⟩) s.length sc) s)(hL:L=s.length)(hi:i<L)(a6:L<=sc)(hp:p<w.heap.size){N:World}{v5:Value}(ho:aU N (R+1) v5 (s.take i))(hb:Below W.heap.size W N)(ad:Addr)(ag:ad=if sc=i+1 then ⟨g,0,none⟩ else ⟨g,(i+1) * 3,none⟩) :
  ∃ J O,(Builtin.append_ #[26,26] 26 #[v5,.slice (some ad) (L - (i+1)) (sc - (i+1))]).run prog N=.ok J O/\∃ a c,J=.slice a (s.take i ++ s.drop (i+1)).length c/\jA p w wz O bs m q R (.slice (some ⟨rb,0,none⟩) n rc) J (s.take i ++ s.drop (i+1)):=by
 subst hL;obtain ⟨i0,ao,ap,am,aq⟩:=info_parts Tryz.infoEntry;have ay:=h.len;have ht:(s.take i).length=i:=by rw [List.length_take];omega
 have hd:(s.drop (i+1)).length=s.length - (i+1):=by rw [List.length_drop]
 have h5:=h.below hb;have ab:=h5.so
 have I:∀ j u,(dP (s.drop (i+1)))[j]?=some u->N.cell? (ad.add j)=some u:=fun j u hj=>by
  have a2:j<(s.length - (i+1)) * 3:=by
   have:=(List.getElem?_eq_some_iff.1 hj).1;rw [pF,hd] at this;exact this
  rw [if_neg (by omega)] at ag;rcases cX ab with ⟨e,_⟩|⟨g',au,e,_,_,_,_,H,_⟩
  ·cases e
  injection e with e1
  injection e1 with e1
  injection e1 with e1
  subst e1;rw [ag,Addr.add_lit]
  have:=H ((i+1) * 3+j) (by omega);rw [Nat.zero_add] at this;rw [this,<- hj,CW,List.getElem?_drop]
 have G:N.ownsRow (R+1) 66 3 v5 (s.take i).length (dP (s.take i)):=ho;obtain ⟨J,O,af,h2,h3,-,bb⟩:=run_append_own_at (P:=prog) N (R+1) 26 26 66 i0 (.agg #[.string ByteArray.empty,.string ByteArray.empty,.string ByteArray.empty]) 3 48 underlying26 ao ap am aq rfl (by decide) v5 _ _ G ad (s.length - (i+1)) (sc - (i+1)) (dP (s.drop (i+1))) (by rw [pF,hd]) I (fun u hu=>yV _ u hu) (by rw [ht];unfold maxLen;omega) (by rw [ht];omega) (by have:=h.lr;have:=hb.size;omega)
 have U:aU O (R+1) J (s.take i ++ s.drop (i+1)):=by
  unfold aU;rw [List.length_append,hd,JD];exact h2
 have Z:bK (s.take i ++ s.drop (i+1)):=fun x H=>h.ok x (by
  rcases List.mem_append.1 H with H|H
  ·exact List.mem_of_mem_take H
  exact List.mem_of_mem_drop H)
 have Y:(s.take i ++ s.drop (i+1)).length<=900:=by rw [List.length_append,ht,hd];omega
 have hI:jA p w wz O bs m q R (.slice (some ⟨rb,0,none⟩) n rc) J (s.take i ++ s.drop (i+1)):=h5.grow h3 (fun b an=>(aD G b an).1) U Z Y hp;obtain ⟨a,c,e,_⟩:=U.sl Z.at;exact ⟨J,O,af,a,c,e,hI⟩
end Go.Proofs.YtpfeegcdlikegaaGreat
