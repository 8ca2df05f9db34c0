import Derived.Test.YtpfeegcdlikegaaGreatXeMZ
set_option maxHeartbeats 16000000
set_option maxRecDepth 100000
namespace Go.Proofs.YtpfeegcdlikegaaGreat
open Go.RowKit Go.Proofs.Tryz
theorem JQ (b off n cap:Nat)(S:Nat->ByteArray)(u:ByteArray)(w:World)(hn:n<=maxLen)
  (H:(fH S u n).size<=140737488355328)
  (hc:∀ i,i<n->w.cell? ⟨b,off+i,none⟩=some (.string (S i))) :
  Calls prog 85 #[.slice (some ⟨b,off,none⟩) n cap,.string u] w fun e w'=>e=.returned (.string (fH S u n))/\w'=w:=by
 unfold maxLen at hn
 go_enter func85,ntmps85
 go_wp2
 go_loop [5,6] (fun o i=>∃ k:Nat,k<=n/\i=.int .i64 k/\o=.string (fH S u k)) (fun _ i=>n - (intOf i).toNat)
 case atStart=>exact ⟨0,nz,rfl,rfl⟩
 case round =>
  obtain ⟨k,hk,rfl,rfl⟩:=hrel
  by_cases J:k<n
  ·have G:=hc k J
   have I:=mY S u (n:=n) (k:=k+1) (by omega)
   by_cases N:k=0
   ·subst N
    have G:w.cell? ⟨b,off,none⟩=some (.string (S 0)):=G;have ab:(S 0).size<=140737488355328:=nZ I H;have e0:fH S u 0 ++ S 0=S 0:=ByteArray.empty_append;have hx:¬ 9223372036854775807<(fH S u 0).size+(S 0).size:=by simp only [fH,ByteArray.size_empty];omega
    go_wp2
    go_round
    case rel=>exact ⟨1,by omega,by go_num,rfl⟩
    simp [intOf];omega
   have Z:0<k:=by omega
   have O:fH S u (k+1)=fH S u k ++ u ++ S k:=by rw [fH,if_neg N]
   have es:(fH S u k).size+u.size+(S k).size<=140737488355328:=by
    have:(fH S u (k+1)).size=(fH S u k).size+u.size+(S k).size:=by rw [O,ByteArray.size_append,ByteArray.size_append]
    omega
   have U:¬ 9223372036854775807<(fH S u k).size+u.size:=by omega
   have Y:¬ 9223372036854775807<(fH S u k).size+u.size+(S k).size:=by omega
   go_wp2
   go_round
   case rel=>exact ⟨k+1,by omega,by go_num,by rw [O]⟩
   simp [intOf];omega
  go_wp2
  go_ret;rw [show n=k by omega];exact ⟨rfl,rfl⟩
variable {c k m n q hi lo cap:Nat}{w w':World}{M S:Nat->ByteArray}{L:Nat->Int}{Kc:Nat->Nat->Prop}{bs:Nat->Nat}{e:Ev}
theorem GV.less {a:Option Addr}{x y:Nat}(h:GV a n lo hi y)(G:x<=y):GV a n lo hi x :=
 h.imp id fun ⟨b,off,e,u⟩=>⟨b,off,e,u.imp id fun H=>nZ G H⟩
theorem dE.ks {a:Option Addr}(h:dE w a n cap S)(O:GV a n lo hi (c+1))(I:Kb c w w')(hr:hi<=c):dE w' a n cap S:=by
 rcases O with J|⟨b,off,rfl,Y⟩
 ·exact ⟨h.le,h.max,h.size,Or.inl J⟩
 refine ⟨h.le,h.max,h.size,h.cells.imp id fun ⟨H,u,e,G,N⟩=>⟨H,u,e,nT G I.1,fun i hi=>?_⟩⟩;have U:b=H:=by injection e with e;injection e
 exact (I.cell G (by omega)).trans (N i hi)
theorem gN.ks {a:Option Addr}(h:gN w a n cap M L)(U:GV a n lo hi (c+1))(I:Kb c w w')(hr:hi<=c):gN w' a n cap M L:=by
 rcases U with N|⟨b,off,rfl,Z⟩
 ·exact ⟨h.le,h.max,h.size,Or.inl N⟩
 refine ⟨h.le,h.max,h.size,h.cells.imp id fun ⟨H,G,e,u,O,Y⟩=>⟨H,G,e,nT u I.1,fun i hi=>?_,fun i hi=>?_⟩⟩
 ·have J:b=H:=by injection e with e;injection e
  exact (I.cell u (by omega)).trans (O i hi)
 have J:b=H:=by injection e with e;injection e
 exact (I.cell u (by omega)).trans (Y i hi)
def XeQ (Kc:Nat->Nat->Prop)(p:Nat)(wo w:World)(bs:Nat->Nat)(m q:Nat)(e:Ev)(lo hi:Nat)(x:Ending)(w':World):Prop:=YG p wo w bs m q e lo hi x w'/\∀ b o,Kc b o->w'.cell? ⟨b,o,none⟩=w.cell? ⟨b,o,none⟩
theorem PN {p:Nat}{wo:World}{v:Nat}(O:hi<=w.heap.size)(Z:k=eD bs m q)(U:v=eD bs m (aN m q)):yL Kc p wo w bs m (aN m (aN m q)) lo hi (gD k v e) (XeQ Kc p wo w bs m q e lo hi):=by
 intro pa cp aa ca ga cg W W' u J N I G hK Y;subst Z U;refine ⟨⟨pa,cp,aa,ca,ga,cg,rfl,⟨u.hid,u.hsd,u.hty,u.hkey,u.hval,u.hp.ks J hK (by omega),u.ha.ks N hK (by omega),u.hg.ks I hK (by omega)⟩,J.less (by omega),N.less (by omega),I.less (by omega),by have:=G.sz;have:=hK.1;omega,fun b hb h4 h5=>?_,Y⟩,fun b o H=>?_⟩
 ·exact (hK.2 b (by have:=G.sz;omega) (by omega)).trans (G.k b hb h4 h5)
 exact (hK.cell (by have:=G.sz;have:=(G.kc b o H).1;omega) (by have:=(G.kc b o H).1;omega)).trans (G.kc b o H).2.2
theorem QV (Kc:Nat->Nat->Prop)(p:Nat)(e:Ev)(t:Ls)(wo w:World)(hp:p<wo.heap.size)(Y:wo.heap.size<=t.lo)(hd:bR p wo w bs m q)(hQ:QO w e t)(hnp:e.np<=1000)(hna:e.na<=1000)(hng:e.ng<=1000)(ay:∀ b o,Kc b o->b<w.heap.size/\b≠p)(ax:He (∀ b o,Kc b o->(Value.slice t.pa e.np t.cp).ownBlock=some b->o<e.np * 1))(a8:He (∀ b o,Kc b o->(Value.slice t.aa e.na t.ca).ownBlock=some b->o<e.na * 1))(a6:He (∀ b o,Kc b o->(Value.slice t.ga e.ng t.cg).ownBlock=some b->o<e.ng * 2)) :
  Calls prog 39 #[.pointer (some ⟨p,0,none⟩),e.val' t.pa t.cp t.aa t.ca t.ga t.cg] w (XeQ Kc p wo w bs m q e t.lo t.hi):=by
 have G:wo.heap.size<=w.heap.size:=hd.size;have u:t.hi<=w.heap.size:=hQ.j.hh.2;have ba:p<w.heap.size:=nT hp G;have am:=RL (Kc:=Kc) (t:=30) (lo:=t.lo) (hi:=t.hi) (cs:=(ec e t.pa t.cp t.aa t.ca t.ga t.cg)) hd rfl ay;obtain ⟨wa,ag⟩:∃ wa,wa=(w.alloc (.cells (ec e t.pa t.cp t.aa t.ca t.ga t.cg) 30)).alloc (.cells #[.string ⟨#[]⟩,.string ⟨#[]⟩,.string ⟨#[]⟩,.bool false,.string ⟨#[]⟩,.int .i64 0,.slice none 0 0,.slice none 0 0,.string ⟨#[]⟩,.slice none 0 0] 30):=⟨_,rfl⟩;rw [<- ag] at am;have au:Below w.heap.size w wa:=by rw [ag];exact bA.alloc (by simp) _
 have a4:He (QO wa e t):=LK.below hQ au;have an:He (_):=am;have O:=hd.1.nx;obtain ⟨k,ab⟩:∃ k,k=eD bs m q:=⟨_,rfl⟩;have Hk:He (k=eD bs m q):=ab;rw [<- ab] at O;clear am hQ au ay
 go_enter func39,ntmps39
 go_wp2_with fail
 rw [<- ag];clear ag;refine (iC p wa an.o.dw.1).mono ?_;rintro x w1 ⟨rfl,ae⟩;rw [<- ab];clear ab hd;have aj:He (_):=an.o.draw ba ae;have aw:He (QO w1 e t):=a4.o.grown ae.2 (fun b hb=>by injection hb with hb;omega);have Z:=ae.1.nx;obtain ⟨v,ad⟩:∃ v,v=eD bs m (aN m q):=⟨_,rfl⟩;have Hv:He (v=eD bs m (aN m q)):=ad;rw [<- ad] at Z;clear an a4 ae
 go_wp2_with fail
 refine (iC p w1 aj.o.dw.1).mono ?_;rintro x w2 ⟨rfl,ap⟩;rw [<- ad];clear ad;have ai:He (_):=aj.o.draw ba ap;have ak:He (QO w2 e t):=aw.o.grown ap.2 (fun b hb=>by injection hb with hb;omega);clear aj aw ap;obtain ⟨od,af⟩:∃ od,od=iT v:=⟨_,rfl⟩;have N:He (od=iT v):=af
 go_upto_region 3 with fail
 go_cut [7] (fun x wx=>x=.string od/\Below w2.heap.size w2 wx)
 case first =>
  clear ai ak;obtain ⟨v9,a3⟩:∃ v9,v9=v % 10:=⟨_,rfl⟩;have bj:(v:Int) % 10=(v9:Int):=by omega
  have bm:(0:Int)<=(v9:Int):=by omega
  have bk:(v9:Int)<10:=by omega
  have bi:Below w2.heap.size w2 ((w2.alloc (.cells #[.string ⟨#[48,49,50,51,52,53,54,55,56,57]⟩,.string ⟨#[48,49,50,51,52,53,54,55,56,57]⟩,.string ⟨#[48,49,50,51,52,53,54,55,56,57]⟩,.string ⟨#[48,49,50,51,52,53,54,55,56,57]⟩] 9)).alloc (.cells #[.string ⟨#[]⟩,.string ⟨#[97,32,98]⟩,.string ⟨#[120,44,121]⟩,.string ⟨#[45]⟩,.string ⟨#[97,58,98]⟩,.string ⟨#[48,49,50,51,52,53,54,55,56,57,48,49,50,51,52,53,54,55,56,57,48,49,50,51,52,53,54,55,56,57,48,49,50,51,52,53,54,55,56,57]⟩,.string ⟨#[48,49,50,51,52,53,54,55,56,57,48,49,50,51,52,53,54,55,56,57,48,49,50,51,52,53,54,55,56,57,48,49,50,51,52,53,54,55,56,57,48]⟩,.string ⟨#[61]⟩,.string ⟨#[42,115,116,97,116,101]⟩,.string ⟨#[111,107]⟩] 9)):=bA.alloc (by simp) _
  have bo:((w2.alloc (.cells #[.string ⟨#[48,49,50,51,52,53,54,55,56,57]⟩,.string ⟨#[48,49,50,51,52,53,54,55,56,57]⟩,.string ⟨#[48,49,50,51,52,53,54,55,56,57]⟩,.string ⟨#[48,49,50,51,52,53,54,55,56,57]⟩] 9)).alloc (.cells #[.string ⟨#[]⟩,.string ⟨#[97,32,98]⟩,.string ⟨#[120,44,121]⟩,.string ⟨#[45]⟩,.string ⟨#[97,58,98]⟩,.string ⟨#[48,49,50,51,52,53,54,55,56,57,48,49,50,51,52,53,54,55,56,57,48,49,50,51,52,53,54,55,56,57,48,49,50,51,52,53,54,55,56,57]⟩,.string ⟨#[48,49,50,51,52,53,54,55,56,57,48,49,50,51,52,53,54,55,56,57,48,49,50,51,52,53,54,55,56,57,48,49,50,51,52,53,54,55,56,57,48]⟩,.string ⟨#[61]⟩,.string ⟨#[42,115,116,97,116,101]⟩,.string ⟨#[111,107]⟩] 9)).cell? ⟨w2.heap.size+1,v9,none⟩=some (.string od):=by
   rw [kA (by simp),af];unfold iT;rw [<- a3]
   match v9,(by omega:v9<10) with
   | 0,_=>rfl
   | 1,_=>rfl
   | 2,_=>rfl
   | 3,_=>rfl
   | 4,_=>rfl
   | 5,_=>rfl
   | 6,_=>rfl
   | 7,_=>rfl
   | 8,_=>rfl
   | 9,_=>rfl
  have aq:fH (fun _=>(⟨#[48,49,50,51,52,53,54,55,56,57]⟩:ByteArray)) ⟨#[]⟩ 4=⟨#[48,49,50,51,52,53,54,55,56,57,48,49,50,51,52,53,54,55,56,57,48,49,50,51,52,53,54,55,56,57,48,49,50,51,52,53,54,55,56,57]⟩:=by decide
  have HJ:He (∀ W,W=w2.alloc (.cells #[.string ⟨#[48,49,50,51,52,53,54,55,56,57]⟩,.string ⟨#[48,49,50,51,52,53,54,55,56,57]⟩,.string ⟨#[48,49,50,51,52,53,54,55,56,57]⟩,.string ⟨#[48,49,50,51,52,53,54,55,56,57]⟩] 9)->Calls prog 85 #[.slice (some ⟨w2.heap.size,0,none⟩) (4:Nat) 4,.string ⟨#[]⟩] W fun e w'=>e=.returned (.string ⟨#[48,49,50,51,52,53,54,55,56,57,48,49,50,51,52,53,54,55,56,57,48,49,50,51,52,53,54,55,56,57,48,49,50,51,52,53,54,55,56,57]⟩)/\w'=W):=fun W hW=>by
   have:=JQ w2.heap.size 0 4 4 (fun _=>(⟨#[48,49,50,51,52,53,54,55,56,57]⟩:ByteArray)) ⟨#[]⟩ W (by decide) (by rw [aq];decide) (fun i hi=>by
    rw [hW,kA rfl]
    match i,hi with
    | 0,_=>rfl
    | 1,_=>rfl
    | 2,_=>rfl
    | 3,_=>rfl)
   rw [aq] at this;exact this
  clear af a3 aq N Hk Hv
  go_wp2_with fail
  refine (HJ.o _ rfl).mono ?_;rintro x w3 ⟨rfl,rfl⟩;clear HJ;go_wp2
  go_meet;exact ⟨rfl,bi⟩
 case rest =>
  obtain ⟨rfl,ao⟩:=hcut;obtain ⟨wz,bg⟩:∃ wz:World,wz=wc:=⟨_,rfl⟩;subst bg;have I:He (_):=ai.o.below ao;have J:He (QO wz e t):=LK.below ak.o ao;have U:He (yL Kc p wo w bs m (aN m (aN m q)) t.lo t.hi (gD k v e) (XeQ Kc p wo w bs m q e t.lo t.hi)):=PN u Hk.o Hv.o;clear ai ak ao af Hk Hv;obtain ⟨c,H⟩:∃ c,k % 16=c:=⟨_,rfl⟩;have a5:c<16:=by omega
  match c,a5,H with
  | 0,_,H=>apply_assumption;exact bb0 p wo w wz hp G u O Z H N J I U
  | 1,_,H=>apply_assumption;exact by0 p wo w wz hp G u O Z H N J I U
  | 2,_,H=>apply_assumption;exact br0 p wo w wz hp G u O Z H N J I U
  | 3,_,H=>apply_assumption;exact aw0 p wo w wz hp G u O Z H N J I U
  | 4,_,H=>apply_assumption;exact bq0 p wo w wz hp G u O Z H N J I U
  | 5,_,H=>apply_assumption;exact c00 p wo w wz hp G u O Z H N J I U
  | 6,_,H=>apply_assumption;exact bz0 p wo w wz hp G u O Z H N J I U
  | 7,_,H=>apply_assumption;exact bm0 p wo w wz hp G Y u O H hnp N J I ax U
  | 8,_,H=>apply_assumption;exact b10 p wo w wz hp G Y u O H hna J I a8 U
  | 9,_,H=>apply_assumption;exact az0 p wo w wz hp G Y u O H hnp N J I ax U
  | 10,_,H=>apply_assumption;exact ZV p wo w wz hp G Y u O Z H J I a8 U
  | 11,_,H=>apply_assumption;exact YS p wo w wz hp G u O Z H N J I U
  | 12,_,H=>apply_assumption;exact YU p wo w wz hp G Y u O Z H hng N J I a6 U
  | 13,_,H=>apply_assumption;exact ag0 p wo w wz hp G u O H J I U
  | 14,_,H=>apply_assumption;exact a40 p wo w wz hp G Y u O Z H J I a6 U
  | 15,_,H=>apply_assumption;exact YV p wo w wz hp G u O H J I U
  | _+16,h,_=>exact absurd h (by omega)
variable {P:Nat->Prop}{row:Option Nat}
structure Kp (P:Nat->Prop)(w w':World):Prop where
 os:w'.os=w.os
 tape:w'.tape=w.tape
 output:w'.output=w.output
 size:w.heap.size<=w'.heap.size
 block:∀ k,k<w.heap.size->¬ P k->w'.heap[k]?=w.heap[k]?
theorem Kp.refl (P:Nat->Prop)(w:World):Kp P w w:=⟨rfl,rfl,rfl,nL,fun _ _ _=>rfl⟩
theorem Kp.trans {a b c:World}(h:Kp P a b)(k:Kp P b c):Kp P a c :=
 ⟨k.os.trans h.os,k.tape.trans h.tape,k.output.trans h.output,nZ h.size k.size,fun i hi u=>(k.block i (nT hi h.size) u).trans (h.block i hi u)⟩
theorem Kp.mono {Q:Nat->Prop}(h:Kp P w w')(u:∀ i,i<w.heap.size->P i->Q i):Kp Q w w' :=
 ⟨h.os,h.tape,h.output,h.size,fun i hi G=>h.block i hi (fun p=>G (u i hi p))⟩
theorem Kp.cell (h:Kp P w w'){p:Addr}(hp:p.block<w.heap.size)(u:¬ P p.block):w'.cell? p=w.cell? p:=World.cell?_of_block (w:=w) (h.block p.block hp u)
theorem Kp.frozen (h:Kp P w w'){p:Addr}(hp:p.block<w.heap.size)(u:¬ P p.block):w'.frozen? p=w.frozen? p:=World.frozen?_of_block (w:=w) (h.block p.block hp u)
theorem Kp.alloc {a:World}(h:Kp P a w)(o:Obj):Kp P a (w.alloc o) :=
 ⟨h.os,h.tape,h.output,by simp;have:=h.size;omega,fun k u G=>(Below.heap_alloc w o k (nT u h.size)).trans (h.block k u G)⟩
theorem Kp.setCell {a:World}(h:Kp P a w){p:Addr}(hp:P p.block)(u:Value):Kp P a (w.setCell p u) :=
 ⟨h.os,h.tape,h.output,by simpa [World.setCell] using h.size,fun k H G=>(Below.heap_setCell w p u k (fun e=>G (e ▸ hp))).trans (h.block k H G)⟩
theorem Kp.grown {a:World}(h:Kp P a w)(hg:w.grownBy w' row)(hr:∀ k,row=some k->k<a.heap.size->P k):Kp P a w' :=
 ⟨hg.os.trans h.os,hg.tape.trans h.tape,hg.output.trans h.output,nZ h.size hg.size,fun k u G=>(hg.block k (nT u h.size) (fun e=>G (hr k e.symm u))).trans (h.block k u G)⟩
variable {w1 w2:World}{i q' base:Nat}{v:Value}{l:List aE}{x:aE}
theorem vP (h:aU w base v l)(H:∀ g,v.ownBlock=some g->w'.heap[g]?=w.heap[g]?):aU w' base v l:=by
 obtain ⟨I,G⟩:=h;refine ⟨I,?_⟩;rcases G with G|⟨g,cap,u,rfl,hg,hh,r⟩
 ·exact Or.inl G
 exact Or.inr ⟨g,cap,u,rfl,hg,(H g rfl).trans hh,r⟩
theorem aU.dwf {p:Nat}(h:aU w base v l)(u:bR p w w' bs m q)(hp:p<base):aU w' base v l :=
 vP h fun g hg=>u.2.block g (World.ownsRow.lt h g hg).2 (fun e=>by injection e with e;have:=(World.ownsRow.lt h g hg).1;omega)
def BW (l:List aE)(k:Nat):List aE :=
 if l.length=0 then l ++ [⟨⟨#[120]⟩,⟨#[]⟩,⟨#[]⟩⟩]
 else if k % 3=0 then l.set (k / 3 % l.length) ⟨(aI l (k / 3 % l.length)).ty,(aI l (k / 3 % l.length)).key,⟨#[]⟩⟩
 else if k % 3=1 then l ++ [aI l (k / 3 % l.length)]
 else l.set (k / 3 % l.length) ⟨⟨#[122,122]⟩,(aI l (k / 3 % l.length)).key,(aI l (k / 3 % l.length)).id⟩
theorem BM {e:aE}(h:x ∈ l.set i e):x ∈ l\/x=e:=(List.mem_or_eq_of_mem_set h)
theorem ZK {P:aE->Prop}(k:Nat)(h:∀ x ∈ l,P x)(J:P ⟨⟨#[120]⟩,⟨#[]⟩,⟨#[]⟩⟩)(I:∀ x,P x->P ⟨x.ty,x.key,⟨#[]⟩⟩)(N:∀ x,P x->P ⟨⟨#[122,122]⟩,x.key,x.id⟩):∀ x ∈ BW l k,P x:=by
 unfold BW
 by_cases H:l.length=0
 ·rw [if_pos H]
  intro x u;rcases List.mem_append.1 u with u|u
  ·exact h x u
  rw [List.mem_singleton.1 u];exact J
 rw [if_neg H];have hi:k / 3 % l.length<l.length:=Nat.mod_lt _ (by omega);have G:=h _ (fW l _ hi);split
 ·exact fun x u=>(BM u).elim (h x) fun e=>e ▸ I _ G
 split
 ·intro x u
  rcases List.mem_append.1 u with u|u
  ·exact h x u
  rw [List.mem_singleton.1 u];exact G
 exact fun x u=>(BM u).elim (h x) fun e=>e ▸ N _ G
theorem OU (k:Nat)(h:bK l):bK (BW l k):=ZK k h ⟨by decide,by decide,by decide⟩ (fun x u=>⟨u.1,u.2.1,nz⟩) (fun x u=>⟨(by decide:2<=maxLen),u.2.1,u.2.2⟩)
theorem eN (y:aE)(r:List aE):dP (y :: r)=.string y.ty :: .string y.key :: .string y.id :: dP r:=by simp [dP,jM]
theorem JR (l:List aE)(k:Nat)(u:k<l.length)(x:ByteArray):(dP l).set (k * 3) (.string x)=dP (l.set k ⟨x,(aI l k).key,(aI l k).id⟩):=by
 induction l generalizing k with
 | nil=>exact absurd u (Nat.not_lt_zero _)
 | cons y l ih =>
  cases k with
  | zero=>rw [List.set_cons_zero,eN,eN];rfl
  | succ k =>
   have G:aI (y :: l) (k+1)=aI l k:=rfl;rw [List.set_cons_succ,eN,eN,G,show (k+1) * 3=k * 3+1+1+1 by omega,List.set_cons_succ,List.set_cons_succ,List.set_cons_succ,ih k (by simpa using u)]
theorem JJ (l:List aE)(k:Nat)(u:k<l.length)(x:ByteArray):(dP l).set (k * 3+2) (.string x)=dP (l.set k ⟨(aI l k).ty,(aI l k).key,x⟩):=by
 induction l generalizing k with
 | nil=>exact absurd u (Nat.not_lt_zero _)
 | cons y l ih =>
  cases k with
  | zero=>rw [List.set_cons_zero,eN,eN];rfl
  | succ k =>
   have G:aI (y :: l) (k+1)=aI l k:=rfl;rw [List.set_cons_succ,eN,eN,G,show (k+1) * 3+2=k * 3+2+1+1+1 by omega,List.set_cons_succ,List.set_cons_succ,List.set_cons_succ,ih k (by simpa using u)]
theorem aU.put0 {g:Nat}(h:aU w base (.slice (some ⟨g,0,none⟩) n cap) l)(G:n=l.length)(u:k<l.length)(x:ByteArray):aU (w.setCell ⟨g,k * 3,none⟩ (.string x)) base (.slice (some ⟨g,0,none⟩) n cap) (l.set k ⟨x,(aI l k).key,(aI l k).id⟩):=by
 subst G
 have:=(World.ownsRow.stored h (k * 3) (.string x)).1;rw [JR l k u] at this;unfold aU;rw [List.length_set];exact this
theorem aU.put2 {g:Nat}(h:aU w base (.slice (some ⟨g,0,none⟩) n cap) l)(G:n=l.length)(u:k<l.length)(x:ByteArray):aU (w.setCell ⟨g,k * 3+2,none⟩ (.string x)) base (.slice (some ⟨g,0,none⟩) n cap) (l.set k ⟨(aI l k).ty,(aI l k).key,x⟩):=by
 subst G
 have:=(World.ownsRow.stored h (k * 3+2) (.string x)).1;rw [JJ l k u] at this;unfold aU;rw [List.length_set];exact this
def PvB (p:Nat)(v:Value)(b:Nat):Prop:=b=p\/v.ownBlock=some b
def DM (p base:Nat)(v:Value)(w:World)(bs:Nat->Nat)(m q:Nat)(l:List aE)(e:Ending)(w':World):Prop :=
 ∃ a cap,e=.returned (.slice a l.length cap)/\aU w' base (.slice a l.length cap) l/\(∀ b,(Value.slice a l.length cap).ownBlock=some b->v.ownBlock=some b\/w.heap.size<=b)/\nI w' p bs m q/\Kp (PvB p v) w w'
theorem nI.kp {p:Nat}(h:nI w p bs m q)(H:Kp P w w')(I:∀ b,b<=p->¬ P b):nI w' p bs m q:=by
 obtain ⟨u,U,Y,N,⟨a,cap,c0,c1,hB⟩,O⟩:=h;refine ⟨nT u H.size,U,Y,N,⟨a,cap,(H.cell (p:=⟨p,0,none⟩) u (I p nL)).trans c0,(H.cell (p:=⟨p,1,none⟩) u (I p nL)).trans c1,?_⟩,(H.frozen (p:=⟨p,1,none⟩) u (I p nL)).trans O⟩;exact hB.imp id fun ⟨b,off,e,G,J⟩=>⟨b,off,e,G,fun i hi=>(H.cell (p:=⟨b,off+i,none⟩) (Nat.lt_trans G u) (I b (Nat.le_of_lt G))).trans (J i hi)⟩
theorem Kp.ofG {p:Nat}(h:w.grownBy w' (some p)):Kp (PvB p v) w w':=⟨h.os,h.tape,h.output,h.size,fun k u G=>h.block k u (fun e=>G (Or.inl (by injection e)))⟩
theorem bR.kp {p:Nat}(h:bR p w w1 bs m q)(hr:nI w2 p bs m q')(G:Kp (PvB p v) w1 w2)(J:∀ b,v.ownBlock=some b->w.heap.size<=b):bR p w w2 bs m q':=by
 refine ⟨hr,G.os.trans h.2.os,G.tape.trans h.2.tape,G.output.trans h.2.output,nZ h.2.size G.size,fun k H u=>?_⟩;refine (G.block k (nT H h.2.size) (fun I=>?_)).trans (h.2.block k H u);rcases I with rfl|I
 ·exact u rfl
 have:=J k I;omega
theorem OS (w:World)(g n c o:Nat)(x:Value):Kp (fun b=>(Value.slice (some ⟨g,0,none⟩) n c).ownBlock=some b) w (w.setCell ⟨g,o,none⟩ x):=(Kp.refl _ _).setCell (p:=⟨g,o,none⟩) (show some g=some g from rfl) x
theorem oS {p:Nat}{H:Value}(J:bR p w w1 bs m q)(Y:∀ b,v.ownBlock=some b->p<b)(I:Kp (fun b=>v.ownBlock=some b) w1 w2)(N:aU w2 base H l)(G:bK l)(u:∀ b,H.ownBlock=some b->v.ownBlock=some b\/w.heap.size<=b):DM p base v w bs m q l (.returned H) w2:=by
 obtain ⟨O,c2,rfl,_⟩:=N.sl G.at;exact ⟨O,c2,rfl,N,u,J.1.kp I (fun b Z U=>by have:=Y b U;omega),(Kp.ofG J.2).trans (I.mono fun _ _ hb=>Or.inr hb)⟩
theorem XE (p base:Nat){a:Option Addr}(w:World)(h:nI w p bs m q)(hp:p<base)(hb:base<=w.heap.size)(ho:aU w base (.slice a l.length cap) l)(ba:bK l)(hl:l.length<=1000) :
  Calls prog 38 #[.pointer (some ⟨p,0,none⟩),.slice a l.length cap] w (DM p base (.slice a l.length cap) w bs m (aN m q) (BW l (eD bs m q))):=by
 obtain ⟨i0,hi,au,an,aw⟩:=info_parts Tryz.infoEntry;have bf:=h.nx
 go_enter func38,ntmps38
 go_wp2_with fail
 refine (iC p _ h).mono ?_;rintro e w1 ⟨rfl,O⟩;have H:=ho.dwf O hp;have br:base<=w1.heap.size:=nZ hb O.size
 have N:∀ b,(Value.slice a l.length cap).ownBlock=some b->p<b/\b<w1.heap.size:=fun b ah=>by
  have:=World.ownsRow.lt H b ah;omega
 have HV:He (∀ b,(Value.slice a l.length cap).ownBlock=some b->b<w.heap.size):=fun b ah=>(World.ownsRow.lt ho b ah).2
 have HD:He (bR p w w1 bs m (aN m q)):=O;have HK:He (Kp (PvB p (.slice a l.length cap)) w w1):=Kp.ofG O.2;have ae:bK (BW l (eD bs m q)):=OU _ ba;have HO:He (bK (BW l (eD bs m q))):=ae;clear ae O ho;generalize eD bs m q=k at *;generalize aN m q=q1 at *
 by_cases h0:l.length=0
 ·have HE:He (BW l k=l ++ [⟨⟨#[120]⟩,⟨#[]⟩,⟨#[]⟩⟩]):=by unfold He BW;rw [if_pos h0]
  have e0:l=[]:=List.eq_nil_of_length_eq_zero h0;subst e0;have bg:w1.ownsRow base 66 3 (.slice a 0 cap) 0 []:=H;have ai:∀ o,base<=(w1.alloc o).heap.size:=fun o=>by simp;omega
  have HF:He (∀ (I U:Nat) (w2:World) (o:Obj),w2.ownsRow base 66 3 (.slice (some ⟨I,0,none⟩) (0+1) U) (0+1) ([] ++ jM ⟨⟨#[120]⟩,⟨#[]⟩,⟨#[]⟩⟩)->(w1.alloc o).grownBy w2 (Value.slice a 0 cap).ownBlock->((Value.slice a 0 cap).ownBlock=some I\/I=w1.heap.size+1)->DM p base (.slice a 0 cap) w bs m q1 (BW [] k) (.returned (.slice (some ⟨I,0,none⟩) (0+1) U)) w2):=fun I U w2 o h1 h2 h3 =>
   oS HD.o (fun b hb=>(N b hb).1) (((Kp.refl _ _).alloc o).grown h2 fun b hb _=>hb) (by rw [HE.o];exact aU.snoc (l:=[]) h1 rfl) HO.o (fun b hb=>by have e:I=b:=Option.some.inj hb;subst e;exact h3.imp id fun e=>by have:=HD.o.size;omega)
  clear H h0
  go_wp2_with (at_builtin;refine wpList_append_lies _ rfl _ _ 26 rfl base 66 i0 (.agg #[.string ByteArray.empty,.string ByteArray.empty,.string ByteArray.empty]) 3 48 underlying26 hi au an aw rfl (by decide) (.slice a 0 cap) 0 [] rfl (bg.alloc _) ⟨w1.heap.size,0,none⟩ 1 1 (jM ⟨⟨#[120]⟩,⟨#[]⟩,⟨#[]⟩⟩) rfl rfl (fF _ _ _) (gW _) (by decide) (by decide) (by decide) (ai _) (w1.heap.size+1) (by simp) ?_;intro I U w2 G u J _)
  have HZ:=HF.o I U w2 _ G u J;clear G u HF J;go_wp2
  go_ret;exact HZ
 obtain ⟨n,hn⟩:∃ n,n=l.length:=⟨_,rfl⟩;have Z:k / 3 % l.length<l.length:=Nat.mod_lt _ (by omega);obtain ⟨i,Y⟩:∃ i,i=k / 3 % l.length:=⟨_,rfl⟩;rw [<- Y] at Z;have HE:He (BW l k=if k % 3=0 then l.set i ⟨(aI l i).ty,(aI l i).key,⟨#[]⟩⟩ else if k % 3=1 then l ++ [aI l i] else l.set i ⟨⟨#[122,122]⟩,(aI l i).key,(aI l i).id⟩):=by unfold He BW;rw [if_neg h0,<- Y]
 obtain ⟨g,rfl,ay,ab,af⟩:∃ g,a=some ⟨g,0,none⟩/\g<w1.heap.size/\((w1.cell? ⟨g,i * 3,none⟩=some (.string (aI l i).ty))/\(w1.cell? ⟨g,i * 3+1,none⟩=some (.string (aI l i).key))/\(w1.cell? ⟨g,i * 3+2,none⟩=some (.string (aI l i).id)))/\∀ o,w1.frozen? ⟨g,o,none⟩=false:=by
  rcases cX H with ⟨_,h1⟩|⟨g,bn,hv,hg,ay,_,_,hx,hf⟩
  ·exact absurd h1 h0
  refine ⟨g,by injection hv,ay,?_,hf⟩;have e3:=lN l i Z
  have hr:∀ r,r<3->w1.cell? ⟨g,i * 3+r,none⟩=(dP l)[i * 3+r]?:=fun r hr=>by
   have:=hx (i * 3+r) (by omega);rw [Nat.zero_add] at this;exact this
  exact ⟨(hr 0 (by decide)).trans e3.1,(hr 1 (by decide)).trans e3.2.1,(hr 2 (by decide)).trans e3.2.2⟩
 obtain ⟨x0,x1,x2⟩:=ab;have f0:=af (i * 3);have f2:=af (i * 3+2);have ak:((k / 3 % l.length:Nat):Int)=(i:Int):=by rw [Y]
 have bu:(k:Int) / 3 % (l.length:Int)=(i:Int):=by rw [<- ak];simp
 have bt:¬ ((l.length:Nat):Int)=0:=by omega
 have bo:(i:Int)<(l.length:Int):=by omega
 clear af Y ak;have a4:l.length+1<=maxLen:=by unfold maxLen;omega
 have a8:(l.length+1) * 48<=140737488355328:=by omega
 have ai:∀ o,base<=(w1.alloc o).heap.size:=fun o=>by simp;omega
 by_cases ag:k % 3=0
 ·have HP:He (DM p base (.slice (some ⟨g,0,none⟩) l.length cap) w bs m q1 (BW l k) (.returned (.slice (some ⟨g,0,none⟩) l.length cap)) (w1.setCell ⟨g,i * 3+2,none⟩ (.string ⟨#[]⟩))):=by
   refine oS HD.o (fun b hb=>(N b hb).1) (OS _ _ _ _ _ _) ?_ HO.o (fun b hb=>Or.inl hb);rw [HE.o,if_pos ag];exact H.put2 rfl Z _
  have bi:(k:Int) % 3=0:=by omega
  clear HE HK HV H N h;go_wp2
  go_ret;exact HP.o
 have bi:¬ (k:Int) % 3=0:=by omega
 by_cases ap:k % 3=1
 ·have am:(k:Int) % 3=1:=by omega
  have HF:He (∀ (I U:Nat) (w2:World) (o:Obj),w2.ownsRow base 66 3 (.slice (some ⟨I,0,none⟩) (l.length+1) U) (l.length+1) (dP l ++ jM (aI l i))->(w1.alloc o).grownBy w2 (Value.slice (some ⟨g,0,none⟩) l.length cap).ownBlock->((Value.slice (some ⟨g,0,none⟩) l.length cap).ownBlock=some I\/I=w1.heap.size+1)->DM p base (.slice (some ⟨g,0,none⟩) l.length cap) w bs m q1 (BW l k) (.returned (.slice (some ⟨I,0,none⟩) (l.length+1) U)) w2):=fun I U w2 o h1 h2 h3 =>
   oS HD.o (fun b hb=>(N b hb).1) (((Kp.refl _ _).alloc o).grown h2 fun b hb _=>hb) (by rw [HE.o,if_neg ag,if_pos ap];exact aU.snoc h1 rfl) HO.o (fun b hb=>by have e:I=b:=Option.some.inj hb;subst e;exact h3.imp id fun e=>by have:=HD.o.size;omega)
  clear HE HK HV N h
  go_wp2_with (at_builtin;refine wpList_append_lies _ rfl _ _ 26 rfl base 66 i0 (.agg #[.string ByteArray.empty,.string ByteArray.empty,.string ByteArray.empty]) 3 48 underlying26 hi au an aw rfl (by decide) _ _ _ rfl (H.alloc _) ⟨w1.heap.size,0,none⟩ 1 1 (jM (aI l i)) rfl rfl (fF _ _ _) (gW _) (by decide) a4 a8 (ai _) (w1.heap.size+1) (by simp) ?_;intro I U w2 G u J _)
  have HZ:=HF.o I U w2 _ G u J;clear G u HF J;go_wp2
  go_ret;exact HZ
 have am:¬ (k:Int) % 3=1:=by omega
 have HP:He (DM p base (.slice (some ⟨g,0,none⟩) l.length cap) w bs m q1 (BW l k) (.returned (.slice (some ⟨g,0,none⟩) l.length cap)) (w1.setCell ⟨g,i * 3,none⟩ (.string ⟨#[122,122]⟩))):=by
  refine oS HD.o (fun b hb=>(N b hb).1) (OS _ _ _ _ _ _) ?_ HO.o (fun b hb=>Or.inl hb);rw [HE.o,if_neg ag,if_neg ap];exact H.put0 rfl Z _
 clear HE HK HV H N h;go_wp2
 go_ret;exact HP.o
def Ip (P:Nat->Prop)(a:Option Addr)(n:Nat):Prop:=n=0\/∃ b off,a=some ⟨b,off,none⟩/\P b
def KP (P:Nat->Prop)(W W':World):Prop:=W.heap.size<=W'.heap.size/\∀ b,P b->b<W.heap.size->W'.heap[b]?=W.heap[b]?
theorem KP.trans {P:Nat->Prop}{W u J:World}(h:KP P W u)(H:KP P u J):KP P W J:=⟨nZ h.1 H.1,fun b G I=>(H.2 b G (nT I h.1)).trans (h.2 b G I)⟩
theorem KP.blw {P:Nat->Prop}{W W':World}(h:Below W.heap.size W W'):KP P W W':=⟨h.size,fun b _ hb=>h.block b hb⟩
theorem KP.refl (P:Nat->Prop)(W:World):KP P W W:=⟨nL,fun _ _ _=>rfl⟩
theorem KP.drew {P:Nat->Prop}{W W':World}(h:KP P W W'):KP P W W'.drew:=h
theorem KP.set {P:Nat->Prop}{W W':World}(h:KP P W W'){c:Nat}(H:¬ P c)(j:Nat)(x:Value):KP P W (W'.setCell ⟨c,j,none⟩ x):=⟨nZ h.1 (by simp [World.setCell]),fun b u G=>(Below.heap_setCell _ _ _ _ (by show b≠c;exact fun e=>H (e ▸ u))).trans (h.2 b u G)⟩
theorem KP.cell {P:Nat->Prop}{W W':World}(h:KP P W W'){b o:Nat}(u:P b)(hb:b<W.heap.size):W'.cell? ⟨b,o,none⟩=W.cell? ⟨b,o,none⟩:=World.cell?_of_block (a:=⟨b,o,none⟩) (h.2 b u hb)
theorem dE.kP {P:Nat->Prop}{W W':World}{a:Option Addr}{n cap:Nat}{S:Nat->ByteArray}(h:dE W a n cap S)(Y:Ip P a n)(I:KP P W W'):dE W' a n cap S:=by
 rcases Y with N|⟨b,off,rfl,O⟩
 ·exact ⟨h.le,h.max,h.size,Or.inl N⟩
 refine ⟨h.le,h.max,h.size,h.cells.imp id fun ⟨H,u,e,G,U⟩=>⟨H,u,e,nT G I.1,fun i hi=>?_⟩⟩;have J:b=H:=by injection e with e;injection e
 exact (I.cell (J ▸ O) G).trans (U i hi)
theorem gN.kP {P:Nat->Prop}{W W':World}{a:Option Addr}{n cap:Nat}{M:Nat->ByteArray}{L:Nat->Int}(h:gN W a n cap M L)(Y:Ip P a n)(H:KP P W W'):gN W' a n cap M L:=by
 rcases Y with O|⟨b,off,rfl,N⟩
 ·exact ⟨h.le,h.max,h.size,Or.inl O⟩
 refine ⟨h.le,h.max,h.size,h.cells.imp id fun ⟨J,G,e,u,U,Z⟩=>⟨J,G,e,nT u H.1,fun i hi=>?_,fun i hi=>?_⟩⟩
 all_goals
  have I:b=J:=by injection e with e;injection e
 ·exact (H.cell (I ▸ N) u).trans (U i hi)
 exact (H.cell (I ▸ N) u).trans (Z i hi)
structure yN (P:Nat->Prop)(W:World)(e:Ev)(pa:Option Addr)(cp:Nat)(aa:Option Addr)(ca:Nat)(ga:Option Addr)(cg:Nat):Prop where
 ok:cI W e pa cp aa ca ga cg
 p:Ip P pa e.np
 a:Ip P aa e.na
 g:Ip P ga e.ng
theorem yN.kP {P:Nat->Prop}{W W':World}{e:Ev}{pa aa ga:Option Addr}{cp ca cg:Nat}(h:yN P W e pa cp aa ca ga cg)(u:KP P W W'):yN P W' e pa cp aa ca ga cg :=
 ⟨⟨h.ok.hid,h.ok.hsd,h.ok.hty,h.ok.hkey,h.ok.hval,h.ok.hp.kP h.p u,h.ok.ha.kP h.a u,h.ok.hg.kP h.g u⟩,h.p,h.a,h.g⟩
theorem yN.wide {P G:Nat->Prop}{W:World}{e:Ev}{pa aa ga:Option Addr}{cp ca cg:Nat}(h:yN P W e pa cp aa ca ga cg)(u:∀ b,P b->G b):yN G W e pa cp aa ca ga cg :=
 ⟨h.ok,h.p.imp id fun ⟨b,o,e,q⟩=>⟨b,o,e,u b q⟩,h.a.imp id fun ⟨b,o,e,q⟩=>⟨b,o,e,u b q⟩,h.g.imp id fun ⟨b,o,e,q⟩=>⟨b,o,e,u b q⟩⟩
structure EY (P:Nat->Prop)(W:World)(rb rc n:Nat)(E:Nat->Ev):Prop where
 le:n<=rc
 max:rc<=maxLen
 hb:P rb
 sz:rb<W.heap.size
 ev:∀ i,i<n->∃ pa cp aa ca ga cg,eP W rb (i * 10) (E i) pa cp aa ca ga cg/\yN P W (E i) pa cp aa ca ga cg
theorem eP.kc {W W':World}{b o:Nat}{e:Ev}{pa aa ga:Option Addr}{cp ca cg:Nat}(h:eP W b o e pa cp aa ca ga cg)(u:∀ x,W'.cell? ⟨b,x,none⟩=W.cell? ⟨b,x,none⟩):eP W' b o e pa cp aa ca ga cg:=by
 obtain ⟨c0,c1,c2,c3,c4,c5,c6,c7,c8,c9⟩:=h;exact ⟨(u _).trans c0,(u _).trans c1,(u _).trans c2,(u _).trans c3,(u _).trans c4,(u _).trans c5,(u _).trans c6,(u _).trans c7,(u _).trans c8,(u _).trans c9⟩
theorem EY.kP {P:Nat->Prop}{W W':World}{rb rc n:Nat}{E:Nat->Ev}(h:EY P W rb rc n E)(u:KP P W W'):EY P W' rb rc n E :=
 ⟨h.le,h.max,h.hb,nT h.sz u.1,fun i hi=>by
  obtain ⟨pa,cp,aa,ca,ga,cg,G,H⟩:=h.ev i hi;exact ⟨pa,cp,aa,ca,ga,cg,G.kc (fun x=>u.cell h.hb h.sz),H.kP u⟩⟩
theorem EY.wide {P u:Nat->Prop}{W:World}{rb rc n:Nat}{E:Nat->Ev}(h:EY P W rb rc n E)(G:∀ b,P b->u b):EY u W rb rc n E :=
 ⟨h.le,h.max,G _ h.hb,h.sz,fun i hi=>by
  obtain ⟨pa,cp,aa,ca,ga,cg,H,I⟩:=h.ev i hi;exact ⟨pa,cp,aa,ca,ga,cg,H,I.wide G⟩⟩
theorem EY.slv {P:Nat->Prop}{W:World}{rb rc n n':Nat}{E:Nat->Ev}(h:EY P W rb rc n E)(H:n'<=n):dW W (some ⟨rb,0,none⟩) n' rc E :=
 ⟨nZ H h.le,h.max,Or.inr ⟨rb,0,rfl,h.sz,fun i hi=>by
  obtain ⟨pa,cp,aa,ca,ga,cg,G,u⟩:=h.ev i (by omega);rw [Nat.zero_add];exact ⟨pa,cp,aa,ca,ga,cg,G,u.ok⟩⟩⟩
structure LO (w W:World):Prop where
 z0:∃ v,W.cell? ⟨w.heap.size,0,none⟩=some v
 z1:∀ o,o<10->∃ v,W.cell? ⟨w.heap.size+1,o,none⟩=some v
 g0:∀ o,W.frozen? ⟨w.heap.size,o,none⟩=false
 g1:∀ o,W.frozen? ⟨w.heap.size+1,o,none⟩=false
theorem LO.kept {w W W':World}(h:LO w W)(G:∀ b,w.heap.size<=b->b<w.heap.size+2->W'.heap[b]?=W.heap[b]?):LO w W':=by
 have H:=G w.heap.size nL (by omega);have I:=G (w.heap.size+1) (by omega) (by omega);exact ⟨h.z0.imp fun _ u=>(World.cell?_of_block (a:=⟨w.heap.size,0,none⟩) H).trans u,fun o J=>(h.z1 o J).imp fun _ u=>(World.cell?_of_block (a:=⟨w.heap.size+1,o,none⟩) I).trans u,fun o=>(World.frozen?_of_block (a:=⟨w.heap.size,o,none⟩) H).trans (h.g0 o),fun o=>(World.frozen?_of_block (a:=⟨w.heap.size+1,o,none⟩) I).trans (h.g1 o)⟩
structure jA (p:Nat)(w wz W:World)(bs:Nat->Nat)(m q R:Nat)(rv sv:Value)(s:List aE):Prop where
 dz:LO w W
 r:W.cell? ⟨R,0,none⟩=some rv
 rf:W.frozen? ⟨R,0,none⟩=false
 dw:bR p w W bs m q
 kp:KP (fun b=>w.heap.size<=b/\b<R) wz W
 so:aU W (R+1) sv s
 ok:bK s
 len:s.length<=900
 lr:w.heap.size+2<=R/\R<W.heap.size
section
variable {p:Nat} {w wz W W':World} {bs:Nat->Nat} {m q q' R:Nat} {rv sv:Value} {s:List aE}
theorem jA.kept (h:jA p w wz W bs m q R rv sv s)(G:W.heap.size<=W'.heap.size)(u:∀ b,w.heap.size<=b->b<=R->W'.heap[b]?=W.heap[b]?)(J:bR p w W' bs m q')(N:aU W' (R+1) sv s):jA p w wz W' bs m q' R rv sv s:=by
 have lr:=h.lr;have H:=u R (by omega) nL;exact ⟨h.dz.kept (fun b I O=>u b I (by omega)),(World.cell?_of_block (a:=⟨R,0,none⟩) H).trans h.r,(World.frozen?_of_block (a:=⟨R,0,none⟩) H).trans h.rf,J,h.kp.trans ⟨G,fun b I _=>u b (by omega) (by omega)⟩,N,h.ok,h.len,lr.1,nT lr.2 G⟩
theorem jA.below (h:jA p w wz W bs m q R rv sv s)(hb:Below W.heap.size W W'):jA p w wz W' bs m q R rv sv s :=
 h.kept hb.size (fun b _ u=>hb.block b (by have:=h.lr;omega)) (h.dw.below hb) (h.so.below hb)
theorem jA.draw (h:jA p w wz W bs m q R rv sv s)(u:bR p W W' bs m q')(hp:p<w.heap.size):jA p w wz W' bs m q' R rv sv s :=
 h.kept u.size (fun b G H=>u.2.block b (by have:=h.lr;omega) (fun e=>by injection e with e;omega)) (h.dw.trans u) (h.so.dwf u (by have:=h.lr;omega))
theorem jA.list {u:Value}{G:List aE}{X:Nat}(h:jA p w wz W bs m q R rv sv s)(J:aU W X u G)(I:R+1<=X)(H:bK G)(N:G.length<=900):jA p w wz W bs m q R rv u G :=
 ⟨h.dz,h.r,h.rf,h.dw,h.kp,J.base_le I,H,N,h.lr⟩
end
end Go.Proofs.YtpfeegcdlikegaaGreat
