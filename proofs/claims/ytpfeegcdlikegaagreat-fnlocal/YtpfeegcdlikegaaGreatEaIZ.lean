import Derived.Test.YtpfeegcdlikegaaGreatInOZ
set_option maxHeartbeats 16000000
set_option maxRecDepth 100000
namespace Go.Proofs.YtpfeegcdlikegaaGreat
open Go.RowKit Go.Proofs.Tryz
variable {w w':World}{a:Option Addr}{cap:Nat}{l:List aE}
theorem eT (w:World)(c1 c2:Array Value)(t1 u:TypeId)(o:Nat):((w.alloc (.cells c1 t1)).alloc (.cells c2 u)).cell? ⟨w.heap.size,o,none⟩=c1[o]?/\((w.alloc (.cells c1 t1)).alloc (.cells c2 u)).cell? ⟨w.heap.size+1,o,none⟩=c2[o]?:=by
 refine ⟨?_,kA (by simp)⟩;rw [World.cell?_alloc_past _ _ _ (by simp)];exact kA rfl
theorem iB.cell (h:iB w w'){p:Addr}(hp:p.block<w.heap.size):w'.cell? p=w.cell? p:=h.below.cell hp
theorem TG (x s:aE)(w:World) :
  Calls prog 100 #[eS x,cV s] w fun e w'=>e=.returned (.int .i64 (dN x s))/\iB w w':=by
 obtain ⟨G,u⟩:∃ G,G=(w.alloc (.cells #[.string x.ty,.string x.key,.string x.id] 66)).alloc (.cells #[.string s.ty,.string s.key] 63):=⟨_,rfl⟩;have hg:iB w G:=by rw [u];exact ((iB.refl _).alloc _).alloc _
 have H:w.heap.size<G.heap.size:=by rw [u];simp;omega
 have J:w.heap.size+1<G.heap.size:=by rw [u];simp
 have c0:∀ n os,(Sort.grow (G.drewN n) os).cell? ⟨w.heap.size,0,none⟩=some (.string x.ty):=cell_grown (by exact H) (by rw [u];exact (eT w _ _ _ _ 0).1);have c1:∀ n os,(Sort.grow (G.drewN n) os).cell? ⟨w.heap.size,1,none⟩=some (.string x.key):=cell_grown (by exact H) (by rw [u];exact (eT w _ _ _ _ 1).1);have c2:∀ n os,(Sort.grow (G.drewN n) os).cell? ⟨w.heap.size,2,none⟩=some (.string x.id):=cell_grown (by exact H) (by rw [u];exact (eT w _ _ _ _ 2).1);have d0:∀ n os,(Sort.grow (G.drewN n) os).cell? ⟨w.heap.size+1,0,none⟩=some (.string s.ty):=cell_grown (by exact J) (by rw [u];exact (eT w _ _ _ _ 0).2);have O:∀ n os,(Sort.grow (G.drewN n) os).cell? ⟨w.heap.size+1,1,none⟩=some (.string s.key):=cell_grown (by exact J) (by rw [u];exact (eT w _ _ _ _ 1).2)
 go_enter func100,ntmps100
 go_wp2_with fail
 rw [<- u];clear u;refine wp_region_quiet_grown (by kernel_rfl) (by kernel_rfl) ?_
 repeat (quiet_step (first
  | (go_at_call 96;exact Calls.grown_of (GM x _))
  | (go_at_call 29;exact Calls.grown_of (GS x s _))))
 refine wpQuiet_nil ?_;intro _ N;obtain ⟨⟨Y,U⟩,I⟩:=N;subst I;clear c0 c1 c2 d0 O;go_wp2
 go_ret;exact ⟨rfl,hg.trans (oK _ _ _)⟩
def DD (l:List aE)(s:aE)(w:World)(e:Ending)(w':World):Prop:=iB w w' /\
 ∃ (i:Nat) (t:Bool),e=.returned (.tuple #[.int .i64 (i:Int),.bool t])/\((t=true/\i<l.length/\bZ l s=some (aI l i))\/(t=false/\bZ l s=none))
theorem MB (x s:aE)(w:World):Calls prog 100 #[eS x,cV s] w fun e w'=>e=.returned (.int .i64 (dN x s))/\∃ q u,w'=Sort.grow (w.drewN q) u :=
 (TG x s w).mono fun _ _ h=>⟨h.1,h.2.eq⟩
theorem YF (b off cap:Nat)(l:List aE)(s:aE)(w:World)(hS:fK l)(hn:l.length<=1000000000)(hb:l≠[]->b<w.heap.size)
  (h1:∀ i,i<l.length->w.cell? ⟨b,off+i * 3,none⟩=some (.string (aI l i).ty)) (h2:∀ i,i<l.length->w.cell? ⟨b,off+i * 3+1,none⟩=some (.string (aI l i).key)) (h3:∀ i,i<l.length->w.cell? ⟨b,off+i * 3+2,none⟩=some (.string (aI l i).id)) :
  Calls prog 101 #[.slice (some ⟨b,off,none⟩) l.length cap,cV s,.func (.func 100) #[] #[]] w (DD l s w):=by
 obtain ⟨wb,H⟩:∃ wb,wb=w.alloc (.cells #[.string s.ty,.string s.key] 63):=⟨_,rfl⟩;have hg:iB w wb:=by rw [H];exact (iB.refl _).alloc _
 have am:w.heap.size<wb.heap.size:=by rw [H];simp
 have ax:wb.cell? ⟨w.heap.size,0,none⟩=some (.string s.ty):=by rw [H];exact kA rfl
 have ap:wb.cell? ⟨w.heap.size,1,none⟩=some (.string s.key):=by rw [H];exact kA rfl
 have HS:He (fK l):=hS;clear hS
 go_enter func101,ntmps101
 go_wp2_with fail
 rw [<- H];clear H
 go_loopw [9,10] (fun s9 an wr=>∃ lo hi:Nat,s9=.int .i64 lo/\an=.int .i64 hi/\lo<=hi/\hi<=l.length/\iB wb wr/\He ((∀ t,t<lo->dN (aI l t) s<0)/\(∀ t,hi<=t->t<l.length->0<=dN (aI l t) s))) (fun s9 an _=>(intOf an).toNat - (intOf s9).toNat)
 case atStart=>exact ⟨0,l.length,rfl,rfl,nz,nL,iB.refl _,fun t ht=>absurd ht (Nat.not_lt_zero _),fun t h1 h2=>by omega⟩
 case round =>
  obtain ⟨lo,hi,rfl,rfl,a5,a6,O,hI⟩:=hrel;have I:=hg.trans O;have au:w.heap.size<wr.heap.size:=nT am O.below.size;have d0:∀ n os,(Sort.grow (wr.drewN n) os).cell? ⟨w.heap.size,0,none⟩=some (.string s.ty):=cell_grown (by exact au) ((O.cell (by exact am)).trans ax);have d1:∀ n os,(Sort.grow (wr.drewN n) os).cell? ⟨w.heap.size,1,none⟩=some (.string s.key):=cell_grown (by exact au) ((O.cell (by exact am)).trans ap)
  have u:He (∀ i,i<l.length->∀ n os,(Sort.grow (wr.drewN n) os).cell? ⟨b,off+i * 3,none⟩=some (.string (aI l i).ty)/\(Sort.grow (wr.drewN n) os).cell? ⟨b,off+i * 3+1,none⟩=some (.string (aI l i).key)/\(Sort.grow (wr.drewN n) os).cell? ⟨b,off+i * 3+2,none⟩=some (.string (aI l i).id)):=fun i hi n os=>by
   have Y:=hb (fun e=>by rw [e] at hi;exact absurd hi (Nat.not_lt_zero _));have aj:b<wr.heap.size:=nT Y I.below.size;exact ⟨cell_grown (by exact aj) ((I.cell (by exact Y)).trans (h1 i hi)) n os,cell_grown (by exact aj) ((I.cell (by exact Y)).trans (h2 i hi)) n os,cell_grown (by exact aj) ((I.cell (by exact Y)).trans (h3 i hi)) n os⟩
  clear h1 h2 h3 hb ax ap
  by_cases bh:lo<hi
  ·obtain ⟨m,hm⟩:∃ m:Nat,m=(lo+hi) / 2:=⟨_,rfl⟩
   have em:((lo:Int)+(hi:Int)) / 2=(m:Int):=by omega
   have bk:lo<=m:=by omega
   have bm:m<hi:=by omega
   have U:m<l.length:=by omega
   have a1:∀ n os,(Sort.grow (wr.drewN n) os).cell? ⟨b,off+m * 3,none⟩=some (.string (aI l m).ty):=fun n os=>(u.o m U n os).1
   have a2:∀ n os,(Sort.grow (wr.drewN n) os).cell? ⟨b,off+m * 3+1,none⟩=some (.string (aI l m).key):=fun n os=>(u.o m U n os).2.1
   have a3:∀ n os,(Sort.grow (wr.drewN n) os).cell? ⟨b,off+m * 3+2,none⟩=some (.string (aI l m).id):=fun n os=>(u.o m U n os).2.2
   clear hm
   go_wp2_with fail
   refine wp_region_quiet_grown (by kernel_rfl) (by kernel_rfl) ?_
   repeat (quiet_step (first
    | (go_at_call 100;exact Calls.grown_of (MB (aI l m) s _))))
   refine wpQuiet_nil ?_;intro _ af;obtain ⟨⟨nq,N⟩,J⟩:=af;subst J;have ab:=O.trans (oK wr nq N);have ao:He (∀ t,t<=m->dN (aI l m) s<0->dN (aI l t) s<0):=fun t ht Z=>GT HS.o ht U Z
   have ai:He (∀ t,m<=t->t<l.length->0<=dN (aI l m) s->0<=dN (aI l t) s):=fun t ht ak Z=>Int.not_lt.1 fun h=>by have:=GT HS.o ht ak h;omega
   clear a1 a2 a3 d0 d1 u;generalize Sort.grow (wr.drewN nq) N=wz at *;generalize dN (aI l m) s=c at *
   by_cases Z:c<0
   ·have I2:He ((∀ t,t<m+1->dN (aI l t) s<0)/\(∀ t,hi<=t->t<l.length->0<=dN (aI l t) s)):=⟨fun t ht=>ao.o t (by omega) Z,hI.o.2⟩
    clear ao ai hI;go_wp2
    go_roundw
    case rel=>exact ⟨m+1,hi,by go_num,rfl,by omega,by omega,ab,I2⟩
    simp [intOf];omega
   have I2:He ((∀ t,t<lo->dN (aI l t) s<0)/\(∀ t,m<=t->t<l.length->0<=dN (aI l t) s)):=⟨hI.o.1,fun t ht ak=>ai.o t ht ak (by omega)⟩;clear ao ai hI;go_wp2
   go_roundw
   case rel=>exact ⟨lo,m,rfl,rfl,by omega,by omega,ab,I2⟩
   simp [intOf];omega
  obtain rfl:hi=lo:=by omega
  by_cases G:hi<l.length
  ·have a1:∀ n os,(Sort.grow (wr.drewN n) os).cell? ⟨b,off+hi * 3,none⟩=some (.string (aI l hi).ty):=fun n os=>(u.o hi G n os).1
   have a2:∀ n os,(Sort.grow (wr.drewN n) os).cell? ⟨b,off+hi * 3+1,none⟩=some (.string (aI l hi).key):=fun n os=>(u.o hi G n os).2.1
   have a3:∀ n os,(Sort.grow (wr.drewN n) os).cell? ⟨b,off+hi * 3+2,none⟩=some (.string (aI l hi).id):=fun n os=>(u.o hi G n os).2.2
   have aw:He (dN (aI l hi) s=0->bZ l s=some (aI l hi)):=fun e=>XR HS.o G e
   have ag:He (dN (aI l hi) s≠0->bZ l s=none):=fun e=>FW HS.o hI.o.1 hI.o.2 (fun _=>e)
   go_wp2_with fail
   refine wp_region_quiet_grown (by kernel_rfl) (by kernel_rfl) ?_
   repeat (quiet_step (first
    | (go_at_call 100;exact Calls.grown_of (MB (aI l hi) s _))))
   refine wpQuiet_nil ?_;intro _ af;obtain ⟨⟨nq,N⟩,J⟩:=af;subst J;have ab:=I.trans (oK wr nq N);clear a1 a2 a3 d0 d1 u;generalize Sort.grow (wr.drewN nq) N=wz at *;generalize dN (aI l hi) s=c at *;go_wp2
   refine bodyPost_ret (v:=.tuple #[.int .i64 (hi:Int),.bool (c == 0)]) (by simp [results,results101,go_sem]) rfl ⟨ab,hi,(c == 0),rfl,?_⟩
   by_cases Z:c=0
   ·exact Or.inl ⟨by simpa using Z,G,aw.o Z⟩
   exact Or.inr ⟨by simpa using Z,ag.o Z⟩
  have ag:He (bZ l s=none):=FW HS.o hI.o.1 hI.o.2 (fun h=>absurd h G);obtain rfl:hi=l.length:=by omega
  clear u hI bh G a5 a6
  go_wp2_with fail
  go_region
  clear d0 d1;go_wp2
  exact bodyPost_ret (v:=.tuple #[.int .i64 (l.length:Int),.bool false]) (by simp [results,results101,go_sem]) rfl ⟨I.drew,l.length,false,rfl,Or.inr ⟨rfl,ag.o⟩⟩
theorem SS (a:Option Addr)(cap:Nat)(s:aE)(w:World) :
  Calls prog 101 #[.slice a 0 cap,cV s,.func (.func 100) #[] #[]] w (DD [] s w):=by
 have hg:iB w (w.alloc (.cells #[.string s.ty,.string s.key] 63)):=(iB.refl _).alloc _
 go_enter func101,ntmps101
 go_wp2_with fail
 refine wp_loop_rounds 1 ?_;rw [rounds_succ]
 go_wp2_with fail
 go_region
 go_wp2
 exact bodyPost_ret (v:=.tuple #[.int .i64 ((0:Nat):Int),.bool false]) (by simp [results,results101,go_sem]) rfl ⟨hg.drew,0,false,rfl,Or.inr ⟨rfl,rfl⟩⟩
theorem ZM (s:aE)(w:World)(G:fK l)(J:l.length<=1000000000)(h:dF w a cap l) :
  Calls prog 101 #[.slice a l.length cap,cV s,.func (.func 100) #[] #[]] w (DD l s w):=by
 rcases h.cells with rfl|⟨b,off,rfl,hb,H,I,u⟩
 ·exact SS a cap s w
 exact YF b off cap l s w G J (fun _=>hb) H I u
theorem EQ (s:aE)(w:World)(hS:fK l)(hn:l.length<=1000000000)(h:dF w a cap l) :
  Calls prog 64 #[.slice a l.length cap,cV s] w fun e w'=>e=.returned (.tuple #[eS (BY l s),.bool (VT l s)])/\iB w w':=by
 obtain ⟨J,u⟩:∃ J,J=(w.alloc (.cells #[.string s.ty,.string s.key] 63)).alloc (.cells #[.string ⟨#[]⟩,.string ⟨#[]⟩,.string ⟨#[]⟩] 66):=⟨_,rfl⟩;have hg:iB w J:=by rw [u];exact ((iB.refl _).alloc _).alloc _
 have I:w.heap.size+1<J.heap.size:=by rw [u];simp
 have Y:∀ o,J.frozen? ⟨w.heap.size+1,o,none⟩=false:=fun o=>by rw [u];exact kF (by simp)
 have ag:J.cell? ⟨w.heap.size,0,none⟩=some (.string s.ty):=by rw [u];exact (eT w _ _ _ _ 0).1
 have ae:J.cell? ⟨w.heap.size,1,none⟩=some (.string s.key):=by rw [u];exact (eT w _ _ _ _ 1).1
 have Z:J.cell? ⟨w.heap.size+1,0,none⟩=some (.string ⟨#[]⟩):=by rw [u];exact (eT w _ _ _ _ 0).2
 have ab:J.cell? ⟨w.heap.size+1,1,none⟩=some (.string ⟨#[]⟩):=by rw [u];exact (eT w _ _ _ _ 1).2
 have U:J.cell? ⟨w.heap.size+1,2,none⟩=some (.string ⟨#[]⟩):=by rw [u];exact (eT w _ _ _ _ 2).2
 go_enter func64,ntmps64
 go_wp2_with fail
 rw [<- u];clear u;refine (ZM s _ hS hn (h.below hg.below)).mono ?_;rintro e w1 ⟨H,i,t,rfl,N⟩;have z0:=(H.cell (by exact I)).trans Z;have z1:=(H.cell (by exact I)).trans ab;have z2:=(H.cell (by exact I)).trans U;have f1:∀ o,w1.frozen? ⟨w.heap.size+1,o,none⟩=false:=fun o=>(H.below.frozen (by exact I)).trans (Y o)
 have O:=hg.trans H;have ak:w.heap.size+1<w1.heap.size:=nT I H.below.size;clear ag ae Z ab U Y;rcases N with ⟨rfl,hi,G⟩|⟨rfl,G⟩
 ·have hv:He (BY l s=aI l i/\VT l s=true):=⟨by unfold BY;rw [G];rfl,by unfold VT;rw [G];rfl⟩
  clear G;have af:=h.below O.below;rcases af.cells with h0|⟨b,off,rfl,hb,c1,c2,c3⟩
  ·rw [h0] at hi;exact absurd hi (Nat.not_lt_zero _)
  have k1:=c1 i hi;have k2:=c2 i hi;have k3:=c3 i hi;clear c1 c2 c3;go_wp2
  refine bodyPost_ret (v:=.tuple #[eS (aI l i),.bool true]) (by simp [results,results64,go_sem,z0,z1,z2]) rfl ⟨by rw [hv.o.1,hv.o.2],?_⟩
  iterate 3 (refine iB.setCell ?_ (by show _<=w.heap.size+1;omega) _)
  exact O
 have hv:He (BY l s=aE.none/\VT l s=false):=⟨by unfold BY;rw [G];rfl,by unfold VT;rw [G];rfl⟩;clear G;go_wp2
 refine bodyPost_ret (v:=.tuple #[.agg #[.string ⟨#[]⟩,.string ⟨#[]⟩,.string ⟨#[]⟩],.bool false]) (by simp [results,results64,go_sem,z0,z1,z2]) rfl ⟨by rw [hv.o.1,hv.o.2];rfl,?_⟩
 iterate 3 (refine iB.setCell ?_ (by show _<=w.heap.size+1;omega) _)
 exact O
end Go.Proofs.YtpfeegcdlikegaaGreat
namespace Go.Proofs.YtpfeegcdlikegaaGreat
open Go.RowKit Go.Maps Go.ChangeMaps Go.Proofs.Tryz
variable {a ra sa:Option Addr}{b c m n cq n' rc sc cap off:Nat}{l:List aE}{w:World}{E:Nat->Ev}{F:aE->Value}{x y:aE}
theorem AT {bs:Nat}(x:aE)(hS:fK l)(hl:l.length<=300)(w:World)(J:dF w sa sc l)(H:bs<w.heap.size)(N:w.cell? ⟨bs,0,none⟩=some (.slice sa l.length sc)) :
  Calls prog 63 #[cV x,.pointer (some ⟨bs,0,none⟩)] w fun e w'=>e=.returned (.string (aQ l x.ty x.key))/\Below w.heap.size w w':=by
 have u:∀ o,Below w.heap.size w (w.alloc o):=fun o=>bA
 have k0:(w.alloc (.cells #[.string x.ty,.string x.key] 63)).cell? ⟨bs,0,none⟩=some (.slice sa l.length sc):=((u _).cell (by exact H)).trans N;have Z:bs≠w.heap.size:=by omega
 have O:He (aQ l x.ty x.key=(BY l x).id):=jR l x;have U:He (∀ W,Below w.heap.size w W->Calls prog 64 #[.slice sa l.length sc,cV x] W fun e w'=>e=.returned (.tuple #[eS (BY l x),.bool (VT l x)])/\Below W.heap.size W w'):=fun W Y=>(EQ x W hS (by omega) (J.below Y)).mono fun e w' ⟨h1,h2⟩=>⟨h1,h2.below⟩
 clear N J;generalize BY l x=y at *;generalize VT l x=t at *
 go_enter func63,ntmps63
 go_wp2_with fail
 refine (U.o _ (u _)).mono ?_;rintro e w1 ⟨rfl,I⟩;have G:=(u _).trans (I.mono (by simp));go_wp2
 go_ret;exact ⟨congrArg (fun z=>Ending.returned (.string z)) O.o.symm,G.alloc G.size _⟩
theorem AH (N:cY w m n (jV E n) (aL E n))(s:ByteArray)(J:s.size<=maxLen) :
  ∃ c:Int,(Instr.lookup 46 (.map (some m)) (.string s) true).run prog w=.ok (.tuple #[.int .i64 c,.bool (jV E n s)]) w/\(jV E n s=true->c=aL E n s):=by
 obtain ⟨D,O,hK⟩:=N;have hkey:keyOf prog 9 (.string s)=some (.string s.data.toList):=Go.WideMaps.keyOf_string_mk underlying9 J;obtain ⟨v,ps,u,Z⟩:=O.look_ok pQ underlying46 (oW _) (plainElem_int underlying3 (by decide)) hkey;obtain ⟨c,rfl,I,_⟩:=plainElem_int_inv underlying3 Z;have G:has D (.string s.data.toList)=jV E n s:=(hK s).1;rw [G] at u;refine ⟨c,u,fun U=>?_⟩;have Y:=(hK s).2 U;simp only [Prod.mk.injEq] at I;have H:=I.1;rw [Y] at H;simpa using H.symm
theorem DB (h:bK l)(x:aE):(aQ l x.ty x.key).size<=maxLen:=by
 rw [jR];unfold BY
 cases hl:bZ l x with
 | none=>exact (by decide:ByteArray.empty.size<=maxLen)
 | some y=>exact (h y (fA hl).1).2.2
theorem fE.mono (h:fE w m n F)(N:n<=n'):fE w m n' F:=by
 obtain ⟨D,⟨G,clock,hb,H,u,I⟩,J⟩:=h;exact ⟨D,⟨G,clock,hb,H,nZ u N,I⟩,J⟩
def FM (E:Nat->Ev)(n:Nat)(l:List aE)(b off:Nat)(X:Nat->aE):Nat->aE->Value
 | 0=>fun _=>.pointer none
 | k+1=>if 0<=eF E n l (X k).ty (X k).key then qX (FM E n l b off X k) (X k) (.pointer (some ⟨b,off+(eF E n l (X k).ty (X k).key).toNat * 10,none⟩)) else FM E n l b off X k
def uA (b off:Nat)(p:Int):Option Addr:=if 0<=p then some ⟨b,off+p.toNat * 10,none⟩ else none
theorem GI (h:dB x y=true):x.ty=y.ty/\x.key=y.key:=(cN _ _).1 h
theorem yJ (E:Nat->Ev)(n:Nat)(l:List aE)(b off:Nat)(X:Nat->aE)(x:aE)(u:eF E n l x.ty x.key<0):∀ k,FM E n l b off X k x=.pointer none
 | 0=>rfl
 | k+1=>by
  rw [FM];split
  ·unfold qX
   split
   ·rename_i h1 h2
    obtain ⟨G,H⟩:=GI h2;rw [G,H] at h1;omega
   exact yJ E n l b off X x u k
  exact yJ E n l b off X x u k
theorem UV (E:Nat->Ev)(n:Nat)(l:List aE)(b off:Nat)(X:Nat->aE)(x:aE):∀ k i,i<k->dB (X i) x=true->FM E n l b off X k x=.pointer (uA b off (eF E n l x.ty x.key))
 | k+1,i,hi,hs=>by
  by_cases I:eF E n l x.ty x.key<0
  ·rw [yJ E n l b off X x I]
   unfold uA;rw [if_neg (by omega)]
  have u:0<=eF E n l x.ty x.key:=by omega
  rw [FM]
  by_cases G:dB (X k) x=true
  ·obtain ⟨O,N⟩:=GI G
   rw [O,N,if_pos u];unfold qX uA;rw [if_pos G,if_pos u]
  have J:i≠k:=fun e=>by subst e;exact G hs
  have H:=UV E n l b off X x k i (by omega) hs;split
  ·unfold qX
   rw [if_neg G];exact H
  exact H
theorem zH {nr:Nat}{bq oq bs:Nat}{X:Nat->aE}(w:World)(h:dW w a n cap E)(Ha:He (0<n->a=some ⟨b,off,none⟩))(hm:cY w m n (jV E n) (aL E n))(bn:bK l)(hX:∀ k,k<c->EJ (X k))(cn:c<=1000)(bb:bq<w.heap.size)
  (ae:∀ k,k<c->w.cell? ⟨bq,oq+k * 2,none⟩=some (.string (X k).ty)) (ay:∀ k,k<c->w.cell? ⟨bq,oq+k * 2+1,none⟩=some (.string (X k).key))
  (HI:He (∀ W (x:aE),Below w.heap.size w W->Calls prog 63 #[cV x,.pointer (some ⟨bs,0,none⟩)] W fun e w'=>e=.returned (.string (aQ l x.ty x.key))/\Below W.heap.size W w')) :
  Calls prog 21 #[.agg #[.slice a n cap,.map (some m),.slice ra nr rc],.slice (some ⟨bq,oq,none⟩) c cq,.func (.func 63) #[] #[.pointer (some ⟨bs,0,none⟩)]] w fun e w'=>∃ mb,e=.returned (.map (some mb))/\fE w' mb c (FM E n l b off X c)/\Below w.heap.size w w':=by
 have b7:=nZ h.le h.max;unfold maxLen at b7;obtain ⟨U,O⟩:∃ U,U=w.alloc (.cells #[.slice a n cap,.map (some m),.slice ra nr rc] 49):=⟨_,rfl⟩;have bp:Below w.heap.size w U:=by rw [O];exact bA
 have b8:U.heap.size=w.heap.size+1:=by rw [O];simp
 have bh:He (∀ wx,Below (w.heap.size+1) U wx->∀ o,wx.cell? ⟨w.heap.size,o,none⟩=(#[.slice a n cap,.map (some m),.slice ra nr rc]:Array Value)[o]?):=fun wx hx=>by subst O;exact aK hx
 have br:fE (U.alloc (.map #[] 0)) (w.heap.size+1) 0 (FM E n l b off X 0):=by have:=fE.made U;rw [b8] at this;exact this
 have bj:Below (w.heap.size+1) U (U.alloc (.map #[] 0)):=kB.alloc (by omega) _;have bt:He (∀ W (x:aE),Below w.heap.size w W->∃ c:Int,(Instr.lookup 46 (.map (some m)) (.string (aQ l x.ty x.key)) true).run prog W=.ok (.tuple #[.int .i64 c,.bool (jV E n (aQ l x.ty x.key))]) W/\(jV E n (aQ l x.ty x.key)=true->c=aL E n (aQ l x.ty x.key))):=fun W x Z=>AH (hm.below Z) _ (DB bn x)
 have H0:He (_):=ae;have H1:He (_):=ay;have HX:He (_):=hX;clear ae ay hX h hm bn;have ce:=@run_makeMap prog
 go_enter func21,ntmps21
 go_wp2_with fail
 rw [<- O];clear ce O
 go_loopw [15] (fun i wr=>∃ k:Nat,k<=c/\i=.int .i64 k/\He (fE wr (w.heap.size+1) k (FM E n l b off X k))/\Below (w.heap.size+1) U wr) (fun i _=>c - (intOf i).toNat)
 case atStart=>exact ⟨0,nz,rfl,br,bj⟩
 case round =>
  clear br bj;obtain ⟨k,hk,rfl,hM,hB⟩:=hrel;have a2:=bp.trans (hB.mono (by omega));have b0:w.heap.size+1<=wr.heap.size:=by have:=hB.size;omega
  have ch:w.heap.size+1<wr.heap.size:=hM.o.lt
  by_cases ax:k<c
  ·have a0:wr.cell? ⟨bq,oq+k * 2,none⟩=some (.string (X k).ty):=(a2.cell (by exact bb)).trans (H0.o k ax)
   have a1:wr.cell? ⟨bq,oq+k * 2+1,none⟩=some (.string (X k).key):=(a2.cell (by exact bb)).trans (H1.o k ax);have b9:He (EJ (X k)):=HX.o k ax;have ag:He (FM E n l b off X (k+1)=if 0<=eF E n l (X k).ty (X k).key then qX (FM E n l b off X k) (X k) (.pointer (some ⟨b,off+(eF E n l (X k).ty (X k).key).toNat * 10,none⟩)) else FM E n l b off X k):=rfl;have db:=cJ E (aQ l (X k).ty (X k).key) n;generalize FM E n l b off X k=F at *;generalize X k=x at *;obtain ⟨G,I⟩:∃ G,G=wr.alloc (.cells #[.string x.ty,.string x.key] 63):=⟨_,rfl⟩;have a8:Below wr.heap.size wr G:=by rw [I];exact bA
   have cx:G.heap.size=wr.heap.size+1:=by rw [I];simp
   have ab:=hB.trans (a8.mono b0);have H:=bp.trans (ab.mono (by omega));have y0:G.cell? ⟨wr.heap.size,0,none⟩=some (.string x.ty):=by rw [I];exact kA rfl
   have y1:G.cell? ⟨wr.heap.size,1,none⟩=some (.string x.key):=by rw [I];exact kA rfl
   have g0:=bh.o _ ab 0;have g1:=bh.o _ ab 1;have ad:Below G.heap.size G G:=kB;have bf:w.heap.size<G.heap.size:=by omega
   have a5:wr.heap.size<G.heap.size:=by omega
   have aw:He (∀ W,Below G.heap.size G W->Calls prog 63 #[cV x,.pointer (some ⟨bs,0,none⟩)] W fun e w'=>e=.returned (.string (aQ l x.ty x.key))/\Below G.heap.size G w'):=fun W Z=>(HI.o W x (H.trans (Z.mono H.size))).mono fun e w' ⟨h1,h2⟩=>⟨h1,Z.trans (h2.mono Z.size)⟩
   have a3:He (∀ W,Below G.heap.size G W->∃ c:Int,(Instr.lookup 46 (.map (some m)) (.string (aQ l x.ty x.key)) true).run prog W=.ok (.tuple #[.int .i64 c,.bool (jV E n (aQ l x.ty x.key))]) W/\(jV E n (aQ l x.ty x.key)=true->c=aL E n (aQ l x.ty x.key))):=fun W Z=>bt.o W x (H.trans (Z.mono H.size))
   have bm:He (eF E n l x.ty x.key=aL E n (aQ l x.ty x.key)):=rfl;have au:He (jV E n (aQ l x.ty x.key)=decide (0<=aL E n (aQ l x.ty x.key))):=rfl;unfold He at ag au;rw [bm.o] at ag;have aj:He (_=_):=ag;have ai:He (_=_):=au;clear ag au bm;generalize aQ l x.ty x.key=f at *;generalize aL E n f=p at *;generalize jV E n f=kn at *
   go_wp2_with fail
   rw [<- I];clear I a0 a1
   go_cut [10,11] (fun v u wx=>∃ cc:Int,v=.int .i64 cc/\u=.bool kn/\He (kn=true->cc=p)/\Below G.heap.size G wx)
   case first =>
    go_region_with (go_at_call 63;refine (aw.o _ (by first|exact ad|exact ad.drew|exact ad.drew.drew|exact ad.drew.drew.drew)).mono ?_;rintro e w2 ⟨rfl,Y⟩;obtain ⟨cc,cb,J⟩:=a3.o w2 Y;have bi:He (kn=true->cc=p):=J;clear J;have q1:=(Y.cell (by exact bf)).trans g1)
    all_goals (try go_wp2_with fail)
    all_goals go_meet
    all_goals exact ⟨cc,rfl,rfl,bi,by first|exact Y|exact Y.drew|exact Y.drew.drew⟩
   case rest =>
    obtain ⟨cc,rfl,rfl,J,N⟩:=hcut;obtain ⟨w6,b4⟩:∃ w6:World,w6=wc:=⟨_,rfl⟩;subst b4;have af:=ab.trans (N.mono (by omega));have bw:=a8.trans (N.mono (by omega));have ah:He (fE w6 (w.heap.size+1) k F):=hM.o.below bw;cases kn
    case false =>
     have Hn:He (fE w6 (w.heap.size+1) (k+1) (FM E n l b off X (k+1))):=by
      have h0:¬ (0<=p):=by have:=ai.o;simpa using this.symm
      unfold He;rw [aj.o,if_neg h0];exact ah.o.mono (by omega)
     clear hM ah aj ai J aw a3 y0 y1 g0 g1;go_wp2
     go_roundw
     case rel=>first|exact ⟨k+1,by omega,by go_num,Hn,af⟩|((repeat apply Exists.intro);exact ⟨⟨k+1,by omega,by go_num,Hn,af⟩,rfl⟩)
     simp [intOf];omega
    case true =>
     have h0:0<=p:=by have:=ai.o;simpa using this.symm
     have bv:=J.o rfl;subst bv;obtain ⟨q,rfl⟩:∃ q:Nat,cc=(q:Int):=⟨cc.toNat,by omega⟩;have dc:q<n:=by omega
     obtain rfl:=Ha.o (by omega);have ae:(0:Int)<=(q:Int):=by omega
     have ay:(q:Int)<(n:Int):=by omega
     have a6:He (FM E n l b off X (k+1)=qX F x (.pointer (some ⟨b,off+q * 10,none⟩))):=by unfold He;rw [aj.o,if_pos ae,Int.toNat_natCast]
     have z0:=(N.cell (by exact bf)).trans g0;have z1:=(N.cell (by exact a5)).trans y0;have z2:=(N.cell (by exact a5)).trans y1;have b5:k<maxLen:=by unfold maxLen;omega
     have HP:He (∀ W,Below w6.heap.size w6 W->∃ w',(Instr.mapUpdate 56 (.map (some (w.heap.size+1))) (cV x) (.pointer (some ⟨b,off+q * 10,none⟩))).run prog W=.ok () w'/\fE w' (w.heap.size+1) (k+1) (FM E n l b off X (k+1))/\Below (w.heap.size+1) U w'):=fun W Z=>by
      obtain ⟨w',h1,h2,h3⟩:=NZ (ah.o.below Z) b5 b9.o b (off+q * 10);have bg:=af.trans (Z.mono (by have:=af.size;omega));refine ⟨w',h1,by rw [a6.o];exact h2,bg.grown h3 (by have:=bg.size;omega) (fun j hj=>by injection hj with hj;omega)⟩
     obtain ⟨u0,co,aq,an⟩:=HP.o w6 kB;obtain ⟨u1,da,ap,ao⟩:=HP.o w6.drew kB.drew;have bc:He (_):=aq;have bk:He (_):=ap;clear aq ap hM ah aj a6 ai J aw a3 y0 y1 g0 g1
     go_wp2_with fail
     go_region
     all_goals
      go_wp2
      go_roundw
      case rel=>first|exact ⟨k+1,by omega,by go_num,bc,an⟩|exact ⟨k+1,by omega,by go_num,bk,ao⟩|((repeat apply Exists.intro);first|exact ⟨⟨k+1,by omega,by go_num,bc,an⟩,rfl⟩|exact ⟨⟨k+1,by omega,by go_num,bk,ao⟩,rfl⟩)
      simp [intOf];omega
  have b2:k=c:=by omega
  subst b2;go_wp2
  go_ret;exact ⟨_,rfl,hM.o,a2⟩
end Go.Proofs.YtpfeegcdlikegaaGreat
namespace Go.Proofs.YtpfeegcdlikegaaGreat
open Go.RowKit Go.Proofs.Tryz
variable {M:Nat->ByteArray}{i j n cap:Nat}{a:Option Addr}{L:Nat->Int}
abbrev YL (x:ByteArray)(lv:Int):Value:=.agg #[.string x,.int .i64 lv]
theorem AZ (x:ByteArray)(lv:Int)(s:ByteArray)(w:World) :
  Calls prog 153 #[YL x lv,.string s] w fun e w'=>e=.returned (.int .i64 (cB x s))/\iB w w':=by
 go_enter func153,ntmps153
 go_wp2_with (go_at_call 71;refine (yW x s _).mono ?_;rintro e w' ⟨rfl,rfl⟩)
 go_ret;exact ⟨rfl,(iB.refl w).alloc _⟩
def uJ (M:Nat->ByteArray)(n:Nat):Prop:=∀ i j,i<j->j<n->(M i).data.toList<(M j).data.toList
theorem UX {a b:ByteArray}:cB a b<0↔a.data.toList<b.data.toList:=by
 unfold cB;rcases iP a.data.toList b.data.toList with ⟨h,e⟩|⟨h,e⟩|⟨h,e⟩
 ·rw [e];exact ⟨fun _=>h,fun _=>by decide⟩
 ·rw [e,h];exact ⟨fun u=>absurd u (by decide),fun u=>absurd u (List.lt_irrefl _)⟩
 rw [e];exact ⟨fun u=>absurd u (by decide),fun u=>absurd (List.lt_trans u h) (List.lt_irrefl _)⟩
theorem yF {a b:ByteArray}:cB a b=0↔a=b:=by
 unfold cB;rcases iP a.data.toList b.data.toList with ⟨h,e⟩|⟨h,e⟩|⟨h,e⟩
 ·rw [e];exact ⟨fun u=>absurd u (by decide),fun u=>by subst u;exact absurd h (List.lt_irrefl _)⟩
 ·rw [e];exact ⟨fun _=>lK h,fun _=>rfl⟩
 rw [e];exact ⟨fun u=>absurd u (by decide),fun u=>by subst u;exact absurd h (List.lt_irrefl _)⟩
theorem AB (h:uJ M n){s:ByteArray}(G:i<=j)(H:j<n)(u:cB (M j) s<0):cB (M i) s<0:=by
 by_cases e:i=j
 ·subst e;exact u
 rw [UX] at u ⊢;exact List.lt_trans (h i j (by omega) H) u
def FH (M:Nat->ByteArray)(n:Nat)(s:ByteArray)(w:World)(e:Ending)(w':World):Prop:=iB w w' /\
 ∃ (i:Nat) (t:Bool),e=.returned (.tuple #[.int .i64 (i:Int),.bool t])/\((t=true/\i<n/\M i=s)\/(t=false/\∀ j,j<n->M j≠s))
theorem WI (b off n cap:Nat)(M:Nat->ByteArray)(L:Nat->Int)(s:ByteArray)(w:World)(hS:uJ M n)(hn:n<=1000000000)(hb:n≠0->b<w.heap.size)
  (h1:∀ i,i<n->w.cell? ⟨b,off+i * 2,none⟩=some (.string (M i))) (h2:∀ i,i<n->w.cell? ⟨b,off+i * 2+1,none⟩=some (.int .i64 (L i))) :
  Calls prog 154 #[.slice (some ⟨b,off,none⟩) n cap,.string s,.func (.func 153) #[] #[]] w (FH M n s w):=by
 have HS:He (uJ M n):=hS;clear hS
 go_enter func154,ntmps154
 go_wp2_with fail
 go_loopw [9,10] (fun s9 ae wr=>∃ lo hi:Nat,s9=.int .i64 lo/\ae=.int .i64 hi/\lo<=hi/\hi<=n/\iB w wr/\He ((∀ t,t<lo->cB (M t) s<0)/\(∀ t,hi<=t->t<n->0<=cB (M t) s))) (fun s9 ae _=>(intOf ae).toNat - (intOf s9).toNat)
 case atStart=>exact ⟨0,n,rfl,rfl,nz,nL,iB.refl _,fun t O=>absurd O (Nat.not_lt_zero _),fun t h1 h2=>by omega⟩
 case round =>
  obtain ⟨lo,hi,rfl,rfl,am,an,I,hI⟩:=hrel
  have u:He (∀ i,i<n->wr.cell? ⟨b,off+i * 2,none⟩=some (.string (M i))/\wr.cell? ⟨b,off+i * 2+1,none⟩=some (.int .i64 (L i))):=fun i hi=>by
   have aj:=hb (by omega);exact ⟨(I.cell (by exact aj)).trans (h1 i hi),(I.cell (by exact aj)).trans (h2 i hi)⟩
  clear h1 h2 hb
  by_cases ay:lo<hi
  ·obtain ⟨m,hm⟩:∃ m:Nat,m=(lo+hi) / 2:=⟨_,rfl⟩
   have em:((lo:Int)+(hi:Int)) / 2=(m:Int):=by omega
   have a5:lo<=m:=by omega
   have a8:m<hi:=by omega
   have Y:m<n:=by omega
   have a1:=(u.o m Y).1;have a2:=(u.o m Y).2;clear hm
   go_wp2_with fail
   refine (AZ (M m) (L m) s _).mono ?_;rintro e wz ⟨rfl,ab⟩;have N:=I.trans ab;have af:He (∀ t,t<=m->cB (M m) s<0->cB (M t) s<0):=fun t O J=>AB HS.o O Y J
   have Z:He (∀ t,m<=t->t<n->0<=cB (M m) s->0<=cB (M t) s):=fun t O ad J=>Int.not_lt.1 fun h=>by have:=AB HS.o O ad h;omega
   clear a1 a2 u;generalize cB (M m) s=c at *
   by_cases J:c<0
   ·have I2:He ((∀ t,t<m+1->cB (M t) s<0)/\(∀ t,hi<=t->t<n->0<=cB (M t) s)):=⟨fun t O=>af.o t (by omega) J,hI.o.2⟩
    clear af Z hI;go_wp2
    go_roundw
    case rel=>exact ⟨m+1,hi,by go_num,rfl,by omega,by omega,N,I2⟩
    simp [intOf];omega
   have I2:He ((∀ t,t<lo->cB (M t) s<0)/\(∀ t,m<=t->t<n->0<=cB (M t) s)):=⟨hI.o.1,fun t O ad=>Z.o t O ad (by omega)⟩;clear af Z hI;go_wp2
   go_roundw
   case rel=>exact ⟨lo,m,rfl,rfl,by omega,by omega,N,I2⟩
   simp [intOf];omega
  obtain rfl:hi=lo:=by omega
  have G:He ((hi<n->M hi≠s)->∀ j,j<n->M j≠s):=fun aw j hj e=>by
   have J:cB (M j) s=0:=yF.2 e;rcases Nat.lt_trichotomy j hi with h'|h'|h'
   ·have:=hI.o.1 j h';omega
   ·subst h';exact aw hj e
   have h3:=HS.o hi j h' hj;rw [e,<- UX] at h3
   have:=hI.o.2 hi nL (by omega);omega
  by_cases H:hi<n
  ·have a1:=(u.o hi H).1
   have a2:=(u.o hi H).2;have ai:He (cB (M hi) s=0->M hi=s):=fun e=>yF.1 e
   have U:He (cB (M hi) s≠0->∀ j,j<n->M j≠s):=fun e=>G.o (fun _ e2=>e (yF.2 e2))
   go_wp2_with fail
   refine (AZ (M hi) (L hi) s _).mono ?_;rintro e wz ⟨rfl,ab⟩;have N:=I.trans ab;clear a1 a2 u G;generalize cB (M hi) s=c at *;go_wp2
   refine bodyPost_ret (v:=.tuple #[.int .i64 (hi:Int),.bool (c == 0)]) (by simp [results,results154,go_sem]) rfl ⟨N,hi,(c == 0),rfl,?_⟩
   by_cases J:c=0
   ·exact Or.inl ⟨by simpa using J,H,ai.o J⟩
   exact Or.inr ⟨by simpa using J,U.o J⟩
  have U:He (∀ j,j<n->M j≠s):=G.o (fun h=>absurd h H);obtain rfl:hi=n:=by omega
  clear u hI ay H am an G;go_wp2
  exact bodyPost_ret (v:=.tuple #[.int .i64 (hi:Int),.bool false]) (by simp [results,results154,go_sem]) rfl ⟨I,hi,false,rfl,Or.inr ⟨rfl,U.o⟩⟩
theorem SZ (a:Option Addr)(cap:Nat)(M:Nat->ByteArray)(s:ByteArray)(w:World) :
  Calls prog 154 #[.slice a 0 cap,.string s,.func (.func 153) #[] #[]] w (FH M 0 s w):=by
 go_enter func154,ntmps154
 go_wp2_with fail
 refine wp_loop_rounds 1 ?_;rw [rounds_succ];go_wp2
 exact bodyPost_ret (v:=.tuple #[.int .i64 ((0:Nat):Int),.bool false]) (by simp [results,results154,go_sem]) rfl ⟨iB.refl w,0,false,rfl,Or.inr ⟨rfl,fun j u=>absurd u (Nat.not_lt_zero _)⟩⟩
theorem YQ (s:ByteArray)(w:World)(G:uJ M n)(u:n<=1000000000)(h:gN w a n cap M L) :
  Calls prog 154 #[.slice a n cap,.string s,.func (.func 153) #[] #[]] w (FH M n s w):=by
 rcases h.cells with rfl|⟨b,off,rfl,hb,H,I⟩
 ·exact SZ a cap M s w
 exact WI b off n cap M L s w G u (fun _=>hb) H I
theorem MR (s:ByteArray)(w:World)(U:uJ M n)(hn:n<=1000000)(h:gN w a n cap M L) :
  Calls prog 125 #[.slice a n cap,.string s] w fun e w'=>e=.returned (fQ (gV M L s n))/\iB w w':=by
 have Z:He (uJ M n):=U;clear U
 go_enter func125,ntmps125
 go_wp2_with fail
 refine (YQ s _ Z.o (by omega) h).mono ?_;rintro e w1 ⟨u,i,t,rfl,G⟩;rcases G with ⟨rfl,hi,J⟩|⟨rfl,H⟩
 ·have I:He (fQ (gV M L s n)=.tuple #[.int .i64 (L i),.bool true]):=by
   unfold He;rw [EE (j:=i) (fun j N=>?_) (by rw [J];simp) hi]
   ·rfl
   cases hq:((M j).toList == s.toList)
   ·rfl
   rw [beq_iff_eq,ByteArray.toList_eq,ByteArray.toList_eq] at hq;have O:=Z.o j i N hi;rw [J,hq] at O;exact absurd O (List.lt_irrefl _)
  clear J;rcases (h.below u.below).cells with h0|⟨b,off,rfl,hb,h1,Y⟩
  ·omega
  have c2:=Y i hi;clear h1 Y;go_wp2
  refine bodyPost_ret (v:=.tuple #[.int .i64 (L i),.bool true]) (by simp [results,results125,go_sem]) rfl ⟨by rw [I.o],u⟩
 have I:He (fQ (gV M L s n)=.tuple #[.int .i64 0,.bool false]):=by
  unfold He;rw [rF fun j N=>?_]
  ·rfl
  cases hq:((M j).toList == s.toList)
  ·rfl
  rw [beq_iff_eq,ByteArray.toList_eq,ByteArray.toList_eq] at hq;exact absurd (lK hq) (H j N)
 clear H;go_wp2
 refine bodyPost_ret (v:=.tuple #[.int .i64 0,.bool false]) (by simp [results,results125,go_sem]) rfl ⟨by rw [I.o],u⟩
end Go.Proofs.YtpfeegcdlikegaaGreat
