import Derived.Test.YtpfeegcdlikegaaGreatAlXZ
import Derived.Shelf.SlSortCmp.QuietGrown
import Derived.DeepKeys4
set_option maxHeartbeats 16000000
set_option maxRecDepth 100000
namespace Go.Proofs.YtpfeegcdlikegaaGreat
open Go.RowKit Go.Proofs.Tryz
variable {a:Option Addr}{cap:Nat}{l:List aE}
theorem GM (x:aE)(w:World):Calls prog 96 #[eS x] w fun e w'=>e=.returned (cV x)/\∃ q u,w'=Sort.grow (w.drewN q) u :=
 (BF x w).mono fun _ _ h=>⟨h.1,h.2.eq⟩
theorem GS (x y:aE)(w:World):Calls prog 29 #[cV x,cV y] w fun e w'=>e=.returned (.int .i64 (dN x y))/\∃ q u,w'=Sort.grow (w.drewN q) u :=
 (AS x y w).mono fun _ _ h=>⟨h.1,h.2.eq⟩
theorem nC (a:Option Addr)(cap:Nat)(w:World) :
  Calls prog 98 #[.slice a 0 cap] w fun e w'=>e=.returned (.bool true)/\w'=w:=by
 go_enter func98,ntmps98
 go_wp2
 refine wp_loop_rounds 1 ?_;rw [rounds_succ];go_wp2
 go_ret;exact ⟨rfl,rfl⟩
theorem xM (b off cap:Nat)(l:List aE)(w:World)(af:0<l.length)(hn:l.length<=maxLen)(hb:b<w.heap.size)
  (h1:∀ i,i<l.length->w.cell? ⟨b,off+i * 3,none⟩=some (.string (aI l i).ty)) (h2:∀ i,i<l.length->w.cell? ⟨b,off+i * 3+1,none⟩=some (.string (aI l i).key)) (Z:∀ i,i<l.length->w.cell? ⟨b,off+i * 3+2,none⟩=some (.string (aI l i).id)) :
  Calls prog 98 #[.slice (some ⟨b,off,none⟩) l.length cap] w fun e w'=>e=.returned (.bool (oZ l))/\Below w.heap.size w w':=by
 unfold maxLen at hn
 go_enter func98,ntmps98
 go_wp2
 go_loopw [3] (fun i wr=>∃ k:Nat,k+1<=l.length/\i=.int .i64 ((k:Int)+1)/\He (jC l (k+1)=true)/\Below w.heap.size w wr) (fun i _=>l.length - (intOf i).toNat)
 case atStart=>exact ⟨0,af,rfl,rfl,kB⟩
 case round =>
  obtain ⟨k,hk,rfl,O,u⟩:=hrel
  by_cases ag:k+1<l.length
  ·have G:b<wr.heap.size:=nT hb u.size
   have a1:∀ n os,(Sort.grow (wr.drewN n) os).cell? ⟨b,off+k * 3,none⟩=some (.string (aI l k).ty):=cell_grown (by exact G) ((u.cell (by exact hb)).trans (h1 k (by omega)));have a2:∀ n os,(Sort.grow (wr.drewN n) os).cell? ⟨b,off+k * 3+1,none⟩=some (.string (aI l k).key):=cell_grown (by exact G) ((u.cell (by exact hb)).trans (h2 k (by omega)));have a3:∀ n os,(Sort.grow (wr.drewN n) os).cell? ⟨b,off+k * 3+2,none⟩=some (.string (aI l k).id):=cell_grown (by exact G) ((u.cell (by exact hb)).trans (Z k (by omega)));have b1:∀ n os,(Sort.grow (wr.drewN n) os).cell? ⟨b,off+(k+1) * 3,none⟩=some (.string (aI l (k+1)).ty):=cell_grown (by exact G) ((u.cell (by exact hb)).trans (h1 (k+1) (by omega)));have b2:∀ n os,(Sort.grow (wr.drewN n) os).cell? ⟨b,off+(k+1) * 3+1,none⟩=some (.string (aI l (k+1)).key):=cell_grown (by exact G) ((u.cell (by exact hb)).trans (h2 (k+1) (by omega)));have b3:∀ n os,(Sort.grow (wr.drewN n) os).cell? ⟨b,off+(k+1) * 3+2,none⟩=some (.string (aI l (k+1)).id):=cell_grown (by exact G) ((u.cell (by exact hb)).trans (Z (k+1) (by omega)));have aj:k<l.length:=by omega
   have ew:IntKind.i64.wrap (k:Int)=(k:Int):=by rw [IntKind.wrap_i64];omega
   have z1:(0:Int)<=(k:Int)+1:=by omega
   have z2:(k:Int)+1<(l.length:Int):=by omega
   have z3:((k:Int)+1).toNat=k+1:=by omega
   have I:He (cO (aI l k) (aI l (k+1))=decide (dN (aI l k) (aI l (k+1))<0)):=zU _ _;clear h1 h2 Z
   go_wp2_with fail
   refine wp_region_quiet_grown (by kernel_rfl) (by kernel_rfl) ?_
   repeat (quiet_step (first
    | (go_at_call 96;exact Calls.grown_of (GM _ _))
    | (go_at_call 29;exact Calls.grown_of (GS _ _ _))))
   refine wpQuiet_nil ?_;intro _ Y;obtain ⟨⟨nq,N⟩,J⟩:=Y;subst J;have U:=u.trans ((oK wr nq N).below.mono u.size);clear a1 a2 a3 b1 b2 b3;generalize Sort.grow (wr.drewN nq) N=wz at *;generalize dN (aI l k) (aI l (k+1))=c at *
   by_cases hc:c<0
   ·have ae:¬ (0<=c):=by omega
    have hB:cO (aI l k) (aI l (k+1))=true:=by rw [I.o];exact decide_eq_true hc
    have H:He (jC l (k+1+1)=true):=by unfold He;rw [jC,O.o,show k+1 - 1=k from rfl,hB];simp
    clear hB I;go_wp2
    go_roundw
    case rel=>exact ⟨k+1,by omega,by go_num,H,U⟩
    simp [intOf];omega
   have ae:0<=c:=by omega
   have hB:cO (aI l k) (aI l (k+1))=false:=by rw [I.o];exact decide_eq_false hc
   have H:He (oZ l=false):=by unfold He;rw [oZ,sF l l.length (k+1) ag (by rw [jC,show k+1 - 1=k from rfl,hB];simp)]
   clear hB I;go_wp2
   go_ret;exact ⟨aC H.o.symm,U⟩
  go_wp2
  go_ret;exact ⟨aC (by rw [oZ,show l.length=k+1 by omega,O.o]),u⟩
theorem qT (w:World)(h:dF w a cap l) :
  Calls prog 98 #[.slice a l.length cap] w fun e w'=>e=.returned (.bool (oZ l))/\Below w.heap.size w w':=by
 rcases h.cells with rfl|⟨b,off,rfl,hb,G,I,H⟩
 ·refine (nC a cap w).mono ?_
  rintro e w' ⟨rfl,rfl⟩;exact ⟨rfl,kB⟩
 by_cases u:0<l.length
 ·exact xM b off cap l w u (nZ h.le h.max) hb G I H
 obtain rfl:l=[]:=List.eq_nil_of_length_eq_zero (by omega);refine (nC _ cap w).mono ?_;rintro e w' ⟨rfl,rfl⟩;exact ⟨rfl,kB⟩
theorem pD (x:aE)(w:World) :
  Calls prog 97 #[eS x] w fun e w'=>e=.returned (.bool (x.id.toList.isEmpty))/\Below w.heap.size w w':=by
 cases h:x.id.toList.isEmpty
 all_goals
  go_enter func97,ntmps97
  go_wp2
  go_ret;exact ⟨aC (by first|rfl|simp [h]),bA⟩
theorem vD (a:Option Addr)(cap:Nat)(fv:Value)(w:World) :
  Calls prog 99 #[.slice a 0 cap,fv] w fun e w'=>e=.returned (.int .i64 (-1))/\w'=w:=by
 go_enter func99,ntmps99
 go_wp2
 refine wp_loop_rounds 1 ?_;rw [rounds_succ];go_wp2
 go_ret;exact ⟨rfl,rfl⟩
theorem PA (b off cap:Nat)(l:List aE)(w:World)(Z:l.length<=maxLen)(hb:b<w.heap.size)
  (U:∀ i,i<l.length->w.cell? ⟨b,off+i * 3,none⟩=some (.string (aI l i).ty)) (Y:∀ i,i<l.length->w.cell? ⟨b,off+i * 3+1,none⟩=some (.string (aI l i).key)) (O:∀ i,i<l.length->w.cell? ⟨b,off+i * 3+2,none⟩=some (.string (aI l i).id)) :
  Calls prog 99 #[.slice (some ⟨b,off,none⟩) l.length cap,.func (.func 97) #[] #[]] w fun e w'=>∃ z:Int,e=.returned (.int .i64 z)/\He (decide (0<=z)=!dS l l.length)/\Below w.heap.size w w':=by
 unfold maxLen at Z
 go_enter func99,ntmps99
 go_wp2
 go_loopw [8] (fun i wr=>∃ k:Nat,k<=l.length/\i=.int .i64 k/\He (dS l k=true)/\Below w.heap.size w wr) (fun i _=>l.length - (intOf i).toNat)
 case atStart=>exact ⟨0,nz,rfl,rfl,kB⟩
 case round =>
  obtain ⟨k,hk,rfl,I,u⟩:=hrel
  by_cases H:k<l.length
  ·have a1:wr.cell? ⟨b,off+k * 3,none⟩=some (.string (aI l k).ty):=(u.cell (by exact hb)).trans (U k H)
   have a2:wr.cell? ⟨b,off+k * 3+1,none⟩=some (.string (aI l k).key):=(u.cell (by exact hb)).trans (Y k H);have a3:wr.cell? ⟨b,off+k * 3+2,none⟩=some (.string (aI l k).id):=(u.cell (by exact hb)).trans (O k H);clear U Y O;cases he:(aI l k).id.toList.isEmpty
   ·have G:He (dS l (k+1)=true):=by unfold He;rw [dS,I.o,he];rfl
    go_wp2_with (go_at_call 97;refine (pD (aI l k) _).mono ?_;rintro e w1 ⟨rfl,J⟩;rw [he])
    go_roundw
    case rel=>exact ⟨k+1,by omega,by go_num,G,u.trans (J.mono u.size)⟩
    simp [intOf];omega
   have G:He (dS l l.length=false):=sE l l.length k H (by rw [dS,he];simp)
   go_wp2_with (go_at_call 97;refine (pD (aI l k) _).mono ?_;rintro e w1 ⟨rfl,J⟩;rw [he])
   go_ret;exact ⟨(k:Int),rfl,by unfold He;rw [G.o];simp,u.trans (J.mono u.size)⟩
  have N:l.length=k:=by omega
  have G:He (dS l l.length=true):=by rw [N];exact I
  clear U Y O I;go_wp2
  go_ret;exact ⟨-1,rfl,by unfold He;rw [G.o];rfl,u⟩
theorem TP (w:World)(h:dF w a cap l) :
  Calls prog 99 #[.slice a l.length cap,.func (.func 97) #[] #[]] w fun e w'=>∃ z:Int,e=.returned (.int .i64 z)/\He (decide (0<=z)=!dS l l.length)/\Below w.heap.size w w':=by
 rcases h.cells with rfl|⟨b,off,rfl,hb,u,H,G⟩
 ·refine (vD a cap _ w).mono ?_
  rintro e w' ⟨rfl,rfl⟩;exact ⟨-1,rfl,rfl,kB⟩
 exact PA b off cap l w (nZ h.le h.max) hb u H G
theorem MP (w:World)(h:dF w a cap l) :
  Calls prog 62 #[.slice a l.length cap,.func (.func 97) #[] #[]] w fun e w'=>e=.returned (.bool (!dS l l.length))/\Below w.heap.size w w':=by
 go_enter func62,ntmps62
 go_wp2_with fail
 refine (TP _ h).mono ?_;rintro e w1 ⟨z,rfl,hz,u⟩;go_wp2
 go_ret;exact ⟨aC hz.o,u⟩
theorem vM (w:World)(h:dF w a cap l) :
  Calls prog 61 #[.slice a l.length cap] w fun e w'=>e=.returned (.bool (qV l))/\Below w.heap.size w w':=by
 have N:=nZ h.le h.max;unfold maxLen at N
 by_cases J:l.length<=300
 ·have H:He (qV l=(oZ l && dS l l.length)):=by unfold He qV;rw [decide_eq_true J,Bool.true_and,Bool.and_comm]
  cases ho:oZ l
  ·have G:He (qV l=false):=by rw [ho,Bool.false_and] at H;exact H
   go_enter func61,ntmps61
   go_wp2_with (go_at_call 98;refine (qT _ h).mono ?_;rintro e w1 ⟨rfl,u⟩;rw [ho])
   go_ret;exact ⟨aC G.o.symm,u⟩
  have G:He (qV l=dS l l.length):=by rw [ho,Bool.true_and] at H;exact H
  go_enter func61,ntmps61
  go_wp2_with (first
   | (go_at_call 98;refine (qT _ h).mono ?_;rintro e w1 ⟨rfl,u⟩;rw [ho])
   | (go_at_call 62;refine (MP _ (h.below u)).mono ?_;rintro e w2 ⟨rfl,I⟩))
  go_ret;exact ⟨aC G.o.symm,u.trans (I.mono u.size)⟩
 have H:He (qV l=false):=by unfold He qV;rw [decide_eq_false J];simp
 go_enter func61,ntmps61
 go_wp2
 go_ret;exact ⟨aC H.o.symm,kB⟩
end Go.Proofs.YtpfeegcdlikegaaGreat
namespace Go.Proofs.YtpfeegcdlikegaaGreat
open Go.RowKit Go.Maps Go.ChangeMaps Go.Proofs.Tryz
variable {B m n q rc cap:Nat}{w w':World}{a ra:Option Addr}{E:Nat->Ev}
theorem qC (h:Below B w w')(n:Nat):Below B w (w'.drewN n):=h.trans ⟨rfl,rfl,rfl,nL,fun _ _=>rfl⟩
def zM (E:Nat->Ev)(q:Nat)(x:aE):Bool:=(E q).st && (((E q).ty.toList == x.ty.toList) && ((E q).key.toList == x.key.toList))
theorem JA {mm:Option Nat}{nr:Nat}(x:aE)(w:World)(h:dW w a n cap E)(hq:q<n) :
  Calls prog 95 #[.agg #[.slice a n cap,.map mm,.slice ra nr rc],.int .i64 (q:Int),cV x] w fun e w'=>e=.returned (.bool (zM E q x))/\Below w.heap.size w w':=by
 have Y:=nZ h.le h.max;unfold maxLen at Y;rcases h.cells with h0|⟨b,off,rfl,hb,hc⟩
 ·omega
 obtain ⟨_,_,_,_,_,_,G,_⟩:=hc q hq;obtain ⟨N,u⟩:∃ N,N=(w.alloc (.cells #[.slice (some ⟨b,off,none⟩) n cap,.map mm,.slice ra nr rc] 49)).alloc (.cells #[.string x.ty,.string x.key] 63):=⟨_,rfl⟩;have H:Below w.heap.size w N:=by rw [u];exact bA.alloc (by simp) _
 have ak:N.cell? ⟨w.heap.size,0,none⟩=some (.slice (some ⟨b,off,none⟩) n cap):=by rw [u,World.cell?_alloc_past _ _ _ (by simp)];exact kA rfl
 have ao:N.cell? ⟨w.heap.size+1,0,none⟩=some (.string x.ty):=by rw [u];exact kA (by simp)
 have ah:N.cell? ⟨w.heap.size+1,1,none⟩=some (.string x.key):=by rw [u];exact kA (by simp)
 have e2:=(H.cell (by exact hb)).trans G.c2;have e3:=(H.cell (by exact hb)).trans G.c3;have e4:=(H.cell (by exact hb)).trans G.c4;have Z:He (zM E q x=((E q).st && (((E q).ty.toList == x.ty.toList) && ((E q).key.toList == x.key.toList)))):=rfl;have ai:(0:Int)<=(q:Int):=by omega
 have ag:(q:Int)<(n:Int):=by omega
 clear hc G h;generalize (E q).st=st at *;generalize (E q).ty=ty at *;generalize (E q).key=key at *;obtain ⟨O,J⟩:∃ O,O=(ty.toList == x.ty.toList):=⟨_,rfl⟩;obtain ⟨U,I⟩:∃ U,U=(key.toList == x.key.toList):=⟨_,rfl⟩;have HV:He (zM E q x=(st && (O && U))):=by rw [J,I];exact Z
 have an:(ty.toList == x.ty.toList)=O:=J.symm;have am:(key.toList == x.key.toList)=U:=I.symm;clear Z J I;cases st <;> cases O <;> cases U
 all_goals
  have HN:He (zM E q x=_):=HV.o;clear HV
  go_enter func95,ntmps95
  go_wp2_with fail
  try rw [<- u]
  clear u
  go_quiet (fail)
  all_goals
   go_wp2
   go_ret;exact ⟨by rw [HN.o];rfl,qC H _⟩
theorem NR (E:Nat->Ev)(n:Nat)(x:aE)(h:aL E n x.id=(q:Int)):gB E n x=zM E q x:=by
 unfold gB zM;rw [h,Int.toNat_natCast,decide_eq_true (by omega),Bool.true_and]
theorem PC (E:Nat->Ev)(n:Nat)(x:aE)(h:aL E n x.id<0):gB E n x=false:=by
 unfold gB;rw [decide_eq_false (by omega)];rfl
theorem OO {nr:Nat}(x:aE)(hx:x.id.size<=maxLen)(w:World)(h:dW w a n cap E)(hm:cY w m n (jV E n) (aL E n)) :
  Calls prog 60 #[.agg #[.slice a n cap,.map (some m),.slice ra nr rc],eS x] w fun e w'=>e=.returned (.bool (gB E n x))/\Below w.heap.size w w':=by
 obtain ⟨G,u⟩:∃ G,G=(w.alloc (.cells #[.slice a n cap,.map (some m),.slice ra nr rc] 49)).alloc (.cells #[.string x.ty,.string x.key,.string x.id] 66):=⟨_,rfl⟩;have I:Below w.heap.size w G:=by rw [u];exact bA.alloc (by simp) _
 have ay:G.heap.size=w.heap.size+1+1:=by rw [u];simp
 have aj:∀ o,G.cell? ⟨w.heap.size,o,none⟩=(#[.slice a n cap,.map (some m),.slice ra nr rc]:Array Value)[o]?:=fun o=>by rw [u,World.cell?_alloc_past _ _ _ (by simp)];exact kA rfl
 have a2:∀ o,G.cell? ⟨w.heap.size+1,o,none⟩=(#[.string x.ty,.string x.key,.string x.id]:Array Value)[o]?:=fun o=>by rw [u];exact kA (by simp)
 obtain ⟨D,hD,hK⟩:=hm.below I;have hkey:keyOf prog 9 (.string x.id)=some (.string x.id.data.toList):=Go.WideMaps.keyOf_string_mk underlying9 hx;have H:has D (.string x.id.data.toList)=jV E n x.id:=(hK x.id).1;have N:He (jV E n x.id=true->D.atKey (.string x.id.data.toList) (.lit (.int .i64 0))=.lit (.int .i64 (aL E n x.id))):=(hK x.id).2;have HD:He (G.ownsMap prog 9 (plainElem prog 3) m n D):=hD;clear hK;cases hkn:jV E n x.id
 case false =>
  rw [hkn] at H;have Y:aL E n x.id<0:=by have:¬ (0<=aL E n x.id):=(by simpa [jV] using hkn);omega
  have Hv:He (Ending.returned (.bool false)=.returned (.bool (gB E n x))):=by unfold He;rw [PC E n x Y]
  clear Y N hkn
  go_enter func60,ntmps60
  go_wp2_with (at_lookup;(try rw [<- u]);refine wpList_lookup_own_ok_int _ rfl _ _ 46 rfl 9 3 .i64 pQ underlying46 underlying3 (oW _) m n D rfl HD.o _ _ rfl hkey ?_;intro c Z ag;rw [H])
  rw [<- u];clear u
  go_quiet (fail)
  go_wp2
  go_ret;exact ⟨Hv.o,qC I _⟩
 case true =>
  rw [hkn] at H;have ad:0<=aL E n x.id:=by simpa [jV] using hkn
  have J:=N.o hkn
  obtain ⟨p,hp,ep⟩:∃ p:Nat,p<n/\aL E n x.id=(p:Int):=by
   have:=cJ E x.id n;exact ⟨(aL E n x.id).toNat,by omega,by omega⟩
  rw [ep] at J;have Hv:He (gB E n x=zM E p x):=NR E n x ep;have HI:He (∀ W,Below w.heap.size w W->Calls prog 95 #[.agg #[.slice a n cap,.map (some m),.slice ra nr rc],.int .i64 (p:Int),cV x] W fun e w'=>e=.returned (.bool (zM E p x))/\Below W.heap.size W w'):=fun W hW=>JA x W (h.below hW) hp
  clear ad N hkn ep
  go_enter func60,ntmps60
  go_wp2_with (at_lookup;(try rw [<- u]);refine wpList_lookup_own_ok_int _ rfl _ _ 46 rfl 9 3 .i64 pQ underlying46 underlying3 (oW _) m n D rfl HD.o _ _ rfl hkey ?_;intro c Z ag;rw [H];have ae:c=(p:Int):=by (have:=Z.symm.trans J;simpa using this))
  rw [<- u];clear u Z ae J;have af:w.heap.size<G.heap.size:=by omega
  have ax:w.heap.size+1<G.heap.size:=by omega
  have U:Below G.heap.size G G:=kB
  go_region_with (first
   | (go_at_call 96;refine (BF x _).mono ?_;rintro e w2 ⟨rfl,am⟩;have O:Below G.heap.size G w2:=Below.trans (by first|exact U|exact U.drew|exact U.drew.drew|exact U.drew.drew.drew) am.below;have ao:∀ o,w2.cell? ⟨w.heap.size,o,none⟩=(#[.slice a n cap,.map (some m),.slice ra nr rc]:Array Value)[o]?:=fun o=>(O.cell (by exact af)).trans (aj o))
   | (go_at_call 95;refine (HI.o _ (I.trans (Below.mono (by first|exact O|exact O.drew|exact O.drew.drew|exact O.drew.drew.drew) I.size))).mono ?_;rintro e w3 ⟨rfl,ai⟩;have h3:Below G.heap.size G w3:=Below.trans (by first|exact O|exact O.drew|exact O.drew.drew|exact O.drew.drew.drew) (ai.mono (by first|exact O.size|exact O.drew.size))))
  all_goals
   go_wp2
   go_ret;exact ⟨by rw [Hv.o];simp [Act.put],I.trans (Below.mono (by first|exact h3|exact h3.drew|exact h3.drew.drew) I.size)⟩
variable {sa:Option Addr}{sc:Nat}{l:List aE}
theorem NV {J G:Nat}(x:aE)(N:x.id.size<=maxLen)(w:World)(h:dW w a n cap E)(O:cY w m n (jV E n) (aL E n))(hg:∀ o,w.cell? ⟨G,o,none⟩=(#[.slice a n cap,.map (some m),.slice ra J rc]:Array Value)[o]?)(H:G<w.heap.size) :
  Calls prog 59 #[eS x,.pointer (some ⟨G,0,none⟩)] w fun e w'=>e=.returned (.bool (!gB E n x))/\Below w.heap.size w w':=by
 have u:∀ o,Below w.heap.size w (w.alloc o):=fun o=>bA
 have g0:∀ c o,(w.alloc c).cell? ⟨G,o,none⟩=(#[.slice a n cap,.map (some m),.slice ra J rc]:Array Value)[o]?:=fun c o=>((u c).cell (by exact H)).trans (hg o)
 have U:G≠w.heap.size:=by omega
 have k0:=g0 (.cells #[.string x.ty,.string x.key,.string x.id] 66) 0;have Z:=g0 (.cells #[.string x.ty,.string x.key,.string x.id] 66) 1;have Y:=g0 (.cells #[.string x.ty,.string x.key,.string x.id] 66) 2;clear g0 hg
 go_enter func59,ntmps59
 go_wp2_with fail
 refine (OO x N _ (h.below (u _)) (O.below (u _))).mono ?_;rintro e w1 ⟨rfl,I⟩;go_wp2
 go_ret;exact ⟨rfl,(u _).trans (I.mono (by simp))⟩
theorem LV (b off cap:Nat)(l:List aE)(E:Nat->Ev)(n bg:Nat)(w:World)(hn:l.length<=maxLen)(hb:b<w.heap.size)
  (HC:He (∀ W x,x ∈ l->Below w.heap.size w W->Calls prog 59 #[eS x,.pointer (some ⟨bg,0,none⟩)] W fun e w'=>e=.returned (.bool (!gB E n x))/\Below W.heap.size W w'))
  (Y:∀ i,i<l.length->w.cell? ⟨b,off+i * 3,none⟩=some (.string (aI l i).ty)) (Z:∀ i,i<l.length->w.cell? ⟨b,off+i * 3+1,none⟩=some (.string (aI l i).key)) (U:∀ i,i<l.length->w.cell? ⟨b,off+i * 3+2,none⟩=some (.string (aI l i).id)) :
  Calls prog 99 #[.slice (some ⟨b,off,none⟩) l.length cap,.func (.func 59) #[] #[.pointer (some ⟨bg,0,none⟩)]] w fun e w'=>∃ z:Int,e=.returned (.int .i64 z)/\He (decide (0<=z)=!dR E n l l.length)/\Below w.heap.size w w':=by
 unfold maxLen at hn
 go_enter func99,ntmps99
 go_wp2
 go_loopw [8] (fun i wr=>∃ k:Nat,k<=l.length/\i=.int .i64 k/\He (dR E n l k=true)/\Below w.heap.size w wr) (fun i _=>l.length - (intOf i).toNat)
 case atStart=>exact ⟨0,nz,rfl,rfl,kB⟩
 case round =>
  obtain ⟨k,hk,rfl,I,u⟩:=hrel
  by_cases H:k<l.length
  ·have a1:wr.cell? ⟨b,off+k * 3,none⟩=some (.string (aI l k).ty):=(u.cell (by exact hb)).trans (Y k H)
   have a2:wr.cell? ⟨b,off+k * 3+1,none⟩=some (.string (aI l k).key):=(u.cell (by exact hb)).trans (Z k H);have a3:wr.cell? ⟨b,off+k * 3+2,none⟩=some (.string (aI l k).id):=(u.cell (by exact hb)).trans (U k H);have N:He (Calls prog 59 #[eS (aI l k),.pointer (some ⟨bg,0,none⟩)] wr fun e w'=>e=.returned (.bool (!gB E n (aI l k)))/\Below wr.heap.size wr w'):=HC.o wr _ (fW l k H) u;clear Y Z U;cases he:gB E n (aI l k)
   case true =>
    have G:He (dR E n l (k+1)=true):=by unfold He;rw [dR,I.o,he];rfl
    rw [he] at N
    go_wp2_with (go_at_call 59;refine (N.o).mono ?_;rintro e w1 ⟨rfl,J⟩)
    go_roundw
    case rel=>exact ⟨k+1,by omega,by go_num,G,u.trans (J.mono u.size)⟩
    simp [intOf];omega
   case false =>
    have G:He (dR E n l l.length=false):=rO E n l l.length k H (by rw [dR,he,Bool.and_false]);rw [he] at N
    go_wp2_with (go_at_call 59;refine (N.o).mono ?_;rintro e w1 ⟨rfl,J⟩)
    go_ret;exact ⟨(k:Int),rfl,by unfold He;rw [G.o];simp,u.trans (J.mono u.size)⟩
  have O:l.length=k:=by omega
  have G:He (dR E n l l.length=true):=by rw [O];exact I
  clear Y Z U I;go_wp2
  go_ret;exact ⟨-1,rfl,by unfold He;rw [G.o];rfl,u⟩
theorem GE {nr:Nat}(w:World)(h:dW w a n cap E)(hm:cY w m n (jV E n) (aL E n))(J:dF w sa sc l) :
  Calls prog 19 #[.agg #[.slice a n cap,.map (some m),.slice ra nr rc],.slice sa l.length sc] w fun e w'=>e=.returned (.bool (dY E n l))/\Below w.heap.size w w':=by
 have G:∀ o,Below w.heap.size w (w.alloc o):=fun o=>bA
 cases hst:qV l
 case false =>
  have U:He (dY E n l=false):=by unfold He dY;rw [hst,Bool.and_false]
  go_enter func19,ntmps19
  go_wp2_with (go_at_call 61;refine (vM _ (J.below (G _))).mono ?_;rintro e w1 ⟨rfl,u⟩;rw [hst])
  go_ret;exact ⟨aC U.o.symm,(G _).trans (u.mono (by simp))⟩
 case true =>
  have U:He (dY E n l=dR E n l l.length):=by unfold He dY;rw [hst,Bool.and_true]
  have ab:He (∀ W,Below (w.heap.size+1) (w.alloc (.cells #[.slice a n cap,.map (some m),.slice ra nr rc] 49)) W->Calls prog 62 #[.slice sa l.length sc,.func (.func 59) #[] #[.pointer (some ⟨w.heap.size,0,none⟩)]] W fun e w'=>e=.returned (.bool (!dR E n l l.length))/\Below W.heap.size W w'):=fun W hW=>by
   have I:Below w.heap.size w W:=(G _).trans (hW.mono (by omega));have O:w.heap.size<W.heap.size:=by have:=hW.size;simp at this;omega
   have HI:Calls prog 99 #[.slice sa l.length sc,.func (.func 59) #[] #[.pointer (some ⟨w.heap.size,0,none⟩)]] W fun e w'=>∃ z:Int,e=.returned (.int .i64 z)/\He (decide (0<=z)=!dR E n l l.length)/\Below W.heap.size W w':=by
    rcases (J.below I).cells with rfl|⟨b,off,rfl,hb,h1,h2,h3⟩
    ·refine (vD sa sc _ W).mono ?_
     rintro e w' ⟨rfl,rfl⟩;exact ⟨-1,rfl,rfl,kB⟩
    exact LV b off sc l E n w.heap.size W (nZ J.le J.max) hb (fun W2 x hx H=>NV x (J.ok x hx).2.2 W2 ((h.below I).below H) ((hm.below I).below H) (fun o=>(H.cell (by exact O)).trans (aK hW o)) (nT O H.size)) h1 h2 h3
   go_enter func62,ntmps62
   go_wp2_with fail
   refine HI.mono ?_;rintro e w1 ⟨z,rfl,hz,u⟩;go_wp2
   go_ret;exact ⟨aC hz.o,u⟩
  clear h hm;generalize dR E n l l.length=ft at *
  go_enter func19,ntmps19
  go_wp2_with fail
  refine (vM _ (J.below (G _))).mono ?_;rintro e w1 ⟨rfl,u⟩;rw [hst];have Z:=u.mono (B':=w.heap.size+1) (by simp);have N:=(G _).trans (u.mono (by simp))
  go_wp2_with fail
  refine (ab.o _ Z).mono ?_;rintro e w2 ⟨rfl,Y⟩;go_wp2
  go_ret;exact ⟨by first|exact aC (by rw [U.o];simp)|simp [U.o],N.trans (Y.mono N.size)⟩
theorem Tryz.laidM:laidOutB prog=true:=by kernel_rfl
theorem GA:(63:TypeId)<prog.types.size:=of_decide_eq_true (by kernel_rfl)
theorem QH:(match prog.underlying 63 with|some (.array _ _)|some (.struct _)=>true|_=>false)=true:=by kernel_rfl
theorem uZ:prog.cellsOf 63=2:=by kernel_rfl
theorem KQ:prog.cellsOf 9=1:=by kernel_rfl
theorem OQ:prog.keyType 63=true:=by kernel_rfl
theorem yA:Keyed prog 63:=Keyed.of_law (deep_law_laid Tryz.laidM (m:=2) (by omega) GA (by kernel_rfl) QH)
def mZ (s:aE):Lit:=.string (keyBytes [.string s.ty.data.toList,.string s.key.data.toList])
def EJ (s:aE):Prop:=s.ty.size<=maxLen/\s.key.size<=maxLen
theorem qP {s:ByteArray}(h:s.size<=maxLen):prog.keyLits (m+1) 9 [.string s]=some [.string s.data.toList]:=by
 unfold Program.keyLits;simp only [underlying9];rw [if_pos h]
theorem kK {s:aE}(h:EJ s):keyOf prog 63 (cV s)=some (mZ s):=by
 obtain ⟨m,G⟩:∃ m,prog.types.size=m+1:=⟨prog.types.size - 1,(Nat.sub_add_cancel (Nat.succ_le_of_lt (Nat.lt_of_le_of_lt nz GA))).symm⟩;have u:(cV s).formed prog 63=true:=by simp [Value.formed,underlying63,uZ]
 have H:prog.keyLits (prog.types.size+1) 63 (cV s).cells.toList=some [.string s.ty.data.toList,.string s.key.data.toList]:=by
  rw [G];have e:(cV s).cells.toList=[.string s.ty,.string s.key]:=rfl;rw [e];unfold Program.keyLits;simp only [underlying63];rw [if_pos ⟨by rw [uZ];rfl,by first|decide|kernel_rfl⟩];simp only [KQ,List.mapM_cons,List.mapM_nil,List.drop_zero,List.drop_succ_cons,List.take_succ_cons,List.take_zero];rw [qP h.1,qP h.2];rfl
 unfold keyOf;rw [underlying63];simp only [];rw [OQ,u,H];rfl
theorem KZ (s:aE):WideAt.IsKeyLit (mZ s):=trivial
theorem uU {s t:aE}(I:EJ s)(J:EJ t):mZ s=mZ t↔s.ty=t.ty/\s.key=t.key:=by
 constructor
 ·intro h
  have G:=kK I;rw [h] at G
  have:=yA.inj G (kK J);injection this with this
  have e:=Array.mk.inj this;injection e with H u
  injection u with u _
  injection H with H
  injection u with u
  exact ⟨H,u⟩
 rintro ⟨G,N⟩;unfold mZ;rw [G,N]
variable {v:Value}{F:aE->Value}
def VN:Value->Option (DataW Unit × List MemPlace)
 | .pointer none=>some (.agg [],[])
 | .pointer (some ⟨b,o,none⟩)=>some (.agg [.lit (.int .i64 (b:Int)),.lit (.int .i64 (o:Int))],[])
 | _=>none
theorem SX {I:Value}{d:DataW Unit}{p J:List MemPlace}(h:VN v=some (d,p))(u:VN I=some (d,J)):v=I:=by
 unfold VN at h u;split at h
 ·injection h with h
  injection h with h _
  subst h;split at u
  ·rfl
  ·injection u with u
   injection u with u _
   injection u with u
   cases u
  cases u
 ·rename_i b o
  injection h with h
  injection h with h _
  subst h;split at u
  ·injection u with u
   injection u with u _
   injection u with u
   cases u
  ·rename_i b' o'
   injection u with u
   injection u with u _
   injection u with u
   injection u with H G
   injection G with G _
   injection H with H
   injection H with _ H
   injection G with G
   injection G with _ G
   have O:b'=b:=by omega
   have N:o'=o:=by omega
   rw [O,N]
  cases u
 cases h
def fE (w:World)(m n:Nat)(F:aE->Value):Prop:=∃ D:DataW Unit,w.ownsMap prog 63 VN m n D/\∀ s,EJ s->∃ p,VN (F s)=some (D.atKey (mZ s) (.agg []),p)
theorem fE.lt (h:fE w m n F):m<w.heap.size:=by
 obtain ⟨D,h,_⟩:=h;exact h.lt
theorem fE.kept (h:fE w m n F)(hb:w'.heap[m]?=w.heap[m]?):fE w' m n F:=by
 obtain ⟨D,⟨u,clock,G,r⟩,H⟩:=h;exact ⟨D,⟨u,clock,hb.trans G,r⟩,H⟩
theorem fE.below (h:fE w m n F)(hb:Below w.heap.size w w'):fE w' m n F:=h.kept (hb.block m h.lt)
theorem fE.made (w:World):fE (w.alloc (.map #[] 0)) w.heap.size 0 (fun _=>.pointer none) :=
 ⟨.map [],World.ownsMap_made w _ _ _,fun _ _=>⟨[],rfl⟩⟩
def qX (F:aE->Value)(k:aE)(v:Value):aE->Value:=fun s=>if dB k s=true then v else F s
theorem NZ (h:fE w m n F)(Z:n<maxLen){k:aE}(O:EJ k)(b o:Nat) :
  ∃ w',(Instr.mapUpdate 56 (.map (some m)) (cV k) (.pointer (some ⟨b,o,none⟩))).run prog w=.ok () w'/\fE w' m (n+1) (qX F k (.pointer (some ⟨b,o,none⟩)))/\w.grownBy w' (some m):=by
 obtain ⟨D,U,Y⟩:=h;obtain ⟨w',G,u,N⟩:=U.update yA underlying56 Z (kK O) (show VN (.pointer (some ⟨b,o,none⟩))=some (.agg [.lit (.int .i64 (b:Int)),.lit (.int .i64 (o:Int))],[]) from rfl);refine ⟨w',G,⟨_,u,fun s I=>?_⟩,N⟩;unfold qX
 by_cases H:dB k s=true
 ·rw [if_pos H]
  have J:mZ s=mZ k:=((uU O I).2 ((cN _ _).1 H)).symm;exact ⟨[],by rw [J,atKey_put_same U.isMap (KZ k)];rfl⟩
 rw [if_neg H];have J:mZ s≠mZ k:=fun e'=>H ((cN _ _).2 ((uU O I).1 e'.symm))
 obtain ⟨p,hp⟩:=Y s I;exact ⟨p,by rw [atKey_put_other J];exact hp⟩
theorem TN (w:World):(zeroValue 72).run prog w=.ok (.pointer none) w:=by kernel_rfl
theorem lV (h:fE w m n F){k:aE}(G:EJ k) :
  (Instr.lookup 56 (.map (some m)) (cV k) false).run prog w=.ok (F k) w:=by
 obtain ⟨D,H,I⟩:=h;obtain ⟨v,N,u,J⟩:=H.lookup yA underlying56 (TN w) (show VN (.pointer none)=some (.agg [],[]) from rfl) (kK G);obtain ⟨p,hp⟩:=I k G;rw [SX hp J];exact u
end Go.Proofs.YtpfeegcdlikegaaGreat
