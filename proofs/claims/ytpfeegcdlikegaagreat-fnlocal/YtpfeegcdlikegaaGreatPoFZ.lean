import Derived.Test.YtpfeegcdlikegaaGreatRvPZ
set_option maxHeartbeats 16000000
set_option maxRecDepth 100000
namespace Go.Proofs.YtpfeegcdlikegaaGreat
open Go.RowKit Go.Proofs.Tryz
variable {w:World}{b g m n cap base icap:Nat}{S:Nat->ByteArray}{a:Option Addr}{E:Nat->Ev}
def gH (w:World)(P:ByteArray->Prop)(e:Ending)(w':World):Prop:=∃ v l,e=.returned v/\aH w' w.heap.size v l/\pH l/\(∀ s,s ∈ l↔P s)/\Below w.heap.size w w'
theorem zD (l:List ByteArray)(u:Value)(h:u ∈ l.map Value.string):u.oneCell'=true:=by
 obtain ⟨x,_,rfl⟩:=List.mem_map.1 h;rfl
theorem aH.src {l:List ByteArray}(h:aH w base (.slice (some ⟨g,0,none⟩) n cap) l)(I:n=l.length)(j:Nat)(u:Value)(H:(l.map Value.string)[j]?=some u):w.cell? ((⟨g,0,none⟩:Addr).add j)=some u:=by
 have G:j<l.length:=by
  have:=(List.getElem?_eq_some_iff.1 H).1;simpa using this
 rw [Addr.add_lit,Nat.zero_add,h.cell I G,<- H,List.getElem?_map,iR G];rfl
def kY (S:Nat->ByteArray)(m:Nat):List ByteArray:=(List.range m).map S
theorem mQ (S:Nat->ByteArray)(m:Nat):(kY S m).length=m:=by simp [kY]
theorem GJ {s:ByteArray}:s ∈ kY S m↔∃ i,i<m/\S i=s:=by
 unfold kY;simp [List.mem_map,List.mem_range]
theorem TQ {o:Nat}(I:∀ i,i<m->w.cell? ⟨b,o+i,none⟩=some (.string (S i)))(j:Nat)(u:Value)(H:((kY S m).map Value.string)[j]?=some u):w.cell? ((⟨b,o,none⟩:Addr).add j)=some u:=by
 have G:j<m:=by
  have:=(List.getElem?_eq_some_iff.1 H).1;simpa [kY] using this
 rw [Addr.add_lit,I j G,<- H];simp [kY,G]
theorem GH (W:World)(base:Nat)(v:Value)(l news:List ByteArray)(sv:Value)(n:Nat)(ty:TypeId)(hn:news.length=n)(H:aH W base v l)(hb:base<=W.heap.size)(ao:l.length+n<=1000000)
  (hv:(∃ g cap,v=.slice (some ⟨g,0,none⟩) l.length cap) ) (hs:(n=0/\sv=.slice none 0 0)\/∃ b o c,sv=.slice (some ⟨b,o,none⟩) n c/\∀ j u,(news.map Value.string)[j]?=some u->W.cell? ((⟨b,o,none⟩:Addr).add j)=some u) :
  ∃ J G w',(Builtin.append_ #[27,27] ty #[v,sv]).run prog W=.ok (.slice (some ⟨J,0,none⟩) (l.length+n) G) w'/\aH w' base (.slice (some ⟨J,0,none⟩) (l.length+n) G) (l ++ news)/\W.grownBy w' v.ownBlock:=by
 obtain ⟨i0,hi,ad,O,ae⟩:=info_parts Tryz.infoString;obtain ⟨g,cap,rfl⟩:=hv
 have ab:∀ J G w',aH w' base (.slice (some ⟨J,0,none⟩) (l.length+n) G) (l ++ news)↔w'.ownsRow base 9 1 (.slice (some ⟨J,0,none⟩) (l.length+n) G) (l.length+n) (l.map Value.string ++ news.map Value.string):=fun J G w'=>by
  unfold aH;rw [List.length_append,hn,List.map_append]
 rcases hs with ⟨h0,rfl⟩|⟨b,o,c,rfl,Y⟩
 ·subst h0
  have I:news=[]:=List.length_eq_zero_iff.1 hn;subst I
  have ak:l.length<=cap:=by
   rcases H.shape with ⟨h1,_⟩|⟨_,_,h1,_,_,Z,_⟩
   ·cases h1
   injection h1 with _ _ h3;omega
  have N:=run_append_room_src (P:=prog) (w:=W) 27 27 ty 9 i0 underlying27 hi g 0 l.length cap (.slice none 0 0) 0 [] (Src.ofNil _ underlying27 0) ak (fun j U=>absurd U (Nat.not_lt_zero _)) (fun j U=>absurd U (Nat.not_lt_zero _));simp only [World.setCells,Nat.add_zero] at N;refine ⟨g,cap,W,by simpa using N,?_,⟨rfl,rfl,rfl,nL,fun _ _ _=>rfl⟩⟩;rw [List.append_nil,Nat.add_zero];exact H
 rcases Nat.eq_zero_or_pos n with h0|af
 ·subst h0
  have I:news=[]:=List.length_eq_zero_iff.1 hn;subst I;obtain ⟨v',w',hr,Z,h3,h4⟩:=run_append_own (P:=prog) W base 27 ty 9 i0 (.string ByteArray.empty) 1 16 underlying27 hi ad O ae rfl (by decide) _ _ _ H ⟨b,o,none⟩ 0 c [] rfl (fun j u U=>by cases U) (fun u hu=>by cases hu) (by unfold maxLen;omega) (by omega) hb;rcases Z.2 with ⟨e,_⟩|⟨J,G,ap,e,_⟩
  ·exact absurd (h4.1 e).1 (by simp)
  subst e;exact ⟨J,G,w',hr,(ab _ _ _).2 Z,h3⟩
 obtain ⟨J,G,w',hr,Z,h3,_,_⟩:=run_append_lies (P:=prog) W 27 ty base 9 i0 (.string ByteArray.empty) 1 16 underlying27 hi ad O ae rfl (by decide) _ _ _ H ⟨b,o,none⟩ n c (news.map Value.string) (by simp [hn]) Y (zD news) af (by unfold maxLen;omega) (by omega) hb _ rfl;exact ⟨J,G,w',hr,(ab _ _ _).2 Z,h3⟩
theorem AG {ib io:Nat}(w:World)(G:aF E n=true)(h:dW w a n cap E)(Y:dE w (some ⟨ib,io,none⟩) m icap S)(hm:m<=300)(aq:∀ i,i<m->0<=aL E n (S i)) :
  Calls prog 167 #[.agg #[.slice a n cap],.slice (some ⟨ib,io,none⟩) m icap] w (gH w (fun s=>(∃ i,i<m/\S i=s)\/Chn E n S m s)):=by
 have bg:=dJ G;obtain ⟨H,af⟩:∃ H,H=w.alloc (.cells #[.slice a n cap] 25):=⟨_,rfl⟩;have N:Below w.heap.size w H:=by rw [af];exact bA
 have ch:H.heap.size=w.heap.size+1:=by rw [af];simp
 obtain ⟨wc,ah⟩:∃ wc,wc=H.alloc (.cells #[] 9):=⟨_,rfl⟩;have Z:Below H.heap.size H wc:=by rw [ah];exact bA
 have an:=N.trans (Z.mono N.size);have b6:He (∀ W,Below H.heap.size H W->W.cell? ⟨w.heap.size,0,none⟩=some (.slice a n cap)):=fun W hW=>(hW.cell (by show w.heap.size<H.heap.size;omega)).trans (by rw [af];exact kA rfl)
 have ab:aH wc H.heap.size (.slice (some ⟨H.heap.size,0,none⟩) 0 0) []:=by rw [ah];exact aH.new H _ nL
 have bn:=Y.below an
 have ai:∀ j u,((kY S m).map Value.string)[j]?=some u->wc.cell? ((⟨ib,io,none⟩:Addr).add j)=some u:=fun j u hj=>by
  rcases bn.cells with h0|⟨bi,oi,e,_,b0⟩
  ·subst h0;simp [kY] at hj
  injection e with e
  injection e with e1 e2
  subst e1 e2;exact TQ b0 j u hj
 have br:He (∀ ty,∃ g' J w',(Builtin.append_ #[27,27] ty #[.slice (some ⟨w.heap.size+1,0,none⟩) 0 0,.slice (some ⟨ib,io,none⟩) m icap]).run prog ((w.alloc (.cells #[.slice a n cap] 25)).alloc (.cells #[] 9))=.ok (.slice (some ⟨g',0,none⟩) m J) w'/\aH w' H.heap.size (.slice (some ⟨g',0,none⟩) m J) (kY S m)/\Below H.heap.size H w'):=fun ty=>by
  obtain ⟨g',J,w',h1,h2,h3⟩:=GH wc H.heap.size (.slice (some ⟨H.heap.size,0,none⟩) 0 0) [] (kY S m) (.slice (some ⟨ib,io,none⟩) m icap) m ty (mQ S m) ab Z.size (by simp;omega) ⟨_,_,rfl⟩ (Or.inr ⟨ib,io,icap,rfl,ai⟩);simp only [List.length_nil,Nat.zero_add,List.nil_append] at h1 h2
  refine ⟨g',J,w',?_,h2,Z.grown h3 Z.size (fun k hk=>by
   have:some H.heap.size=some k:=hk;injection this with this
   omega)⟩
  rw [<- af,<- ah,<- ch];exact h1
 have bq:He (∀ W,Below w.heap.size w W->Calls prog 176 #[.agg #[.slice a n cap],.slice (some ⟨ib,io,none⟩) m icap] W (MT W E n S m)):=fun W hW=>CQ W G (h.below hW) (Y.below hW) (by omega) aq
 have bh:He (∀ s,(∃ i,i<m/\S i=s)\/Chn E n S m s->s.size<=maxLen):=fun s hs=>by
  have key:∀ j,j<n->(E j).id.size<=maxLen:=fun j hj=>by
   rcases h.cells with h0|⟨_,_,_,_,hc⟩
   ·omega
   obtain ⟨_,_,_,_,_,_,_,cd⟩:=hc j hj;exact cd.hid
  rcases hs with ⟨i,hi,rfl⟩|hs
  ·obtain ⟨j,hj,_,e⟩:=dU E (S i) n (aq i hi)
   rw [<- bC e];exact key j hj
  obtain ⟨j,hj,rfl⟩:=sM G hs;exact key j hj
 have ao:He (∀ l,pH l->(∀ s,s ∈ l↔Chn E n S m s)->l.length<=300):=fun l h1 h2 =>
  nZ (gO G h1.nodup (fun s hs=>sM G ((h2 s).1 hs))) bg
 have aj:He (∀ (w3:World) (v3:Value) (I:List ByteArray),Below w.heap.size w w3->aH w3 w.heap.size v3 (kY S m ++ I)->I.length<=300->(∀ s,s ∈ I↔Chn E n S m s)->∀ a3 c3,v3=.slice a3 (m+I.length) c3->Calls prog 132 #[.slice a3 (m+I.length) c3] w3 (gH w (fun s=>(∃ i,i<m/\S i=s)\/Chn E n S m s))):=fun w3 v3 I ad ho h1 h3 a3 c3 e3=>by
  have O:∀ s,s ∈ kY S m ++ I↔(∃ i,i<m/\S i=s)\/Chn E n S m s:=fun s=>by rw [List.mem_append,GJ,h3]
  obtain ⟨a4,c4,e4,bo,_⟩:=ho.sl (fun s hs=>bh.o s ((O s).1 hs));have a5:(kY S m ++ I).length=m+I.length:=by rw [List.length_append,mQ]
  rw [a5] at e4 bo;rw [e4] at e3;injection e3 with b4 _ bx
  subst b4 bx;refine (lP w3 (by omega) bo).mono ?_;rintro x w4 ⟨v,l,rfl,b2,ci,b9,cb⟩;refine ⟨v,l,rfl,b2.mono ad.size,ci,fun s=>?_,ad.trans (cb.mono ad.size)⟩;refine ((b9 s).trans ?_).trans (O s);constructor
  ·rintro ⟨i,hi,e⟩
   rw [<- e];exact bO (by rw [a5];exact hi)
  intro hs;obtain ⟨i,hi,e⟩:=dO hs;exact ⟨i,by rw [<- a5];exact hi,e⟩
 obtain ⟨g1,bj,w1,ak,bb,au⟩:=br.o 27;have c1:=b6.o _ au;have a8:=N.trans (au.mono N.size);have b7:He (H.heap.size<=w1.heap.size):=au.size;clear br ai bn ab an Z ah G h Y aq
 go_enter func167,ntmps167
 go_wp2_with (at_builtin;refine bS rfl _ _ 27 rfl _ _ _ _ ak rfl rfl ?_;clear ak)
 refine (bq.o _ a8).mono ?_;rintro x w2 ⟨v2,I,rfl,aw,bm,ax,a6⟩;have cc:=ao.o I bm ax;have bp:=a8.trans (a6.mono a8.size);have am:=bb.below a6;have bz:He (∀ s,s ∈ I↔Chn E n S m s):=ax
 obtain ⟨a2,c2,ck,bf⟩:∃ a2 c2,v2=.slice a2 I.length c2/\((I.length=0/\v2=.slice none 0 0)\/∃ b o c,v2=.slice (some ⟨b,o,none⟩) I.length c/\∀ j u,(I.map Value.string)[j]?=some u->w2.cell? ((⟨b,o,none⟩:Addr).add j)=some u):=by
  rcases aw.shape with ⟨rfl,rfl⟩|⟨g2,cj,rfl,_,_,_,_⟩
  ·exact ⟨none,0,rfl,Or.inl ⟨rfl,rfl⟩⟩
  exact ⟨_,_,rfl,Or.inr ⟨g2,0,cj,rfl,fun j u hj=>aw.src rfl j u hj⟩⟩
 subst ck;obtain ⟨g3,cf,w3,U,ap,bt⟩:=GH w2 H.heap.size (.slice (some ⟨g1,0,none⟩) m bj) (kY S m) I (.slice a2 I.length c2) I.length 27 rfl am (by have:=b7.o;have:=a6.size;omega) (by rw [mQ];omega) ⟨g1,bj,by rw [mQ]⟩ bf;rw [mQ] at U ap
 have ad:Below w.heap.size w w3:=bp.grown bt bp.size (fun q hq=>by
  have:=(World.ownsRow.lt bb q hq).1
  have:=N.size;omega)
 have ay:He (Calls prog 132 #[.slice (some ⟨g3,0,none⟩) (m+I.length) cf] w3 (gH w (fun s=>(∃ i,i<m/\S i=s)\/Chn E n S m s))):=aj.o w3 _ I ad (ap.mono (by omega)) cc bz.o _ _ rfl;clear aj ax bm aw bf ap bt am bb bq ao bh
 go_wp2_with (at_builtin;refine bS rfl _ _ 27 rfl _ _ _ _ U rfl rfl ?_;clear U)
 refine ay.o.mono ?_;rintro x w4 ⟨v4,l4,rfl,q1,q2,q3,q4⟩;have HP:He (gH w (fun s=>(∃ i,i<m/\S i=s)\/Chn E n S m s) (.returned v4) w4):=⟨v4,l4,rfl,q1,q2,q3,q4⟩;clear q1 q2 q3 q4;go_wp2
 go_ret;exact HP.o
variable {k p:Nat}{l s:List aE}
theorem BG (l:List aE)(ty key:ByteArray):aQ l ty key=⟨#[]⟩\/∃ x ∈ l,x.ty=ty/\x.key=key/\aQ l ty key=x.id:=by
 rw [jR l ⟨ty,key,⟨#[]⟩⟩];unfold BY
 cases hl:bZ l ⟨ty,key,⟨#[]⟩⟩ with
 | none=>exact Or.inl rfl
 | some y =>
  obtain ⟨G,H,u⟩:=fA hl;exact Or.inr ⟨y,G,H,u,rfl⟩
theorem VS {P:Ev->Bool}(h:aF E n=true)(hp:p<n):yM E n P (E p)=⟨#[]⟩\/∃ q,q<n/\yM E n P (E p)=(E q).id/\P (E q)=true:=by
 unfold yM;rcases xP (P:=P) h hp with u|⟨q,hq,e,G⟩
 ·rw [u,if_neg (by decide)];exact Or.inl rfl
 rw [e,if_pos (by omega),Int.toNat_natCast];exact Or.inr ⟨q,by omega,rfl,G⟩
theorem EX:(⟨#[]⟩:ByteArray).toList.isEmpty=true:=by rw [ByteArray.toList_eq];rfl
theorem AV {E:Nat->Ev}{n p:Nat}{s:List aE}(hr:aF E n=true)(h:bB E n s)(hp:p<n):∀ k,bB E n (jE E n s (E p) k)
 | 0=>bB.nil E n
 | k+1=>by
  unfold jE;refine (AV hr h hp k).set fun u=>?_
  generalize aI (cD (E p)) k=x at u ⊢;dsimp only at u ⊢;split
  ·rename_i hc
   rw [if_pos hc] at u;rcases VS (P:=uN x.ty x.key) hr hp with H|⟨q,hq,e,G⟩
   ·rw [H,EX] at u;cases u
   unfold uN at G;simp only [Bool.and_eq_true] at G
   have:=mG hr hq G.1.1;rw [e,<- bC G.1.2,<- bC G.2];exact this
  rename_i hc;rcases BG s x.ty x.key with H|⟨y,I,O,J,N⟩
  ·rw [H,EX] at hc;exact absurd rfl hc
  rw [N,<- O,<- J];exact h.fit y I
theorem UD (e:Ev):(cD e).length<=5:=by
 unfold cD jF uq
 repeat' split
 all_goals simp
theorem bB.ok (h:bB E n l)(hz:∀ i,i<n->(E i).ty.size<=maxLen/\(E i).key.size<=maxLen/\(E i).id.size<=maxLen):bK l:=fun x H=>by
 obtain ⟨p,hp,_,_,u,I,G⟩:=dA (h.fit x H);rw [<- u,<- I,<- G];exact hz p hp
theorem zR (S:Nat->ByteArray)(k:Nat):kY S (k+1)=kY S k ++ [S k]:=by simp [kY,List.range_succ]
theorem XM {y:Nat}(G:aL E n (S k)=(y:Int))(h:(E y).st=false\/lJ (iZ E n (jB E n (eA E n s (kY S k)) (E y))) (E y)≠0):eA E n s (kY S (k+1))=eA E n s (kY S k):=by
 rw [zR,qH,G,Int.toNat_natCast];unfold MM;rw [if_neg];rintro ⟨u,H⟩;rcases h with h|h
 ·rw [h] at u;cases u
 exact h H
theorem TX {y:Nat}(G:aL E n (S k)=(y:Int))(u:(E y).st=true)(H:lJ (iZ E n (jB E n (eA E n s (kY S k)) (E y))) (E y)=0):eA E n s (kY S (k+1))=dG (eA E n s (kY S k)) ⟨(E y).ty,(E y).key,(E y).id⟩ false:=by
 rw [zR,qH,G,Int.toNat_natCast];unfold MM;rw [if_pos ⟨u,H⟩]
variable {B sc:Nat}{w':World}{sa:Option Addr}
theorem rV (h:Below B w w')(n:Nat):Below B w (w'.drewN n):=h.trans ⟨rfl,rfl,rfl,nL,fun _ _=>rfl⟩
theorem OM (ra:Option Addr)(n cap:Nat)(E:Nat->Ev)(sa:Option Addr)(sc:Nat)(w:World) :
  Calls prog 15 #[.agg #[.slice ra n cap],.slice sa 0 sc] w fun e w'=>e=.returned (.bool (dY E n []))/\Below w.heap.size w w':=by
 go_enter func15,ntmps15
 go_wp2_with fail
 refine wp_loop_rounds 1 ?_;rw [rounds_succ]
 go_wp2_with fail
 refine (qS sa sc _).mono ?_;rintro e w1 ⟨rfl,u⟩;go_wp2
 go_ret;exact ⟨by first|rfl|(congr 2),by first|(rw [u];exact bA)|(subst u;exact bA)⟩
theorem TT (B O:Nat)(w:World)(h:dW w a n cap E)(hs:dF w (some ⟨B,O,none⟩) sc l)(hB:B<w.heap.size)
  (d1:∀ i,i<l.length->w.cell? ⟨B,O+i * 3,none⟩=some (.string (aI l i).ty)) (d2:∀ i,i<l.length->w.cell? ⟨B,O+i * 3+1,none⟩=some (.string (aI l i).key)) (d3:∀ i,i<l.length->w.cell? ⟨B,O+i * 3+2,none⟩=some (.string (aI l i).id)) :
  Calls prog 15 #[.agg #[.slice a n cap],.slice (some ⟨B,O,none⟩) l.length sc] w fun e w'=>e=.returned (.bool (dY E n l))/\Below w.heap.size w w':=by
 have bh:=nZ hs.le hs.max;have bi:=nZ h.le h.max;unfold maxLen at bh bi;obtain ⟨wb,U⟩:∃ wb,wb=w.alloc (.cells #[.slice a n cap] 25):=⟨_,rfl⟩;have a8:Below w.heap.size w wb:=by rw [U];exact bA
 have cj:wb.heap.size=w.heap.size+1:=by rw [U];simp
 have ax:He (∀ wx,Below (w.heap.size+1) wb wx->wx.cell? ⟨w.heap.size,0,none⟩=some (.slice a n cap)):=fun wx hx=>by subst U;exact aK hx 0
 have H1:He (_):=d1;have H2:He (_):=d2;have H3:He (_):=d3;clear d1 d2 d3
 go_enter func15,ntmps15
 go_wp2_with fail
 rw [<- U];clear U
 go_loopw [5] (fun i wr=>∃ k:Nat,k<=l.length/\i=.int .i64 k/\He (dR E n l k=true)/\Below (w.heap.size+1) wb wr) (fun i _=>l.length - (intOf i).toNat)
 case atStart=>exact ⟨0,nz,rfl,rfl,kB⟩
 case round =>
  obtain ⟨k,hk,rfl,af,ah⟩:=hrel;have H:=a8.trans (ah.mono (by omega));have bm:w.heap.size+1<=wr.heap.size:=by have:=ah.size;omega
  by_cases ak:k<l.length
  ·have c0:=ax.o _ ah
   have a1:wr.cell? ⟨B,O+k * 3,none⟩=some (.string (aI l k).ty):=(H.cell (by exact hB)).trans (H1.o k ak);have a2:wr.cell? ⟨B,O+k * 3+1,none⟩=some (.string (aI l k).key):=(H.cell (by exact hB)).trans (H2.o k ak);have a3:wr.cell? ⟨B,O+k * 3+2,none⟩=some (.string (aI l k).id):=(H.cell (by exact hB)).trans (H3.o k ak);have ap:He (dR E n l (k+1)=(dR E n l k && gB E n (aI l k))):=rfl;generalize aI l k=x at *;have bg:w.heap.size<wr.heap.size:=by omega
   have aq:B<wr.heap.size:=nT hB H.size;have bj:Below wr.heap.size wr wr:=kB;have HA:He (∀ W,Below wr.heap.size wr W->Calls prog 44 #[.agg #[.slice a n cap],.string x.id] W fun e w'=>e=.returned (.int .i64 (aL E n x.id))/\Below wr.heap.size wr w'):=fun W hW=>(iJ x.id W ((h.below H).below hW)).mono fun e w' ⟨h1,h2⟩=>⟨h1,by rw [h2];exact hW.alloc hW.size _⟩
   have ck:(0:Int)<=(k:Int):=by omega
   have cl:(k:Int)<(l.length:Int):=by omega
   have bo:=cJ E x.id n;have ae:He (gB E n x=(decide (0<=aL E n x.id) && ((E (aL E n x.id).toNat).st && (((E (aL E n x.id).toNat).ty.toList == x.ty.toList) && ((E (aL E n x.id).toNat).key.toList == x.key.toList))))):=rfl;obtain ⟨p,hp⟩:∃ p,p=aL E n x.id:=⟨_,rfl⟩;rw [<- hp] at bo;have Hp:He (p=aL E n x.id):=hp;unfold He at ae;rw [<- hp] at ae;have Y:He (_=_):=ae;clear ae
   go_wp2_with fail
   go_cut [6] (fun v wx=>v=.int .i64 p/\Below wr.heap.size wr wx)
   case first =>
    go_region_held3 (fun W=>W.cell? ⟨w.heap.size,0,none⟩=some (.slice a n cap)/\W.cell? ⟨B,O+k * 3+2,none⟩=some (.string x.id))
     (first|(with_reducible exact ⟨c0,a3⟩)|go_keep)
     ((go_at_call 44;refine (HA.o _ (by with_reducible (repeat refine .drew ?_);exact bj)).mono ?_;rintro e w5 ⟨rfl,G⟩;have b9:=(G.cell (by exact bg)).trans c0;have ao:=(G.cell (by exact aq)).trans a3))
    all_goals (try go_wp2_with fail)
    all_goals go_meet
    all_goals (rw [Hp.o];exact ⟨rfl,by first|exact G|exact G.drew|exact G.drew.drew⟩)
   case rest =>
    obtain ⟨rfl,G⟩:=hcut;obtain ⟨w5,bk⟩:∃ w5:World,w5=wc:=⟨_,rfl⟩;subst bk;have ag:=ah.trans (G.mono bm);have J:=a8.trans (ag.mono (by omega));have k0:=ax.o _ ag;have k1:=(G.cell (by exact aq)).trans a1;have k2:=(G.cell (by exact aq)).trans a2
    have N:He (gB E n x=false->Ending.returned (.bool false)=.returned (.bool (dY E n l))):=fun hf=>by
     have:dR E n l (k+1)=false:=by rw [ap.o,hf,Bool.and_false]
     unfold dY;rw [rO E n l l.length k ak this];rfl
    have ab:He (gB E n x=true->dR E n l (k+1)=true):=fun hf=>by rw [ap.o,af.o,hf];rfl
    clear a1 a2 a3 c0 HA af ap Hp hp;obtain ⟨bq,ay⟩:∃ bq,bq=!gB E n x:=⟨_,rfl⟩;have u:He (bq=!gB E n x):=ay;clear ay
    go_wp2_with fail
    go_cut [58] (fun v wx=>v=.bool bq/\Below w5.heap.size w5 wx)
    case first =>
     have Z:Below w5.heap.size w5 w5:=kB
     by_cases aw:p<0
     ·have hv:He (Value.bool true=.bool bq):=by unfold He;rw [u.o,Y.o,decide_eq_false (by omega)];rfl
      have bv:decide (p<0)=true:=decide_eq_true aw;clear Y N ab u
      go_quiet (fail)
      all_goals (try go_wp2_with fail)
      all_goals go_meet
      all_goals exact ⟨hv.o,rV Z _⟩
     obtain ⟨q,rfl⟩:∃ q:Nat,p=(q:Int):=⟨p.toNat,by omega⟩;have bt:q<n:=by omega
     have bb:(0:Int)<=(q:Int):=by omega
     have b7:(q:Int)<(n:Int):=by omega
     have bv:decide ((q:Int)<0)=false:=decide_eq_false (by omega);have an:=Y.o;rw [Int.toNat_natCast,decide_eq_true bb,Bool.true_and] at an;have I:He (_=_):=an;clear an Y;rcases (h.below J).cells with h0|⟨b,off,rfl,hb,hc⟩
     ·omega
     obtain ⟨_,_,_,_,_,_,ai,_⟩:=hc q bt;have e2:=ai.c2;have e3:=ai.c3;have e4:=ai.c4;clear hc ai N ab h hs;generalize (E q).st=st at *;generalize (E q).ty=ty at *;generalize (E q).key=key at *;cases st
     case false =>
      have hv:He (Value.bool true=.bool bq):=by unfold He;rw [u.o,I.o];rfl
      clear I u
      go_quiet (fail)
      all_goals (try go_wp2_with fail)
      all_goals go_meet
      all_goals exact ⟨hv.o,rV Z _⟩
     case true =>
      cases ht1:(ty.toList == x.ty.toList)
      case false =>
       have hv:He (Value.bool true=.bool bq):=by unfold He;rw [u.o,I.o,ht1];rfl
       clear I u
       go_quiet (fail)
       all_goals (try go_wp2_with fail)
       all_goals go_meet
       all_goals exact ⟨hv.o,rV Z _⟩
      case true =>
       cases ao:(key.toList == x.key.toList)
       case false =>
        have hv:He (Value.bool true=.bool bq):=by unfold He;rw [u.o,I.o,ht1,ao];rfl
        clear I u
        go_quiet (fail)
        all_goals (try go_wp2_with fail)
        all_goals go_meet
        all_goals exact ⟨hv.o,rV Z _⟩
       case true =>
        have hv:He (Value.bool false=.bool bq):=by unfold He;rw [u.o,I.o,ht1,ao];rfl
        clear I u
        go_quiet (fail)
        all_goals (try go_wp2_with fail)
        all_goals go_meet
        all_goals exact ⟨hv.o,rV Z _⟩
    case rest =>
     obtain ⟨rfl,a4⟩:=hcut;obtain ⟨w6,bf⟩:∃ w6:World,w6=wc:=⟨_,rfl⟩;subst bf;have a5:=ag.trans (a4.mono (by have:=ag.size;omega));have a6:=J.trans (a4.mono J.size);clear Y;cases bq
     case false =>
      have Ht:He (dR E n l (k+1)=true):=ab.o (by have:=u.o;simpa using this.symm);clear N ab u;go_wp2
      go_roundw
      case rel=>first|exact ⟨k+1,by omega,by go_num,Ht,a5⟩|((repeat apply Exists.intro);exact ⟨⟨k+1,by omega,by go_num,Ht,a5⟩,rfl⟩)
      simp [intOf];omega
     case true =>
      have HN:He (_=_):=N.o (by have:=u.o;simpa using this.symm);clear N ab u;go_wp2
      go_ret;exact ⟨HN.o,a6⟩
  have bn:k=l.length:=by omega
  subst bn;have Hv:He (dY E n l=qV l):=by unfold He dY;rw [af.o];rfl
  clear af
  go_wp2_with fail
  refine (pN _ (hs.below H)).mono ?_;rintro e w1 ⟨rfl,bu⟩;go_wp2
  go_ret;exact ⟨aC Hv.o.symm,H.trans (bu.mono H.size)⟩
theorem wP (w:World)(h:dW w a n cap E)(u:dF w sa sc l) :
  Calls prog 15 #[.agg #[.slice a n cap],.slice sa l.length sc] w fun e w'=>e=.returned (.bool (dY E n l))/\Below w.heap.size w w':=by
 rcases u.cells with rfl|⟨B,O,rfl,hB,G,H,d3⟩
 ·exact OM a n cap E sa sc w
 exact TT B O w h u hB G H d3
abbrev II:Value:=.agg #[.string ⟨#[]⟩,.string ⟨#[]⟩,.string ⟨#[]⟩,.bool false,.string ⟨#[]⟩,.int .i64 0,.slice none 0 0,.slice none 0 0,.string ⟨#[]⟩,.slice none 0 0]
def sH (w:World)(E:Nat->Ev)(p:Int)(x:Ending)(w':World):Prop:=Below w.heap.size w w' /\
 ((p<0/\x=.returned (.tuple #[II,.bool false]))\/∃ q:Nat,p=(q:Int)/\∃ pa cp aa ca ga cg,x=.returned (.tuple #[(E q).val' pa cp aa ca ga cg,.bool true])/\cI w' (E q) pa cp aa ca ga cg)
theorem DP (kind key:ByteArray)(w:World)(h:dW w a n cap E)(hs:dF w sa sc l) :
  Calls prog 46 #[.agg #[.slice a n cap],.slice sa l.length sc,.string kind,.string key] w (sH w E (eF E n l kind key)):=by
 have ah:=nZ h.le h.max;unfold maxLen at ah;have HF:He (∀ W,EZ w (.slice a n cap) W->Calls prog 25 #[.slice sa l.length sc,.string kind,.string key] W fun e w'=>e=.returned (.string (aQ l kind key))/\EZ w (.slice a n cap) w'):=fun W hW=>(iL kind key W (hs.below hW.bl)).mono fun e w' ⟨h1,h2⟩=>⟨h1,hW.call h2⟩
 have HA:He (∀ W,EZ w (.slice a n cap) W->Calls prog 44 #[.agg #[.slice a n cap],.string (aQ l kind key)] W fun e w'=>e=.returned (.int .i64 (eF E n l kind key))/\EZ w (.slice a n cap) w'):=fun W hW=>by
  refine (iJ (aQ l kind key) W (h.below hW.bl)).mono ?_;rintro e w' ⟨rfl,rfl⟩;exact ⟨rfl,hW.call bA⟩
 have ab:=cJ E (aQ l kind key) n;have am:-1<=eF E n l kind key/\eF E n l kind key<n:=ab;clear ab;generalize eF E n l kind key=p at *;generalize aQ l kind key=f at *
 go_enter func46,ntmps46
 go_wp2_with fail
 obtain ⟨W0,N⟩:∃ W0,W0=(w.alloc (.cells #[.slice a n cap] 25)).alloc (.cells #[.string ⟨#[]⟩,.string ⟨#[]⟩,.string ⟨#[]⟩,.bool false,.string ⟨#[]⟩,.int .i64 0,.slice none 0 0,.slice none 0 0,.string ⟨#[]⟩,.slice none 0 0] 30):=⟨_,rfl⟩;rw [<- N]
 have O:EZ w (.slice a n cap) W0:=by
  subst N;refine ⟨by simp,bA.alloc (by simp) _,by simp,fun o ho=>?_,fun o=>kF (by simp)⟩;rw [kA (by simp)]
  match o,ho with
  | 0,_=>exact ⟨_,rfl⟩
  | 1,_=>exact ⟨_,rfl⟩
  | 2,_=>exact ⟨_,rfl⟩
  | 3,_=>exact ⟨_,rfl⟩
  | 4,_=>exact ⟨_,rfl⟩
  | 5,_=>exact ⟨_,rfl⟩
  | 6,_=>exact ⟨_,rfl⟩
  | 7,_=>exact ⟨_,rfl⟩
  | 8,_=>exact ⟨_,rfl⟩
  | 9,_=>exact ⟨_,rfl⟩
 clear N;have aj:=O.rb
 go_cut [10] (fun v wx=>v=.int .i64 p/\EZ w (.slice a n cap) wx)
 case first =>
  go_region_with (first
   | (go_at_call 25;refine (HF.o _ (by first|exact O|exact O.drew|exact O.drew.drew|exact O.drew.drew.drew)).mono ?_;rintro e w2 ⟨rfl,u⟩;have ae:=u.rb)
   | (go_at_call 44;refine (HA.o _ (by first|exact u|exact u.drew|exact u.drew.drew|exact u.drew.drew.drew)).mono ?_;rintro e w3 ⟨rfl,J⟩))
  all_goals (try go_wp2_with fail)
  all_goals go_meet
  all_goals exact ⟨rfl,by first|exact J|exact J.drew|exact J.drew.drew⟩
 case rest =>
  obtain ⟨rfl,u⟩:=hcut;obtain ⟨w2,ag⟩:∃ w2:World,w2=wc:=⟨_,rfl⟩;subst ag;clear O aj HF HA;have ae:=u.rb;have ff:=u.rf;have G:=u.bl;obtain ⟨x0,y0⟩:=u.rs 0 (by decide);obtain ⟨x1,y1⟩:=u.rs 1 (by decide);obtain ⟨x2,y2⟩:=u.rs 2 (by decide);obtain ⟨x3,y3⟩:=u.rs 3 (by decide);obtain ⟨x4,y4⟩:=u.rs 4 (by decide);obtain ⟨x5,y5⟩:=u.rs 5 (by decide);obtain ⟨x6,y6⟩:=u.rs 6 (by decide);obtain ⟨x7,y7⟩:=u.rs 7 (by decide);obtain ⟨x8,y8⟩:=u.rs 8 (by decide);obtain ⟨x9,y9⟩:=u.rs 9 (by decide)
  by_cases U:p<0
  ·have I:He (∀ w',Below w.heap.size w w'->sH w E p (.returned (.tuple #[II,.bool false])) w'):=fun w' H=>⟨H,Or.inl ⟨U,rfl⟩⟩
   clear u;go_wp2
   refine bodyPost_ret (v:=.tuple #[II,.bool false]) (by simp [results,results46,go_sem,y0,y1,y2,y3,y4,y5,y6,y7,y8,y9]) rfl (I.o _ ?_)
   iterate 10 (refine Below.setCell ?_ (Nat.le_add_right _ 1) _)
   first|exact G|exact G.drew
  obtain ⟨q,rfl⟩:∃ q:Nat,p=(q:Int):=⟨p.toNat,by omega⟩;have ai:q<n:=by omega
  have ba:(0:Int)<=(q:Int):=by omega
  have a6:(q:Int)<(n:Int):=by omega
  rcases h.cells with h0|⟨b,off,rfl,hb,hc⟩
  ·omega
  obtain ⟨pa,cp,aa,ca,ga,cg,Z,Y⟩:=hc q ai;have I:He (∀ w',Below w.heap.size w w'->sH w E (q:Int) (.returned (.tuple #[(E q).val' pa cp aa ca ga cg,.bool true])) w'):=fun w' H=>⟨H,Or.inr ⟨q,rfl,pa,cp,aa,ca,ga,cg,rfl,Y.below H⟩⟩
  obtain ⟨c0,c1,c2,c3,c4,c5,c6,c7,c8,c9⟩:=Z.below G hb;clear hc Y h u Z;generalize E q=ev at *;go_wp2
  refine bodyPost_ret (v:=.tuple #[ev.val' pa cp aa ca ga cg,.bool true]) (by simp [results,results46,go_sem,y0,y1,y2,y3,y4,y5,y6,y7,y8,y9]) rfl (I.o _ ?_)
  iterate 10 (refine Below.setCell ?_ (Nat.le_add_right _ 1) _)
  first|exact G|exact G.drew
theorem QT (u:ByteArray)(w:World)(h:dW w a n cap E)(hs:dF w sa sc l) :
  Calls prog 33 #[.agg #[.slice a n cap],.slice sa l.length sc,.string u] w fun e w'=>e=.returned (.int .i64 (LQ E n l u))/\Below w.heap.size w w':=by
 have ab:∀ o,Below w.heap.size w (w.alloc o):=fun o=>bA
 have HL:He (LQ E n l u=if 0<=eF E n l aX aJ then BX (E (eF E n l aX aJ).toNat) u else if 0<=eF E n l bJ aJ/\((E (eF E n l bJ aJ).toNat).sd.toList == u.toList)=true then 100 else 0):=rfl;have HP:He (∀ W,Below w.heap.size w W->Calls prog 46 #[.agg #[.slice a n cap],.slice sa l.length sc,.string aX,.string aJ] W (sH W E (eF E n l aX aJ))):=fun W Y=>DP aX aJ W (h.below Y) (hs.below Y)
 have HC:He (∀ W,Below w.heap.size w W->Calls prog 46 #[.agg #[.slice a n cap],.slice sa l.length sc,.string bJ,.string aJ] W (sH W E (eF E n l bJ aJ))):=fun W Y=>DP bJ aJ W (h.below Y) (hs.below Y)
 generalize eF E n l aX aJ=pp at *;generalize eF E n l bJ aJ=pc at *;generalize LQ E n l u=v at *;clear h hs
 go_enter func33,ntmps33
 go_wp2_with fail
 refine (HP.o _ (ab _)).mono ?_;rintro e w1 ⟨N,hq⟩;have U:=N.mono (B':=w.heap.size+1) (by simp);have J:=(ab _).trans (N.mono (by simp));have au:=aK U 0;have ai:w.heap.size+1<=w1.heap.size:=by simpa using U.size
 rcases hq with ⟨am,rfl⟩|⟨q,rfl,pa,cp,aa,ca,ga,cg,rfl,H⟩
 ·have O:He (v=if 0<=pc/\((E pc.toNat).sd.toList == u.toList)=true then 100 else 0):=by unfold He;rw [HL.o,if_neg (by omega)]
  have aj:∀ o,Below (w.heap.size+1) (w.alloc (.cells #[.slice a n cap] 25)) (w1.alloc o):=fun o=>U.alloc ai _
  have an:∀ o,(w1.alloc o).cell? ⟨w.heap.size,0,none⟩=some (.slice a n cap):=fun o=>aK (aj o) 0
  have I:∀ o,Below w.heap.size w (w1.alloc o):=fun o=>J.alloc J.size _
  clear HL N
  go_wp2_with fail
  refine (HC.o _ (I _)).mono ?_;rintro e w2 ⟨ag,ah⟩;have G:=(I _).trans (ag.mono (I _).size);rcases ah with ⟨af,rfl⟩|⟨c,rfl,pa,cp,aa,ca,ga,cg,rfl,H⟩
  ·have Z:He (v=0):=by unfold He;rw [O.o,if_neg (by omega)]
   clear O;go_wp2
   go_ret;exact ⟨aA Z.o.symm,G.alloc G.size _⟩
  cases hsd:((E c).sd.toList == u.toList)
  case true =>
   have Z:He (v=100):=by unfold He;rw [O.o,Int.toNat_natCast,if_pos ⟨by omega,hsd⟩]
   clear O H;generalize E c=ev at *;go_wp2
   go_ret;exact ⟨aA Z.o.symm,G.alloc G.size _⟩
  case false =>
   have Z:He (v=0):=by unfold He;rw [O.o,Int.toNat_natCast,if_neg (fun hx=>by rw [hsd] at hx;cases hx.2)]
   clear O H;generalize E c=ev at *;go_wp2
   go_ret;exact ⟨aA Z.o.symm,G.alloc G.size _⟩
 have O:He (v=BX (E q) u):=by unfold He;rw [HL.o,if_pos (by omega),Int.toNat_natCast]
 have I:∀ o,Below w1.heap.size w1 (w1.alloc o):=fun o=>bA
 have HB:He (∀ W,Below w1.heap.size w1 W->Calls prog 74 #[.slice ga (E q).ng cg,.string u] W fun e w'=>e=.returned (.int .i64 (BX (E q) u))/\w'=W):=fun W Y=>IR u W (H.hg.below Y)
 clear HL H N;generalize E q=ev at *
 go_wp2_with fail
 refine (HB.o _ (I _)).mono ?_;rintro e w2 ⟨rfl,rfl⟩;go_wp2
 go_ret;exact ⟨aA O.o.symm,J.alloc J.size _⟩
theorem XC (u:ByteArray)(w:World)(h:dW w a n cap E)(Y:dF w sa sc l) :
  Calls prog 10 #[.agg #[.slice a n cap],.slice sa l.length sc,.string u] w fun e w'=>e=.returned (.int .i64 (sC E n l u))/\Below w.heap.size w w':=by
 have I:∀ o,Below w.heap.size w (w.alloc o):=fun o=>bA
 have HR:He (sC E n l u=if aF E n && dY E n l then LQ E n l u else 0):=rfl;cases hr:aF E n
 case false =>
  have U:He (sC E n l u=0):=by unfold He;rw [HR.o,hr];rfl
  go_enter func10,ntmps10
  go_wp2_with (go_at_call 14;refine (lT _ (h.below (I _))).mono ?_;rintro e w1 ⟨rfl,H⟩;rw [hr])
  go_ret;exact ⟨aA U.o.symm,(I _).trans (H.mono (by simp))⟩
 case true =>
  cases hf:dY E n l
  case false =>
   have U:He (sC E n l u=0):=by unfold He;rw [HR.o,hr,hf];rfl
   go_enter func10,ntmps10
   go_wp2_with (first
    | (go_at_call 14;refine (lT _ (h.below (I _))).mono ?_;rintro e w1 ⟨rfl,H⟩;rw [hr];have J:=H.mono (B':=w.heap.size+1) (by simp);have G:=(I _).trans (H.mono (by simp));have ab:=aK J 0)
    | (go_at_call 15;refine (wP _ (h.below G) (Y.below G)).mono ?_;rintro e w2 ⟨rfl,N⟩;rw [hf]))
   go_ret;exact ⟨aA U.o.symm,G.trans (N.mono G.size)⟩
  case true =>
   have U:He (sC E n l u=LQ E n l u):=by unfold He;rw [HR.o,hr,hf];rfl
   go_enter func10,ntmps10
   go_wp2_with fail
   refine (lT _ (h.below (I _))).mono ?_;rintro e w1 ⟨rfl,H⟩;rw [hr];have J:=H.mono (B':=w.heap.size+1) (by simp);have G:=(I _).trans (H.mono (by simp));have ab:=aK J 0
   go_wp2_with fail
   refine (wP _ (h.below G) (Y.below G)).mono ?_;rintro e w2 ⟨rfl,N⟩;rw [hf];have ad:w.heap.size+1<=w1.heap.size:=by simpa using J.size
   have ae:=J.trans (N.mono ad);have O:=G.trans (N.mono G.size);have ag:=aK ae 0
   go_wp2_with fail
   refine (QT u _ (h.below O) (Y.below O)).mono ?_;rintro e w3 ⟨rfl,Z⟩;go_wp2
   go_ret;exact ⟨aA U.o.symm,O.trans (Z.mono O.size)⟩
end Go.Proofs.YtpfeegcdlikegaaGreat
