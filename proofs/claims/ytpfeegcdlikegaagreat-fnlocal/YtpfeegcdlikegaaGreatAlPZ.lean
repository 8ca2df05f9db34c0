import Derived.Test.YtpfeegcdlikegaaGreatPoNZ
set_option maxHeartbeats 16000000
set_option maxRecDepth 100000
namespace Go.Proofs.YtpfeegcdlikegaaGreat
open Go.RowKit Go.Proofs.Tryz
variable {e:Ev}
abbrev dK:ByteArray:=⟨#[109,101,109,98,101,114]⟩
abbrev lB:ByteArray:=⟨#[106,111,105,110,95,114,117,108,101,115]⟩
abbrev rX:ByteArray:=⟨#[108,101,97,118,101]⟩
abbrev rL:ByteArray:=⟨#[97,99,116]⟩
abbrev sU:ByteArray:=⟨#[115,116,97,116,101]⟩
abbrev jZ:ByteArray:=⟨#[98,97,110]⟩
abbrev tQ:ByteArray:=⟨#[107,105,99,107]⟩
abbrev oI:ByteArray:=⟨#[105,110,118,105,116,101]⟩
abbrev dI:=ByteArray->ByteArray->Option Ev
def iZ (E:Nat->Ev)(n:Nat)(l:List aE):dI:=fun ty key=>if 0<=eF E n l ty key then some (E (eF E n l ty key).toNat) else none
def bG (t:ByteArray):Bool:=t.toList == [106,111,105,110]
def eU (t:ByteArray):Bool:=t.toList == [105,110,118,105,116,101]
def bX (t:ByteArray):Bool:=t.toList == [108,101,97,118,101]
def bH (t:ByteArray):Bool:=t.toList == [98,97,110]
def AU (t:ByteArray):Bool:=t.toList == [112,117,98,108,105,99]
def sP (t:ByteArray):Bool:=t.toList == [107,105,99,107]
def sW (t:ByteArray):Bool:=t.toList == [115,116,97,116,101]
def dL (o:dI)(u:ByteArray):Int:=match o aX aJ with
 | some p=>BX p u
 | none=>match o bJ aJ with
  | some c=>if (c.sd.toList == u.toList)=true then 100 else 0
  | none=>0
def VL (o:dI)(u:ByteArray)(z:Int):Int:=match o aX aJ with
 | some p=>(gV p.M p.L u p.ng).getD z
 | none=>z
def DE (o:dI)(t:ByteArray):Int:=if bH t || sP t || (sW t && (o aX aJ).isSome) then 50 else 0
def gA (o:dI)(t:ByteArray):Int:=VL o (⟨#[42]⟩ ++ t) (DE o t)
def memO (o:dI)(u:ByteArray):ByteArray:=match o dK u with
 | some m=>m.val
 | none=>rX
def rW (o:dI):Bool:=match o lB aJ with
 | some r=>AU r.val
 | none=>false
def oB (o:dI)(u:ByteArray):Bool:=match o bJ aJ with
 | some c=>c.sd.toList == u.toList
 | none=>false
def lD (t:ByteArray):Bool:=bG t || eU t
def LP (o:dI)(e:Ev):Int:=if (e.sd.toList == e.key.toList)=false then 3 else if bH (memO o e.key) then 4 else if lD (memO o e.key) || rW o || (oB o e.sd && (o dK e.key).isNone) then 0 else 5
def LF (o:dI)(e:Ev):Int :=
 if eU e.val then (if bG (memO o e.key) || bH (memO o e.key) then 7 else if dL o e.sd<gA o oI then 8 else 0)
 else if (bH e.val || bH (memO o e.key)) && decide (dL o e.sd<gA o jZ) then 8
 else if bX e.val && decide (dL o e.sd<gA o tQ) then 8
 else if dL o e.sd<=dL o e.key then 9 else 0
def IP (a b:Option Int)(own:Int)(u sd:ByteArray):Bool :=
 if (a.isSome == b.isSome) && decide (a.getD 0=b.getD 0) then true
 else if (a.isSome && decide (own<a.getD 0)) || (b.isSome && decide (own<b.getD 0)) then false
 else !(cU u && !(u.toList == sd.toList) && a.isSome && decide (own<=a.getD 0))
def pJ (p e:Ev)(own:Int)(u:ByteArray):Bool:=IP (gV p.M p.L u p.ng) (gV e.M e.L u e.ng) own u e.sd
def eJ (f:Nat->Bool):Nat->Bool
 | 0=>true
 | k+1=>eJ f k && f k
theorem xU (f:Nat->Bool):∀ m k,k<m->f k=false->eJ f m=false
 | m+1,k,h,h1=>by
  by_cases e:k=m
  ·subst e;rw [eJ,h1,Bool.and_false]
  rw [eJ,xU f m k (by omega) h1];rfl
def jU (p e:Ev)(own:Int):Bool:=eJ (fun i=>pJ p e own (p.M i)) p.ng && eJ (fun i=>pJ p e own (e.M i)) e.ng
def nO (p e:Ev)(i:Nat):ByteArray:=if i<p.ng then p.M i else e.M (i - p.ng)
theorem rK {f g:Nat->Bool}:∀ {m},(∀ i,i<m->f i=g i)->eJ f m=eJ g m
 | 0,_=>rfl
 | m+1,h=>by rw [eJ,eJ,h m (by omega),rK (fun i hi=>h i (by omega))]
theorem NT (p e:Ev)(own:Int):eJ (fun i=>pJ p e own (nO p e i)) (p.ng+e.ng)=jU p e own:=by
 have u:∀ k,eJ (fun i=>pJ p e own (nO p e i)) (p.ng+k)=(eJ (fun i=>pJ p e own (nO p e i)) p.ng && eJ (fun i=>pJ p e own (e.M i)) k):=fun k=>by
  induction k with
  | zero=>simp [eJ]
  | succ k ih =>
   rw [show p.ng+(k+1)=(p.ng+k)+1 by omega,eJ,ih,eJ,Bool.and_assoc]
   congr 3
   unfold nO;rw [if_neg (by omega),show p.ng+k - p.ng=k by omega]
 rw [u];unfold jU
 congr 1
 exact rK fun i hi=>by unfold nO;rw [if_pos hi]
def BV (o:dI)(e:Ev):Int:=VL o (⟨#[35]⟩ ++ e.ty) (gA o (if e.st then sU else rL))
def iD (s:ByteArray):Bool:=if h:0<s.size then decide ((s[0].toNat:Int)=64) else false
theorem gR {s:ByteArray}(h:s.toList.isEmpty=true):iD s=false:=by
 unfold iD;rw [dif_neg];intro H;rw [ByteArray.toList_eq] at h;have u:s.data.toList=[]:=by simpa using h
 have G:s.size=s.data.toList.length:=rfl;rw [u,List.length_nil] at G;omega
theorem aS {s:ByteArray}(h:s.toList.isEmpty=false):0<s.size:=by
 rw [ByteArray.toList_eq] at h;have u:s.size=s.data.toList.length:=rfl;rw [u]
 cases hs:s.data.toList with
 | nil=>rw [hs] at h;cases h
 | cons x l=>simp
def VC (o:dI)(e:Ev):Int :=
 if dL o e.sd<BV o e then 8
 else if iD e.key && !(e.key.toList == e.sd.toList) then 11
 else match o aX aJ with
  | some p=>if aT e && !jU p e (dL o e.sd) then 12 else 0
  | none=>0
def lJ (o:dI)(e:Ev):Int :=
 if dV e then (if (o bJ aJ).isSome then 1 else 0)
 else if (o bJ aJ).isNone then 2
 else if bE e && eZ e then LP o e
 else if bE e && bX e.val && (e.sd.toList == e.key.toList) then (if lD (memO o e.key) then 0 else 10)
 else if bG (memO o e.sd)=false then 6
 else if bE e then LF o e
 else VC o e
def tP (E:Nat->Ev)(n:Nat)(l:List aE)(e:Ev):Int:=if e.code=0/\(aF E n && dY E n l)=true then lJ (iZ E n l) e else 99
theorem xK (E:Nat->Ev)(n:Nat)(l:List aE)(u:ByteArray):dL (iZ E n l) u=LQ E n l u:=by
 unfold dL LQ iZ
 by_cases hp:0<=eF E n l aX aJ
 ·simp only [hp,if_true]
 simp only [hp,if_false]
 by_cases G:0<=eF E n l bJ aJ
 ·simp only [G,if_true,true_and]
 simp only [G,if_false,false_and]
theorem YI (h:e.code=0):e.key.toList.isEmpty=true\/(e.st=true/\cU e.key=true):=by
 unfold Ev.code bF at h;split at h
 ·cases h
 split at h
 ·cases h
 rename_i h2;cases hk:e.key.toList.isEmpty
 ·refine Or.inr ⟨?_,?_⟩
  ·cases hs:e.st
   ·exact absurd ⟨hk,Or.inl hs⟩ h2
   rfl
  cases hs:cU e.key
  ·exact absurd ⟨hk,Or.inr hs⟩ h2
  rfl
 exact Or.inl rfl
theorem UR (h:e.code=0):cU e.sd=true/\cU e.ty=true:=by
 unfold Ev.code bF at h;split at h
 ·cases h
 rename_i h1;simp only [not_or,Bool.not_eq_false] at h1;exact h1.2
theorem XU (h:e.code=0)(H:bE e=true):uO e.val=true:=by
 unfold bE at H;unfold Ev.code bF at h;split at h
 ·cases h
 split at h
 ·cases h
 split at h
 ·cases h
 split at h
 ·cases h
 split at h
 ·cases h
 rename_i h5
 have u:kT e.ty e.key e.val e.st e.np e.na e.ng e.M e.L=true:=by
  cases hq:kT e.ty e.key e.val e.st e.np e.na e.ng e.M e.L
  ·exact absurd hq h5
  rfl
 have G:e.ty.toList=[109,101,109,98,101,114]:=by simpa using H
 unfold kT at u;rw [G] at u;have I:(([109,101,109,98,101,114]:List UInt8) == [99,114,101,97,116,101])=false:=by decide
 rw [I] at u;simp at u
 first|exact u.2|exact u.1.2
variable {j k n cap:Nat}{S:Nat->ByteArray}{a:Option Addr}
def tE (w:World)(S:Nat->ByteArray)(n:Nat)(e:Ending)(w':World):Prop :=
 ∃ v l,e=.returned v/\aH w' w.heap.size v l/\pH l/\(∀ s,s ∈ l↔∃ i,i<n/\S i=s)/\Below w.heap.size w w'
theorem AK {l:List ByteArray}{x:ByteArray}(h:pH l)(J:x ∉ l)(N:j<=l.length)(G:∀ i,j<=i->i<l.length->x.data.toList<(aG l i).data.toList)
  (u:j=0\/∃ q,j=q+1/\¬ x.data.toList<(aG l q).data.toList):pH (bQ l j x):=by
 refine KJ h (fun i hi U=>?_) G;rcases u with O|⟨q,rfl,hq⟩
 ·omega
 have I:(aG l q).data.toList<x.data.toList:=by
  rcases List.le_iff_lt_or_eq.1 (List.not_lt.1 hq) with H|H
  ·exact H
  exact absurd (wT H ▸ bO (by omega)) J
 by_cases e:i=q
 ·subst e;exact I
 exact List.lt_trans (TA h (show i<q by omega) (by omega)) I
theorem sQ {l u:List ByteArray}(h:∀ s,s ∈ l↔∃ i,i<k/\S i=s)(G:∀ s,s ∈ u↔s=S k\/s ∈ l)(s:ByteArray):s ∈ u↔∃ i,i<k+1/\S i=s:=by
 rw [G,h];constructor
 ·rintro (rfl|⟨i,hi,e⟩)
  ·exact ⟨k,by omega,rfl⟩
  exact ⟨i,by omega,e⟩
 rintro ⟨i,hi,e⟩
 by_cases H:i=k
 ·subst H;exact Or.inl e.symm
 exact Or.inr ⟨i,by omega,e⟩
theorem RU (b off n cap:Nat)(S:Nat->ByteArray)(w:World)(hn:n<=1048576)(hb:b<w.heap.size)(hc:∀ i,i<n->w.cell? ⟨b,off+i,none⟩=some (.string (S i))) :
  Calls prog 132 #[.slice (some ⟨b,off,none⟩) n cap] w (tE w S n):=by
 obtain ⟨i0,hi,a8,a2,ba⟩:=info_parts Tryz.infoString
 go_enter func132,ntmps132
 go_wp2
 go_loopw [3,4] (fun v i wr=>∃ (k:Nat) (l:List ByteArray) (g cp m:Nat),k<=n/\i=.int .i64 k/\v=.slice (some ⟨g,0,none⟩) m cp/\He (m=l.length)/\m<=k/\aH wr w.heap.size (.slice (some ⟨g,0,none⟩) m cp) l/\He (pH l)/\He (∀ s,s ∈ l↔∃ i,i<k/\S i=s)/\Below w.heap.size w wr) (fun _ i _=>n - (intOf i).toNat)
 case atStart=>exact ⟨0,[],w.heap.size,0,0,nz,rfl,rfl,rfl,nL,aH.new w _ nL,List.Pairwise.nil,fun s=>by simp,bA⟩
 case round =>
  obtain ⟨k,l,g,cp,m,hk,rfl,rfl,hm,bm,J,ab,Y,H⟩:=hrel
  by_cases bc:k<n
  ·have bn:wr.cell? ⟨b,off+k,none⟩=some (.string (S k)):=(H.cell (by exact hb)).trans (hc k bc)
   have au:∀ i,i<m->wr.cell? ⟨g,0+i,none⟩=some (.string (aG l i)):=fun i hi=>by rw [Nat.zero_add];exact J.cell hm.o (by rw [<- hm.o];exact hi)
   have Hc:He (_):=hc;clear hc
   go_wp2_with fail
   refine (iK g 0 m cp (aG l) (S k) wr (by unfold maxLen;omega) au).mono ?_;rintro e w1 ⟨rfl,a6⟩;subst a6;have U:=jK l (S k) m (by rw [hm.o];exact nL);rw [hm.o,List.take_length,<- hm.o] at U;clear au;cases hh:bD (aG l) m (S k)
   case true =>
    rw [hh] at U;have ag:He (S k ∈ l):=U.1 rfl;clear U;go_wp2
    go_roundw
    case rel=>exact ⟨k+1,l,g,cp,m,by omega,by go_num,rfl,hm.o,by omega,J,ab.o,sQ Y.o (fun s=>⟨Or.inr,fun h=>h.elim (fun e=>e ▸ ag.o) id⟩),H⟩
    simp [intOf];omega
   case false =>
    rw [hh] at U;have ag:He (S k ∉ l):=fun h=>by cases U.2 h
    clear U hh;have an:m+1<=maxLen:=by unfold maxLen;omega
    have ap:(m+1) * 16<=140737488355328:=by omega
    have ai:∀ o,w.heap.size<=(w1.alloc o).heap.size:=fun o=>by have:=H.size;simp;omega
    have ao:He (∀ q,(Value.slice (some ⟨g,0,none⟩) m cp).ownBlock=some q->w.heap.size<=q):=fun q hq=>by have:=World.ownsRow.lt J q hq;exact this.1
    have af:w1.ownsRow w.heap.size 9 1 (.slice (some ⟨g,0,none⟩) m cp) m (l.map Value.string):=by have:=J;unfold aH at this;rw [<- hm.o] at this;exact this
    go_wp2_with (at_builtin;refine wpList_append_lies _ rfl _ _ 27 rfl w.heap.size 9 i0 (.string ByteArray.empty) 1 16 underlying27 hi a8 a2 ba rfl (by decide) _ _ _ rfl (World.ownsRow.alloc af _) ⟨w1.heap.size,0,none⟩ 1 1 [.string (S k)] rfl rfl (aV _ _ _) (bL _) (by decide) an ap (ai _) (w1.heap.size+1) (by simp) ?_;intro gg cq w2 O Z aw bi)
    have ak:aH w2 w.heap.size (.slice (some ⟨gg,0,none⟩) (m+1) cq) (bQ l m (S k)):=by
     rw [hm.o,uS];rw [hm.o] at O;exact aH.snoc O
    have am:=(H.alloc H.size _).grown Z (ai _) ao.o;clear O Z aw af J H an ap ai ao
    go_loopw [5] (fun jv wi=>∃ j:Nat,jv=.int .i64 j/\j<=m/\aH wi w.heap.size (.slice (some ⟨gg,0,none⟩) (m+1) cq) (bQ l j (S k))/\He (∀ i,j<=i->i<l.length->(S k).data.toList<(aG l i).data.toList)/\Below w.heap.size w wi) (fun jv _=>(intOf jv).toNat)
    case atStart=>exact ⟨m,by go_num,nL,ak,fun i h1 h2=>absurd h1 (by rw [hm.o];omega),am⟩
    case round =>
     obtain ⟨j,rfl,hj,G,aj,I⟩:=hrel;have u:m+1=(bQ l j (S k)).length:=by rw [qG (by rw [<- hm.o];exact hj),<- hm.o]
     have ah:m<=l.length:=by rw [hm.o];exact nL
     by_cases h0:0<j
     ·obtain ⟨q,rfl⟩:∃ q,j=q+1:=⟨j - 1,by omega⟩
      have c1:wr.cell? ⟨gg,q+1,none⟩=some (.string (S k)):=by rw [G.cell u (by omega),vW (by omega)]
      have c2:wr.cell? ⟨gg,q,none⟩=some (.string (aG l q)):=by rw [G.cell u (by omega),oX (by omega)]
      have f1:=G.frozen u (q+1);have f2:=G.frozen u q;cases hless:Op.bytesLess (S k).toList (aG l q).toList
      ·have Hs:He (pH (bQ l (q+1) (S k))):=AK ab.o ag.o (by omega) aj.o (Or.inr ⟨q,rfl,by
        rw [ByteArray.toList_eq,ByteArray.toList_eq,bytesLess_eq] at hless;simpa using hless⟩)
       have HL:He (_):=u;clear u ah
       go_wp2_with fail
       go_region
       all_goals go_wp2
       all_goals refine ⟨⟨k+1,bQ l (q+1) (S k),gg,cq,m+1,by omega,by go_num,rfl,HL.o,by omega,G.kept (fun _ _ _=>rfl),Hs.o,sQ Y.o (fun s=>iQ),by first|exact I.drew|exact I.drew.drew⟩,by simp [intOf];omega⟩
      have Hl:He ((S k).data.toList<(aG l q).data.toList):=by
       rw [ByteArray.toList_eq,ByteArray.toList_eq,bytesLess_eq] at hless;simpa [He] using hless
      have N:=((G.put u (q+1) (aG l q)).put (by rw [List.length_set];exact u) q (S k));rw [tD (by omega)] at N;have Ho:He (_):=N;have HL:He (_):=u;have c3:(wr.setCell ⟨gg,q+1,none⟩ (.string (aG l q))).cell? ⟨gg,q,none⟩=some (.string (aG l q)):=by rw [aB (by omega)];exact c2
      have f3:(wr.setCell ⟨gg,q+1,none⟩ (.string (aG l q))).frozen? ⟨gg,q,none⟩=false:=by rw [World.frozen?_setCell];exact f2
      have aq:He (w.heap.size<=gg):=by have:=World.ownsRow.lt G gg rfl;exact this.1
      clear u ah N
      go_wp2_with fail
      go_region
      all_goals go_wp2
      all_goals refine ⟨⟨q,rfl,by omega,aH.kept Ho.o (fun _ _ _=>rfl),fun i h1 h2=>?_,((I.setCell aq.o _).setCell aq.o _).drew⟩,by simp [intOf]⟩
      all_goals
       by_cases e:i=q
       ·subst e;exact Hl.o
       exact aj.o i (by omega) h2
     have ay:j=0:=by omega
     subst ay;have Hs:He (pH (bQ l 0 (S k))):=AK ab.o ag.o (by omega) aj.o (Or.inl rfl);have HL:He (_):=u;clear u ah
     go_wp2_with fail
     go_region
     all_goals go_wp2
     all_goals refine ⟨⟨k+1,bQ l 0 (S k),gg,cq,m+1,by omega,by go_num,rfl,HL.o,by omega,G.kept (fun _ _ _=>rfl),Hs.o,sQ Y.o (fun s=>iQ),by first|exact I.drew|exact I.drew.drew⟩,by simp [intOf];omega⟩
  have bb:k=n:=by omega
  subst bb;go_wp2
  go_ret;exact ⟨_,l,rfl,J,ab.o,Y.o,H⟩
theorem BJ (a:Option Addr)(cap:Nat)(S:Nat->ByteArray)(w:World) :
  Calls prog 132 #[.slice a 0 cap] w (tE w S 0):=by
 go_enter func132,ntmps132
 go_wp2
 refine wp_loop_rounds 1 ?_;rw [rounds_succ];go_wp2
 go_ret;exact ⟨_,[],rfl,aH.new w _ nL,List.Pairwise.nil,fun s=>by simp,bA⟩
theorem lP (w:World)(u:n<=1048576)(h:dE w a n cap S) :
  Calls prog 132 #[.slice a n cap] w (tE w S n):=by
 rcases h.cells with rfl|⟨b,off,rfl,hb,G⟩
 ·exact BJ a cap S w
 exact RU b off n cap S w u hb G
variable {m q icap:Nat}{E:Nat->Ev}{ia:Option Addr}
def MT (w:World)(E:Nat->Ev)(n:Nat)(S:Nat->ByteArray)(m:Nat)(e:Ending)(w':World):Prop :=
 ∃ v l,e=.returned v/\aH w' w.heap.size v l/\pH l/\(∀ s,s ∈ l↔Chn E n S m s)/\Below w.heap.size w w'
theorem uY {l:List ByteArray}{A:Nat->ByteArray}(hq:q=(bI l A k).length)(h:bD (aG (bI l A k)) q (A k)=true):bI l A (k+1)=bI l A k:=by
 subst hq;rw [bI,zN,if_pos h]
theorem vE {l:List ByteArray}{A:Nat->ByteArray}(hq:q=(bI l A k).length)(h:bD (aG (bI l A k)) q (A k)=false):bI l A (k+1)=bI l A k ++ [A k]:=by
 subst hq;rw [bI,zN,if_neg (by simp [h])]
theorem iY {s:ByteArray}(h:0<=aL E n s):∃ p,p<n/\aL E n s=(p:Int)/\(E p).id=s:=by
 obtain ⟨i,hi,e,hb⟩:=dU E s n h;exact ⟨i,hi,e,bC hb⟩
theorem CQ (w:World)(aj:aF E n=true)(h:dW w a n cap E)(cv:dE w ia m icap S)(hm:m<=300)(cu:∀ i,i<m->0<=aL E n (S i)) :
  Calls prog 176 #[.agg #[.slice a n cap],.slice ia m icap] w (MT w E n S m):=by
 have dy:=dJ aj;obtain ⟨i0,hi,cn,cf,co⟩:=info_parts Tryz.infoString;obtain ⟨wb,bn⟩:∃ wb,wb=w.alloc (.cells #[.slice a n cap] 25):=⟨_,rfl⟩;have bm:Below w.heap.size w wb:=by rw [bn];exact bA
 have dr:wb.heap.size=w.heap.size+1:=by rw [bn];simp
 have dk:Below (w.heap.size+1) wb (wb.alloc (.cells #[] 9)):=kB.alloc (by omega) _;have da:aH (wb.alloc (.cells #[] 9)) (w.heap.size+1) (.slice (some ⟨wb.heap.size,0,none⟩) 0 0) []:=aH.new wb _ (by omega);rw [dr] at da;have bk:He (∀ wx,Below (w.heap.size+1) wb wx->wx.cell? ⟨w.heap.size,0,none⟩=some (.slice a n cap)):=fun wx hx=>by subst bn;exact aK hx 0
 have dq:He (_):=cu;have I:He (_):=aj;clear cu aj
 go_enter func176,ntmps176
 go_wp2_with fail
 rw [<- bn]
 go_loopw [5,6] (fun v i wr=>∃ (k g q cp:Nat) (l:List ByteArray),k<=m/\i=.int .i64 k/\v=.slice (some ⟨g,0,none⟩) q cp/\He (q=l.length)/\q<=n/\aH wr (w.heap.size+1) (.slice (some ⟨g,0,none⟩) q cp) l/\He (QY E n S m (fun s=>∃ i,i<k/\S i=s) l)/\Below (w.heap.size+1) wb wr) (fun _ i _=>m - (intOf i).toNat)
 case atStart=>exact ⟨0,_,_,_,[],nz,rfl,rfl,rfl,nz,da,⟨List.nodup_nil,fun s hs=>absurd hs (by simp),fun p _ hP _ _=>absurd hP (by rintro ⟨i,hi,_⟩;omega)⟩,dk⟩
 case round =>
  obtain ⟨k,g,q,cp,l,hk,rfl,rfl,hq,bf,N,hA,hB⟩:=hrel;have U:=bm.trans (hB.mono (by omega));have ap:=bk.o _ hB;have au:w.heap.size+1<=wr.heap.size:=by have:=hB.size;omega
  by_cases aq:k<m
  ·have bx:=h.below U
   rcases cv.cells with h0|⟨bi,oi,rfl,dc,ci⟩
   ·omega
   have bu:wr.cell? ⟨bi,oi+k,none⟩=some (.string (S k)):=(U.cell (by exact dc)).trans (ci k aq);obtain ⟨p,hp,ay,af⟩:=iY (dq.o k aq);have Hc:He (∀ j,j<(E p).na->Chn E n S m ((E p).Av j)):=fun j hj=>Chn.base aq hp af hj
   have HP:He (∀ l':List ByteArray,(∃ r,l'=l ++ r)->∀ s,(∃ i,i<k+1/\S i=s)->(∃ i,i<k/\S i=s)\/s=(E p).id):=fun l' _ s ⟨i,hi,e⟩=>by
    by_cases ek:i=k
    ·subst ek;exact Or.inr (e.symm.trans af.symm)
    exact Or.inl ⟨i,by omega,e⟩
   clear ci;rcases h.cells with h0|⟨b,off,rfl,hb,hc⟩
   ·omega
   obtain ⟨_,_,aa,ca,_,_,a3,ak⟩:=hc p hp;have c7:=(a3.below U hb).c7;have an:=ak.ha;have cb:b<wr.heap.size:=nT hb U.size
   have b2:He (∀ W,dW W (some ⟨b,off,none⟩) n cap E->Calls prog 44 #[.agg #[.slice (some ⟨b,off,none⟩) n cap],.string (S k)] W fun e w'=>e=.returned (.int .i64 (p:Int))/\Below W.heap.size W w'):=fun W hW=>by
    refine (iJ (S k) W hW).mono ?_;rintro e w' ⟨rfl,rfl⟩;rw [ay];exact ⟨rfl,bA⟩
   have a5:He (aH wr (w.heap.size+1) (.slice (some ⟨g,0,none⟩) q cp) l):=N;have hna:(E p).na<=maxLen:=nZ an.le an.max;unfold maxLen at hna;clear a3 ak hc ay N af;obtain ⟨wo,rfl⟩:∃ wo:World,wo=wr:=⟨_,rfl⟩
   go_wp2_with fail
   go_region_with (go_at_call 44;refine (b2.o _ (bx.below (by first|exact kB|exact kB.drew|exact kB.drew.drew|exact kB.drew.drew.drew))).mono ?_;rintro e w2 ⟨rfl,bg⟩;have ad:Below wo.heap.size wo w2:=Below.trans (by first|exact Below.refl wo.heap.size wo|exact (Below.refl wo.heap.size wo).drew|exact (Below.refl wo.heap.size wo).drew.drew|exact (Below.refl wo.heap.size wo).drew.drew.drew) bg;have a8:=bk.o _ (hB.trans (ad.mono au));have b0:=(ad.cell (by exact cb)).trans c7)
   all_goals
    have O:=hB.trans (ad.mono au);have J:=aH.below a5.o ad;clear a8 b0 ap c7 bu
    go_wp2_with fail
    go_loopw [5,8] (fun v jv wi=>∃ (j g' q' H:Nat),j<=(E p).na/\jv=.int .i64 j/\v=.slice (some ⟨g',0,none⟩) q' H/\He (q'=(bI l (E p).Av j).length)/\q'<=n/\q<=q'/\aH wi (w.heap.size+1) (.slice (some ⟨g',0,none⟩) q' H) (bI l (E p).Av j)/\Below (w.heap.size+1) wb wi) (fun _ jv _=>(E p).na - (intOf jv).toNat)
    case atStart=>exact ⟨0,_,_,_,nz,rfl,rfl,hq.o,bf,nL,aH.kept J (fun _ _ _=>rfl),(by first|exact O|exact (O).drew|exact (O).drew.drew|exact (O).drew.drew.drew)⟩
    case round =>
     clear J O;obtain ⟨j,g',q',H,hj,rfl,rfl,G,ag,bw,u,Y⟩:=hrel;have bh:=bm.trans (Y.mono (by omega));have dh:w.heap.size+1<=wr.heap.size:=by have:=Y.size;omega
     by_cases bt:j<(E p).na
     ·rcases an.cells with h0|⟨ba,oa,rfl,bp,a4⟩
      ·omega
      have dj:wr.cell? ⟨ba,oa+j,none⟩=some (.string ((E p).Av j)):=(bh.cell (by exact bp)).trans (a4 j bt);have bb:∀ i,i<q'->wr.cell? ⟨g',0+i,none⟩=some (.string (aG (bI l (E p).Av j) i)):=fun i hi=>by rw [Nat.zero_add];exact u.cell G.o (by rw [<- G.o];exact hi)
      have Hn:He ((bI l (E p).Av (j+1)).length<=n):=hA.o.addLen I.o hp (by omega);clear a4
      go_wp2_with fail
      refine (iK g' 0 q' H (aG (bI l (E p).Av j)) ((E p).Av j) wr (by unfold maxLen;omega) bb).mono ?_;rintro e w3 ⟨rfl,cd⟩;subst cd;clear bb;cases hh:bD (aG (bI l (E p).Av j)) q' ((E p).Av j)
      case true =>
       have Hs:He (bI l (E p).Av (j+1)=bI l (E p).Av j):=uY G.o hh;go_wp2
       refine ⟨⟨j+1,g',q',H,by omega,by go_num,rfl,by rw [Hs.o];exact G,ag,bw,by rw [Hs.o];exact u,Y⟩,by simp [intOf];omega⟩
      case false =>
       have Hs:He (bI l (E p).Av (j+1)=bI l (E p).Av j ++ [(E p).Av j]):=vE G.o hh;have ai:q'+1<=n:=by have:=Hn.o;rw [Hs.o,List.length_append,<- G.o] at this;simpa using this
       clear Hn hh;generalize bI l (E p).Av j=l' at *;have bq:q'+1<=maxLen:=by unfold maxLen;omega
       have b6:(q'+1) * 16<=140737488355328:=by omega
       have bc:∀ o,w.heap.size+1<=(w3.alloc o).heap.size:=fun o=>by simp;omega
       have br:He (∀ r,(Value.slice (some ⟨g',0,none⟩) q' H).ownBlock=some r->w.heap.size+1<=r):=fun r hr=>by have:=World.ownsRow.lt u r hr;exact this.1
       have am:w3.ownsRow (w.heap.size+1) 9 1 (.slice (some ⟨g',0,none⟩) q' H) q' (l'.map Value.string):=by have:=u;unfold aH at this;rw [<- G.o] at this;exact this
       go_wp2_with (at_builtin;refine wpList_append_lies _ rfl _ _ 27 rfl (w.heap.size+1) 9 i0 (.string ByteArray.empty) 1 16 underlying27 hi cn cf co rfl (by decide) _ _ _ rfl (World.ownsRow.alloc am _) ⟨w3.heap.size,0,none⟩ 1 1 [.string ((E p).Av j)] rfl rfl (aV _ _ _) (bL _) (by decide) bq b6 (bc _) (w3.heap.size+1) (by simp) ?_;intro gg cq w4 Z ae cx ck)
       have ao:aH w4 (w.heap.size+1) (.slice (some ⟨gg,0,none⟩) (q'+1) cq) (l' ++ [(E p).Av j]):=by
        rw [G.o] at Z ⊢;exact aH.snoc Z
       have b9:Below (w.heap.size+1) wb w4:=(Y.alloc (by omega) _).grown ae (bc _) br.o;refine ⟨⟨j+1,_,_,_,by omega,by go_num,rfl,by rw [Hs.o];simp [G.o,He],ai,by omega,by rw [Hs.o];exact ao,b9⟩,by simp [intOf];omega⟩
     have b4:(E p).na=j:=by omega
     subst b4;go_wp2
     refine ⟨⟨k+1,g',q',H,bI l (E p).Av (E p).na,by omega,by go_num,rfl,G.o,ag,u,hA.o.add I.o hp Hc.o (HP.o (bI l (E p).Av (E p).na) (qL l (E p).Av (E p).na)),Y⟩,by simp [intOf];omega⟩
  have dm:m=k:=by omega
  subst dm;obtain ⟨l1,rfl⟩:∃ l1,l1=l:=⟨_,rfl⟩;obtain ⟨w5,rfl⟩:∃ w5:World,w5=wr:=⟨_,rfl⟩;have dd:=hq;have cj:=bf;have b8:=N;have bv:=hA;have dv:=hB;clear hq bf N hA hB U au
  go_wp2_with fail
  clear ap
  go_loopw [5,9] (fun v i wr=>∃ (k g q cp:Nat) (l:List ByteArray),k<=q/\i=.int .i64 k/\v=.slice (some ⟨g,0,none⟩) q cp/\He (q=l.length)/\q<=n/\aH wr (w.heap.size+1) (.slice (some ⟨g,0,none⟩) q cp) l/\He (QY E n S m (fun s=>(∃ i,i<m/\S i=s)\/∃ i,i<k/\aG l i=s) l)/\Below (w.heap.size+1) wb wr) (fun _ i _=>n - (intOf i).toNat)
  case atStart=>exact ⟨0,_,_,_,l1,nz,rfl,rfl,dd.o,cj,b8,⟨bv.o.nodup,bv.o.sound,fun p hp hP=>bv.o.closed p hp (hP.elim id fun ⟨i,hi,_⟩=>absurd hi (Nat.not_lt_zero _))⟩,dv⟩
  case round =>
   obtain ⟨k,g,q,cp,l,hk,rfl,rfl,hq,bf,N,hA,hB⟩:=hrel;have U:=bm.trans (hB.mono (by omega));have ap:=bk.o _ hB;have au:w.heap.size+1<=wr.heap.size:=by have:=hB.size;omega
   by_cases aq:k<q
   ·have bx:=h.below U
    have bu:wr.cell? ⟨g,k,none⟩=some (.string (aG l k)):=N.cell hq.o (by rw [<- hq.o];exact aq);have bz:aG l k ∈ l:=bO (by rw [<- hq.o];exact aq);obtain ⟨p,hp,af⟩:=sM I.o (hA.o.sound _ bz);have ay:aL E n (aG l k)=(p:Int):=by rw [<- af];exact aP I.o hp
    have Hc:He (∀ j,j<(E p).na->Chn E n S m ((E p).Av j)):=fun j hj=>Chn.step (hA.o.sound _ bz) hp af hj
    have HP:He (∀ l':List ByteArray,(∃ r,l'=l ++ r)->∀ s,((∃ i,i<m/\S i=s)\/∃ i,i<k+1/\aG l' i=s)->((∃ i,i<m/\S i=s)\/∃ i,i<k/\aG l i=s)\/s=(E p).id):=fun l' ⟨r,er⟩ s hs=>by
     rcases hs with hs|⟨i,hi,e⟩
     ·exact Or.inl (Or.inl hs)
     have e1:aG l' i=aG l i:=by
      have:i<l.length:=by have:=hq.o;omega
      rw [er];simp [aG,List.getD,List.getElem?_append,this]
     rw [e1] at e
     by_cases ek:i=k
     ·subst ek;exact Or.inr (e.symm.trans af.symm)
     exact Or.inl (Or.inr ⟨i,by omega,e⟩)
    clear bz;rcases h.cells with h0|⟨b,off,rfl,hb,hc⟩
    ·omega
    obtain ⟨_,_,aa,ca,_,_,a3,ak⟩:=hc p hp;have c7:=(a3.below U hb).c7;have an:=ak.ha;have cb:b<wr.heap.size:=nT hb U.size
    have b2:He (∀ W,dW W (some ⟨b,off,none⟩) n cap E->Calls prog 44 #[.agg #[.slice (some ⟨b,off,none⟩) n cap],.string (aG l k)] W fun e w'=>e=.returned (.int .i64 (p:Int))/\Below W.heap.size W w'):=fun W hW=>by
     refine (iJ (aG l k) W hW).mono ?_;rintro e w' ⟨rfl,rfl⟩;rw [ay];exact ⟨rfl,bA⟩
    have a5:He (aH wr (w.heap.size+1) (.slice (some ⟨g,0,none⟩) q cp) l):=N;have hna:(E p).na<=maxLen:=nZ an.le an.max;unfold maxLen at hna;clear a3 ak hc ay N af;obtain ⟨wo,rfl⟩:∃ wo:World,wo=wr:=⟨_,rfl⟩
    go_wp2_with fail
    go_region_with (go_at_call 44;refine (b2.o _ (bx.below (by first|exact kB|exact kB.drew|exact kB.drew.drew|exact kB.drew.drew.drew))).mono ?_;rintro e w2 ⟨rfl,bg⟩;have ad:Below wo.heap.size wo w2:=Below.trans (by first|exact Below.refl wo.heap.size wo|exact (Below.refl wo.heap.size wo).drew|exact (Below.refl wo.heap.size wo).drew.drew|exact (Below.refl wo.heap.size wo).drew.drew.drew) bg;have a8:=bk.o _ (hB.trans (ad.mono au));have b0:=(ad.cell (by exact cb)).trans c7)
    all_goals
     have O:=hB.trans (ad.mono au);have J:=aH.below a5.o ad;clear a8 b0 ap c7 bu
     go_wp2_with fail
     go_loopw [5,11] (fun v jv wi=>∃ (j g' q' H:Nat),j<=(E p).na/\jv=.int .i64 j/\v=.slice (some ⟨g',0,none⟩) q' H/\He (q'=(bI l (E p).Av j).length)/\q'<=n/\q<=q'/\aH wi (w.heap.size+1) (.slice (some ⟨g',0,none⟩) q' H) (bI l (E p).Av j)/\Below (w.heap.size+1) wb wi) (fun _ jv _=>(E p).na - (intOf jv).toNat)
     case atStart=>exact ⟨0,_,_,_,nz,rfl,rfl,hq.o,bf,nL,aH.kept J (fun _ _ _=>rfl),(by first|exact O|exact (O).drew|exact (O).drew.drew|exact (O).drew.drew.drew)⟩
     case round =>
      clear J O;obtain ⟨j,g',q',H,hj,rfl,rfl,G,ag,bw,u,Y⟩:=hrel;have bh:=bm.trans (Y.mono (by omega));have dh:w.heap.size+1<=wr.heap.size:=by have:=Y.size;omega
      by_cases bt:j<(E p).na
      ·rcases an.cells with h0|⟨ba,oa,rfl,bp,a4⟩
       ·omega
       have dj:wr.cell? ⟨ba,oa+j,none⟩=some (.string ((E p).Av j)):=(bh.cell (by exact bp)).trans (a4 j bt);have bb:∀ i,i<q'->wr.cell? ⟨g',0+i,none⟩=some (.string (aG (bI l (E p).Av j) i)):=fun i hi=>by rw [Nat.zero_add];exact u.cell G.o (by rw [<- G.o];exact hi)
       have Hn:He ((bI l (E p).Av (j+1)).length<=n):=hA.o.addLen I.o hp (by omega);clear a4
       go_wp2_with fail
       refine (iK g' 0 q' H (aG (bI l (E p).Av j)) ((E p).Av j) wr (by unfold maxLen;omega) bb).mono ?_;rintro e w3 ⟨rfl,cd⟩;subst cd;clear bb;cases hh:bD (aG (bI l (E p).Av j)) q' ((E p).Av j)
       case true =>
        have Hs:He (bI l (E p).Av (j+1)=bI l (E p).Av j):=uY G.o hh;go_wp2
        refine ⟨⟨j+1,g',q',H,by omega,by go_num,rfl,by rw [Hs.o];exact G,ag,bw,by rw [Hs.o];exact u,Y⟩,by simp [intOf];omega⟩
       case false =>
        have Hs:He (bI l (E p).Av (j+1)=bI l (E p).Av j ++ [(E p).Av j]):=vE G.o hh;have ai:q'+1<=n:=by have:=Hn.o;rw [Hs.o,List.length_append,<- G.o] at this;simpa using this
        clear Hn hh;generalize bI l (E p).Av j=l' at *;have bq:q'+1<=maxLen:=by unfold maxLen;omega
        have b6:(q'+1) * 16<=140737488355328:=by omega
        have bc:∀ o,w.heap.size+1<=(w3.alloc o).heap.size:=fun o=>by simp;omega
        have br:He (∀ r,(Value.slice (some ⟨g',0,none⟩) q' H).ownBlock=some r->w.heap.size+1<=r):=fun r hr=>by have:=World.ownsRow.lt u r hr;exact this.1
        have am:w3.ownsRow (w.heap.size+1) 9 1 (.slice (some ⟨g',0,none⟩) q' H) q' (l'.map Value.string):=by have:=u;unfold aH at this;rw [<- G.o] at this;exact this
        go_wp2_with (at_builtin;refine wpList_append_lies _ rfl _ _ 27 rfl (w.heap.size+1) 9 i0 (.string ByteArray.empty) 1 16 underlying27 hi cn cf co rfl (by decide) _ _ _ rfl (World.ownsRow.alloc am _) ⟨w3.heap.size,0,none⟩ 1 1 [.string ((E p).Av j)] rfl rfl (aV _ _ _) (bL _) (by decide) bq b6 (bc _) (w3.heap.size+1) (by simp) ?_;intro gg cq w4 Z ae cx ck)
        have ao:aH w4 (w.heap.size+1) (.slice (some ⟨gg,0,none⟩) (q'+1) cq) (l' ++ [(E p).Av j]):=by
         rw [G.o] at Z ⊢;exact aH.snoc Z
        have b9:Below (w.heap.size+1) wb w4:=(Y.alloc (by omega) _).grown ae (bc _) br.o;refine ⟨⟨j+1,_,_,_,by omega,by go_num,rfl,by rw [Hs.o];simp [G.o,He],ai,by omega,by rw [Hs.o];exact ao,b9⟩,by simp [intOf];omega⟩
      have b4:(E p).na=j:=by omega
      subst b4;go_wp2
      refine ⟨⟨k+1,g',q',H,bI l (E p).Av (E p).na,by omega,by go_num,rfl,G.o,ag,u,hA.o.add I.o hp Hc.o (HP.o (bI l (E p).Av (E p).na) (qL l (E p).Av (E p).na)),Y⟩,by simp [intOf];omega⟩
   have dx:q=k:=by omega
   subst dx;have cw:He (∀ s,s ∈ l↔Chn E n S m s):=fun s=>QY.mem (by have:=hA.o;rw [hq.o] at this;exact this) s
   have ch:∀ s ∈ l,s.size<=maxLen:=fun s hs=>by
    obtain ⟨j,hj,rfl⟩:=sM I.o (hA.o.sound s hs);rcases h.cells with h0|⟨b,off,_,_,hc⟩
    ·omega
    obtain ⟨_,_,_,_,_,_,_,ak⟩:=hc j hj;exact ak.hid
   obtain ⟨a',d4,e1,ct,_⟩:=N.sl ch;injection e1 with e1 e2 e3
   subst e3;rw [<- e1,<- hq.o] at ct;clear e2 e1 ch
   go_wp2_with fail
   refine (lP _ (by omega) ct).mono ?_;rintro e w2 ⟨v,l2,rfl,J,bo,a2,bg⟩;have db:He (_):=a2;have dn:He (_):=bo;clear a2 bo;go_wp2
   go_ret;refine ⟨v,l2,rfl,J.mono (by omega),dn.o,fun s=>?_,U.trans (bg.mono U.size)⟩;rw [db.o,<- cw.o];constructor
   ·rintro ⟨i,hi,rfl⟩
    exact bO (by rw [<- hq.o];exact hi)
   intro hs;obtain ⟨i,hi,e⟩:=dO hs;exact ⟨i,by rw [hq.o];exact hi,e⟩
end Go.Proofs.YtpfeegcdlikegaaGreat
