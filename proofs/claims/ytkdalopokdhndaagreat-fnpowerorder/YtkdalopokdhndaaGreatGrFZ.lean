import Derived.Test.YtkdalopokdhndaaGreatRsIZ
set_option maxHeartbeats 16000000
set_option maxRecDepth 100000
namespace Go.Proofs.YtkdalopokdhndaaGreat
open Go.RowKit
variable {M:Nat->ByteArray}{i j n cap:Nat}{s:ByteArray}{a:Option Addr}
abbrev grV (x:ByteArray)(lv:Int):Value:=.agg #[.string x,.int .i64 lv]
theorem gfC_any' (x:ByteArray)(lv:Int)(s:ByteArray)(w:World) :
  Calls Tryz.prog 212 #[grV x lv,.string s] w fun e w'=>e=.returned (.int .i64 (cB x s))∧Grw w w':=by
 go_enter Tryz.func212,Tryz.ntmps212
 go_wp2_with (go_at_call 97;refine (scmp_any x s _).mono ?_;rintro e w' ⟨rfl,rfl⟩)
 go_ret;exact ⟨rfl,(Grw.refl w).alloc _⟩
def AscM (M:Nat->ByteArray)(n:Nat):Prop:=∀ i j,i<j->j<n->(M i).data.toList<(M j).data.toList
theorem cB_lt {a b:ByteArray}:cB a b<0↔a.data.toList<b.data.toList:=by
 unfold cB;rcases cmp_cases a.data.toList b.data.toList with ⟨h,e⟩|⟨h,e⟩|⟨h,e⟩
 ·rw [e];exact ⟨fun _=>h,fun _=>by decide⟩
 ·rw [e,h];exact ⟨fun h'=>absurd h' (by decide),fun h'=>absurd h' (List.lt_irrefl _)⟩
 rw [e];exact ⟨fun h'=>absurd h' (by decide),fun h'=>absurd (List.lt_trans h' h) (List.lt_irrefl _)⟩
theorem cB_zero {a b:ByteArray}:cB a b=0↔a=b:=by
 unfold cB;rcases cmp_cases a.data.toList b.data.toList with ⟨h,e⟩|⟨h,e⟩|⟨h,e⟩
 ·rw [e];exact ⟨fun h'=>absurd h' (by decide),fun h'=>by subst h';exact absurd h (List.lt_irrefl _)⟩
 ·rw [e];exact ⟨fun _=>ba_eq h,fun _=>rfl⟩
 rw [e];exact ⟨fun h'=>absurd h' (by decide),fun h'=>by subst h';exact absurd h (List.lt_irrefl _)⟩
theorem asc_mono (h:AscM M n)(hij:i<=j)(hj:j<n)(hc:cB (M j) s<0):cB (M i) s<0:=by
 by_cases e:i=j
 ·subst e;exact hc
 rw [cB_lt] at hc ⊢;exact List.lt_trans (h i j (by omega) hj) hc
def BgPost (M:Nat->ByteArray)(n:Nat)(s:ByteArray)(w:World)(e:Ending)(w':World):Prop:=Grw w w' ∧
 ∃ (i:Nat) (t:Bool),e=.returned (.tuple #[.int .i64 (i:Int),.bool t])∧((t=true∧i<n∧M i=s)∨(t=false∧∀ j,j<n->M j≠s))
theorem bg_any (b off n cap:Nat)(M:Nat->ByteArray)(L:Nat->Int)(s:ByteArray)(w:World)(hS:AscM M n)(hn:n<=1000000000)(hb:n≠0->b<w.heap.size)
  (h1:∀ i,i<n->w.cell? ⟨b,off+i * 2,none⟩=some (.string (M i))) (h2:∀ i,i<n->w.cell? ⟨b,off+i * 2+1,none⟩=some (.int .i64 (L i))) :
  Calls Tryz.prog 213 #[.slice (some ⟨b,off,none⟩) n cap,.string s,.func (.func 212) #[] #[]] w (BgPost M n s w):=by
 have HS:Hid (AscM M n):=hS;clear hS
 go_enter Tryz.func213,Tryz.ntmps213
 go_wp2_with fail
 go_loopw [9,10] (fun s9 s10 wr=>∃ lo hi:Nat,s9=.int .i64 lo∧s10=.int .i64 hi∧lo<=hi∧hi<=n∧Grw w wr∧Hid ((∀ t,t<lo->cB (M t) s<0)∧(∀ t,hi<=t->t<n->0<=cB (M t) s))) (fun s9 s10 _=>(intOf s10).toNat - (intOf s9).toNat)
 case atStart=>exact ⟨0,n,rfl,rfl,nz,nL,Grw.refl _,fun t ht=>absurd ht (Nat.not_lt_zero _),fun t h1 h2=>by omega⟩
 case round =>
  obtain ⟨lo,hi,rfl,rfl,hlh,hin,hgw,hI⟩:=hrel
  have hcell:Hid (∀ i,i<n->wr.cell? ⟨b,off+i * 2,none⟩=some (.string (M i))∧wr.cell? ⟨b,off+i * 2+1,none⟩=some (.int .i64 (L i))):=fun i hi=>by
   have hbw:=hb (by omega);exact ⟨(hgw.cell (by exact hbw)).trans (h1 i hi),(hgw.cell (by exact hbw)).trans (h2 i hi)⟩
  clear h1 h2 hb
  by_cases hlt:lo<hi
  ·obtain ⟨m,hm⟩:∃ m:Nat,m=(lo+hi) / 2:=⟨_,rfl⟩
   have em:((lo:Int)+(hi:Int)) / 2=(m:Int):=by omega
   have hm1:lo<=m:=by omega
   have hm2:m<hi:=by omega
   have hml:m<n:=by omega
   have a1:=(hcell.out m hml).1;have a2:=(hcell.out m hml).2;clear hm
   go_wp2_with fail
   refine (gfC_any' (M m) (L m) s _).mono ?_;rintro e wz ⟨rfl,hgc⟩;have hgz:=hgw.trans hgc;have hc0:Hid (∀ t,t<=m->cB (M m) s<0->cB (M t) s<0):=fun t ht hc=>asc_mono HS.out ht hml hc
   have hc1:Hid (∀ t,m<=t->t<n->0<=cB (M m) s->0<=cB (M t) s):=fun t ht htl hc=>Int.not_lt.1 fun h=>by have:=asc_mono HS.out ht htl h;omega
   clear a1 a2 hcell;generalize cB (M m) s=c at *
   by_cases hc:c<0
   ·have I2:Hid ((∀ t,t<m+1->cB (M t) s<0)∧(∀ t,hi<=t->t<n->0<=cB (M t) s)):=⟨fun t ht=>hc0.out t (by omega) hc,hI.out.2⟩
    clear hc0 hc1 hI;go_wp2
    go_roundw
    case rel=>exact ⟨m+1,hi,by go_num,rfl,by omega,by omega,hgz,I2⟩
    simp [intOf];omega
   have I2:Hid ((∀ t,t<lo->cB (M t) s<0)∧(∀ t,m<=t->t<n->0<=cB (M t) s)):=⟨hI.out.1,fun t ht htl=>hc1.out t ht htl (by omega)⟩;clear hc0 hc1 hI;go_wp2
   go_roundw
   case rel=>exact ⟨lo,m,rfl,rfl,by omega,by omega,hgz,I2⟩
   simp [intOf];omega
  obtain rfl:hi=lo:=by omega
  have hmiss:Hid ((hi<n->M hi≠s)->∀ j,j<n->M j≠s):=fun hne j hj e=>by
   have hc:cB (M j) s=0:=cB_zero.2 e;rcases Nat.lt_trichotomy j hi with h'|h'|h'
   ·have:=hI.out.1 j h';omega
   ·subst h';exact hne hj e
   have h3:=HS.out hi j h' hj;rw [e,<- cB_lt] at h3
   have:=hI.out.2 hi nL (by omega);omega
  by_cases hil:hi<n
  ·have a1:=(hcell.out hi hil).1
   have a2:=(hcell.out hi hil).2;have hyes:Hid (cB (M hi) s=0->M hi=s):=fun e=>cB_zero.1 e
   have hno:Hid (cB (M hi) s≠0->∀ j,j<n->M j≠s):=fun e=>hmiss.out (fun _ e2=>e (cB_zero.2 e2))
   go_wp2_with fail
   refine (gfC_any' (M hi) (L hi) s _).mono ?_;rintro e wz ⟨rfl,hgc⟩;have hgz:=hgw.trans hgc;clear a1 a2 hcell hmiss;generalize cB (M hi) s=c at *;go_wp2
   refine bodyPost_ret (v:=.tuple #[.int .i64 (hi:Int),.bool (c == 0)]) (by simp [results,Tryz.results213,go_sem]) rfl ⟨hgz,hi,(c == 0),rfl,?_⟩
   by_cases hc:c=0
   ·exact Or.inl ⟨by simpa using hc,hil,hyes.out hc⟩
   exact Or.inr ⟨by simpa using hc,hno.out hc⟩
  have hno:Hid (∀ j,j<n->M j≠s):=hmiss.out (fun h=>absurd h hil);obtain rfl:hi=n:=by omega
  clear hcell hI hlt hil hlh hin hmiss;go_wp2
  exact bodyPost_ret (v:=.tuple #[.int .i64 (hi:Int),.bool false]) (by simp [results,Tryz.results213,go_sem]) rfl ⟨hgw,hi,false,rfl,Or.inr ⟨rfl,hno.out⟩⟩
theorem bg_none (a:Option Addr)(cap:Nat)(M:Nat->ByteArray)(s:ByteArray)(w:World) :
  Calls Tryz.prog 213 #[.slice a 0 cap,.string s,.func (.func 212) #[] #[]] w (BgPost M 0 s w):=by
 go_enter Tryz.func213,Tryz.ntmps213
 go_wp2_with fail
 refine wp_loop_rounds 1 ?_;rw [rounds_succ];go_wp2
 exact bodyPost_ret (v:=.tuple #[.int .i64 ((0:Nat):Int),.bool false]) (by simp [results,Tryz.results213,go_sem]) rfl ⟨Grw.refl w,0,false,rfl,Or.inr ⟨rfl,fun j hj=>absurd hj (Nat.not_lt_zero _)⟩⟩
theorem bg_sl {L:Nat->Int}(s:ByteArray)(w:World)(hS:AscM M n)(hn:n<=1000000000)(h:SlG w a n cap M L) :
  Calls Tryz.prog 213 #[.slice a n cap,.string s,.func (.func 212) #[] #[]] w (BgPost M n s w):=by
 rcases h.cells with rfl|⟨b,off,rfl,hb,h1,h2⟩
 ·exact bg_none a cap M s w
 exact bg_any b off n cap M L s w hS hn (fun _=>hb) h1 h2
theorem gf_sl {L:Nat->Int}(s:ByteArray)(w:World)(hS:AscM M n)(hn:n<=1000000)(h:SlG w a n cap M L) :
  Calls Tryz.prog 168 #[.slice a n cap,.string s] w fun e w'=>e=.returned (gAns (gV M L s n))∧Grw w w':=by
 have HS:Hid (AscM M n):=hS;clear hS
 go_enter Tryz.func168,Tryz.ntmps168
 go_wp2_with fail
 refine (bg_sl s _ HS.out (by omega) h).mono ?_;rintro e w1 ⟨hg1,i,t,rfl,hpost⟩;rcases hpost with ⟨rfl,hi,hm⟩|⟨rfl,hno⟩
 ·have Hv:Hid (gAns (gV M L s n)=.tuple #[.int .i64 (L i),.bool true]):=by
   unfold Hid;rw [gV_hit (j:=i) (fun j hj=>?_) (by rw [hm];simp) hi]
   ·rfl
   cases hq:((M j).toList == s.toList)
   ·rfl
   rw [beq_iff_eq,ByteArray.toList_eq,ByteArray.toList_eq] at hq;have h3:=HS.out j i hj hi;rw [hm,hq] at h3;exact absurd h3 (List.lt_irrefl _)
  clear hm;rcases (h.below hg1.below).cells with h0|⟨b,off,rfl,hb,h1,h2⟩
  ·omega
  have c2:=h2 i hi;clear h1 h2;go_wp2
  refine bodyPost_ret (v:=.tuple #[.int .i64 (L i),.bool true]) (by simp [results,Tryz.results168,go_sem]) rfl ⟨by rw [Hv.out],hg1⟩
 have Hv:Hid (gAns (gV M L s n)=.tuple #[.int .i64 0,.bool false]):=by
  unfold Hid;rw [gV_none fun j hj=>?_]
  ·rfl
  cases hq:((M j).toList == s.toList)
  ·rfl
  rw [beq_iff_eq,ByteArray.toList_eq,ByteArray.toList_eq] at hq;exact absurd (ba_eq hq) (hno j hj)
 clear hno;go_wp2
 refine bodyPost_ret (v:=.tuple #[.int .i64 0,.bool false]) (by simp [results,Tryz.results168,go_sem]) rfl ⟨by rw [Hv.out],hg1⟩
variable {b cg:Nat}{ga:Option Addr}{ev:Ev}
def gOr (M:Nat->ByteArray)(L:Nat->Int)(n:Nat)(s:ByteArray)(z:Int):Int:=(gV M L s n).getD z
theorem grd_any {oc:Option Addr}{o:Nat}{L:Nat->Int}(s:ByteArray)(z:Int)(w:World)(hb:b<w.heap.size)(hc:w.cell? ⟨b,o+9,none⟩=some (.slice ga n cg))(hS:AscM M n)(hn:n<=50)(h:SlG w ga n cg M L) :
  Calls Tryz.prog 98 #[.agg #[.pointer oc,.pointer (some ⟨b,o,none⟩)],.string s,.int .i64 z] w fun e w'=>e=.returned (.int .i64 (gOr M L n s z))∧Below w.heap.size w w':=by
 have hb0:∀ o,Below w.heap.size w (w.alloc o):=fun o=>bA
 have c9:(w.alloc (.cells #[.pointer oc,.pointer (some ⟨b,o,none⟩)] 87)).cell? ⟨b,o+9,none⟩=some (.slice ga n cg):=((hb0 _).cell (by exact hb)).trans hc;have hne:b≠w.heap.size:=by omega
 have HG:Hid (∀ W,Below w.heap.size w W->Calls Tryz.prog 168 #[.slice ga n cg,.string s] W fun e w'=>e=.returned (gAns (gV M L s n))∧Below W.heap.size W w'):=fun W hW=>(gf_sl s W hS (by omega) (h.below hW)).mono fun e w' ⟨h1,h2⟩=>⟨h1,h2.below⟩
 have Hv:Hid (gOr M L n s z=(gV M L s n).getD z):=rfl;clear h hS hc
 cases ho:gV M L s n with
 | none =>
  rw [ho] at HG Hv
  go_enter Tryz.func98,Tryz.ntmps98
  go_wp2_with fail
  refine (HG.out _ (hb0 _)).mono ?_;rintro e w1 ⟨rfl,hb1⟩;unfold gAns;simp only [Option.getD_none,Option.isSome_none];go_wp2
  go_ret
  exact ⟨ret_int Hv.out.symm,(hb0 _).trans (hb1.mono (by simp))⟩
 | some v =>
  rw [ho] at HG Hv
  go_enter Tryz.func98,Tryz.ntmps98
  go_wp2_with fail
  refine (HG.out _ (hb0 _)).mono ?_;rintro e w1 ⟨rfl,hb1⟩;unfold gAns;simp only [Option.getD_some,Option.isSome_some];go_wp2
  go_ret;exact ⟨ret_int Hv.out.symm,(hb0 _).trans (hb1.mono (by simp))⟩
theorem ofU_pow {oc:Option Addr}{o:Nat}(user:ByteArray)(w:World)(hb:b<w.heap.size)(hc:w.cell? ⟨b,o+9,none⟩=some (.slice ga ev.ng cg))(hS:AscM ev.M ev.ng)(hn:ev.ng<=50)(h:SlG w ga ev.ng cg ev.M ev.L) :
  Calls Tryz.prog 46 #[.agg #[.pointer oc,.pointer (some ⟨b,o,none⟩)],.string user] w fun e w'=>e=.returned (.int .i64 (byG ev user))∧Below w.heap.size w w':=by
 have hb0:∀ o,Below w.heap.size w (w.alloc o):=fun o=>bA
 obtain ⟨wa,hwa⟩:∃ wa,wa=w.alloc (.cells #[.pointer oc,.pointer (some ⟨b,o,none⟩)] 87):=⟨_,rfl⟩;have hba:Below w.heap.size w wa:=by rw [hwa];exact hb0 _
 have hbx:∀ i,wa.cell? ⟨w.heap.size,i,none⟩=(#[.pointer oc,.pointer (some ⟨b,o,none⟩)]:Array Value)[i]?:=fun i=>by rw [hwa];exact kA rfl
 have hsz:w.heap.size<wa.heap.size:=by rw [hwa];simp
 have x0:=hbx 0;have x1:=hbx 1;have HG:Hid (∀ W s z,Below w.heap.size w W->Calls Tryz.prog 98 #[.agg #[.pointer oc,.pointer (some ⟨b,o,none⟩)],.string s,.int .i64 z] W fun e w'=>e=.returned (.int .i64 (gOr ev.M ev.L ev.ng s z))∧Below W.heap.size W w'):=fun W s z hW=>grd_any s z W (nT hb hW.size) ((hW.cell (by exact hb)).trans hc) hS hn (h.below hW)
 have Hv:Hid (byG ev user=gOr ev.M ev.L ev.ng user (gOr ev.M ev.L ev.ng ⟨#[42,100,101,102,97,117,108,116]⟩ 0)):=by
  unfold Hid byG gOr;cases gV ev.M ev.L user ev.ng <;> rfl
 have hrf:Below wa.heap.size wa wa:=kB;clear h hS hc hbx;generalize byG ev user=vv at *;have H1:Hid (∀ W,Below wa.heap.size wa W->Calls Tryz.prog 98 #[.agg #[.pointer oc,.pointer (some ⟨b,o,none⟩)],.string ⟨#[42,100,101,102,97,117,108,116]⟩,.int .i64 0] W fun e w'=>e=.returned (.int .i64 (gOr ev.M ev.L ev.ng ⟨#[42,100,101,102,97,117,108,116]⟩ 0))∧Below wa.heap.size wa w'):=fun W hW=>(HG.out W _ _ (hba.trans (hW.mono hba.size))).mono fun e w' ⟨h1,h2⟩=>⟨h1,hW.trans (h2.mono hW.size)⟩
 generalize gOr ev.M ev.L ev.ng ⟨#[42,100,101,102,97,117,108,116]⟩ 0=zd at *;have H2:Hid (∀ W,Below wa.heap.size wa W->Calls Tryz.prog 98 #[.agg #[.pointer oc,.pointer (some ⟨b,o,none⟩)],.string user,.int .i64 zd] W fun e w'=>e=.returned (.int .i64 vv)∧Below wa.heap.size wa w'):=fun W hW=>(HG.out W user zd (hba.trans (hW.mono hba.size))).mono fun e w' ⟨h1,h2⟩=>⟨by rw [Hv.out];exact h1,hW.trans (h2.mono hW.size)⟩
 clear HG Hv
 go_enter Tryz.func46,Tryz.ntmps46
 go_wp2_with fail
 rw [<- hwa];clear hwa;have y0:wa.cell? ⟨w.heap.size,0,none⟩=some (.pointer oc):=x0;have y1:wa.cell? ⟨w.heap.size,1,none⟩=some (.pointer (some ⟨b,o,none⟩)):=x1;clear x0 x1
 go_region_held3 (fun W=>W.cell? ⟨w.heap.size,0,none⟩=some (.pointer oc)∧W.cell? ⟨w.heap.size,1,none⟩=some (.pointer (some ⟨b,o,none⟩)))
  (first|(with_reducible exact ⟨y0,y1⟩)|go_keep)
  (first
   | (go_at_call_of 98 user;refine (H2.out _ (by with_reducible (repeat refine .drew ?_);exact hb2)).mono ?_;rintro e w3 ⟨rfl,hb3⟩;have r0:=(hb3.cell (by exact hsz)).trans y0;have r1:=(hb3.cell (by exact hsz)).trans y1)
   | (go_at_call 98;refine (H1.out _ (by with_reducible (repeat refine .drew ?_);exact hrf)).mono ?_;rintro e w2 ⟨rfl,hb2⟩;have q0:=(hb2.cell (by exact hsz)).trans y0;have q1:=(hb2.cell (by exact hsz)).trans y1))
 all_goals
  go_wp2
  go_ret;exact ⟨rfl,hba.trans (Below.mono (by first|exact hb3|exact hb3.drew|exact hb3.drew.drew) hba.size)⟩
theorem ofU_cre {o:Nat}(sd user:ByteArray)(w:World)(hb:b<w.heap.size)(hc:w.cell? ⟨b,o+1,none⟩=some (.string sd)) :
  Calls Tryz.prog 46 #[.agg #[.pointer (some ⟨b,o,none⟩),.pointer none],.string user] w fun e w'=>e=.returned (.int .i64 (if (sd.toList == user.toList)=true then 100 else 0))∧Below w.heap.size w w':=by
 have hb0:∀ o,Below w.heap.size w (w.alloc o):=fun o=>bA
 cases hq:(sd.toList == user.toList)
 all_goals
  have hC:∀ W,Below w.heap.size w W->Calls Tryz.prog 99 #[.agg #[.pointer (some ⟨b,o,none⟩),.pointer none],.string user] W fun e w'=>e=.returned (.bool (sd.toList == user.toList))∧Below W.heap.size W w':=fun W hW=>by
   have hbW:b<W.heap.size:=nT hb hW.size;have k1:(W.alloc (.cells #[.pointer (some ⟨b,o,none⟩),.pointer none] 87)).cell? ⟨b,o+1,none⟩=some (.string sd):=(((Below.refl W.heap.size W).alloc nL _).cell (by exact hbW)).trans ((hW.cell (by exact hb)).trans hc);have hne:b≠W.heap.size:=by omega
   go_enter Tryz.func99,Tryz.ntmps99
   go_wp2
   go_ret;exact ⟨ret_bool (by first|rfl|exact hq.symm|rw [hq]),bA⟩
  have HC:Hid (_):=hC;clear hC
  go_enter Tryz.func46,Tryz.ntmps46
  go_wp2_with fail
  refine (HC.out _ (hb0 _)).mono ?_;rintro e w1 ⟨rfl,hb1⟩;rw [hq];go_wp2
  go_ret;exact ⟨rfl,(hb0 _).trans (hb1.mono (by simp))⟩
variable {ra:Option Addr}{m rc:Nat}{E:Nat->Ev}
theorem auI_sl (w:World)(hroom:roomTo E n=true)(h:SlV w a n cap E)(hr:SlL w ra n rc (restN E) (restV E)) :
  Calls Tryz.prog 110 #[.agg #[.slice a n cap,.map (some m),.slice ra n rc]] w fun e w'=>∃ v,e=.returned v∧OwnI w' w.heap.size v n (auV E n)∧Below w.heap.size w w':=by
 obtain ⟨i0,hi,hz0,hz1,hz2⟩:=info_parts Tryz.infoIntO;have h300:=room_300 hroom;obtain ⟨wb,hwb⟩:∃ wb,wb=w.alloc (.cells #[.slice a n cap,.map (some m),.slice ra n rc] 62):=⟨_,rfl⟩;have hb0:Below w.heap.size w wb:=by rw [hwb];exact bA
 have hs0:wb.heap.size=w.heap.size+1:=by rw [hwb];simp
 have hbx:Hid (∀ wx,Below wb.heap.size wb wx->∀ o,wx.cell? ⟨w.heap.size,o,none⟩=(#[.slice a n cap,.map (some m),.slice ra n rc]:Array Value)[o]?):=fun wx hx=>by subst hwb;exact box_cells (hx.mono (by simp))
 have g0:wb.cell? ⟨w.heap.size,0,none⟩=some (.slice a n cap):=hbx.out wb kB 0;have Hroom:Hid (_):=hroom;have HE:Hid (SlV w a n cap E):=h;have HR:Hid (SlL w ra n rc (restN E) (restV E)):=hr;clear hroom h hr
 go_enter Tryz.func110,Tryz.ntmps110
 go_upto_region 1 with fail
 rw [<- hwb];clear hwb
 go_wp2_with fail
 go_loopw [3,11] (fun v i wr=>∃ k:Nat,k<=n∧i=.int .i64 k∧OwnI wr wb.heap.size v k (auV E n)∧Below wb.heap.size wb wr) (fun _ i _=>n - (intOf i).toNat)
 case atStart=>exact ⟨0,nz,rfl,OwnI.nil _ _ _,kB⟩
 case round =>
  clear g0;obtain ⟨k,hk,rfl,hown,hbel⟩:=hrel;have hbw:=hb0.trans (hbel.mono hb0.size);have hsr:wb.heap.size<=wr.heap.size:=hbel.size
  by_cases hlt:k<n
  ·rcases HE.out.cells with h0|⟨b,off,rfl,hb,hc⟩
   ·omega
   obtain ⟨pa,cp,aa,ca,ga,cg,hec,_⟩:=hc k hlt;obtain ⟨e0,e1,e2,e3,e4,e5,e6,e7,e8,e9⟩:=hec.below hbw hb;obtain ⟨_,_,_,_,_,_,hec0,_⟩:=hc 0 (by omega)
   have Hc0:Hid (∀ W,Below w.heap.size w W->W.cell? ⟨b,off+1,none⟩=some (.string (E 0).sd)):=fun W hW=>by
    have:=(hW.cell (p:=⟨b,off+0 * 10+1,none⟩) hb).trans hec0.c1;simpa using this
   have Hc:Hid (∀ i,i<n->EvAt w b (off+i * 10) (E i)):=hc;have hbr:b<wr.heap.size:=nT hb hbw.size;have hne:b≠wr.heap.size:=by omega
   have HP:Hid (∀ W,Below w.heap.size w W->Calls Tryz.prog 117 #[.agg #[.slice (some ⟨b,off,none⟩) n cap,.map (some m),.slice ra n rc],.int .i64 (k:Int)] W fun e w'=>e=.returned (.int .i64 (pwV E n k))∧Below W.heap.size W w'):=fun W hW=>powI_sl W Hroom.out hlt (HE.out.below hW) (HR.out.below hW)
   have Hau:Hid (∀ z,z=pwV E n k->auV E n k=if 0<=z then byG (E z.toNat) (E k).sd else if (E k).sd.toList == (E 0).sd.toList then 100 else 0):=fun z hz=>by rw [hz];rfl
   clear hc hec hec0;obtain ⟨ev,hev⟩:∃ ev,ev=E k:=⟨_,rfl⟩;rw [<- hev] at e0 e1 e2 e3 e4 e5 e6 e7 e8 e9 Hau;clear hev
   go_upto_region 4 with fail
   go_cut [4,5] from 12 to 37 (fun iv pv wx=>iv=.int .i64 (k:Int)∧CutG wr ev pa cp aa ca ga cg pv wx)
   case first =>
    go_wp2_with fail
    go_meet;exact ⟨rfl,cutG_a kB⟩
   case rest =>
    obtain ⟨rfl,B,rfl,hBl,hcells,hbc⟩:=hcut;obtain ⟨w5,hw5⟩:∃ w5:World,w5=wc:=⟨_,rfl⟩;subst hw5;have hB5:=hbel.trans (hbc.mono hsr);have hbw5:=hb0.trans (hB5.mono hb0.size);have hs5:=hB5.size;have y0:=hbx.out _ hB5 0;have y1:=hbx.out _ hB5 1;have y2:=hbx.out _ hB5 2;have hBz:Below wb.heap.size wb (w5.alloc (.cells #[.pointer (some ⟨b,off,none⟩),.pointer none] 87)):=hB5.alloc hs5 _;have z0:=hbx.out _ hBz 0;have z1:=hbx.out _ hBz 1;have z2:=hbx.out _ hBz 2;have s1:=hcells.c1;rw [Nat.zero_add] at s1;have hn0:(0:Int)<(n:Int):=by omega
    have hn1:0<n:=by omega
    have hne5:w.heap.size≠w5.heap.size:=by omega
    have hm1:k+1<=maxLen:=by unfold maxLen;omega
    have hm2:(k+1) * 8<=140737488355328:=by omega
    have Hag:Hid (∀ q',u3.ownBlock=some q'->wb.heap.size<=q'):=fun q' hq'=>(World.ownsRow.lt hown q' hq').1
    have hown5:=hown.below hbc;have hW6:Below w5.heap.size w5 (w5.alloc (.cells #[.pointer (some ⟨b,off,none⟩),.pointer none] 87)):=bA;have hWz:Hid (Below w.heap.size w (w5.alloc (.cells #[.pointer (some ⟨b,off,none⟩),.pointer none] 87))):=hbw5.alloc hbw5.size _;clear e0 e1 e2 e3 e4 e5 e6 e7 e8 e9 hcells hown
    go_wp2_with fail
    refine (HP.out _ hWz.out).mono ?_;rintro e w7 ⟨rfl,hb7⟩;have h57:=hW6.trans (hb7.mono hW6.size);have hB7:=hB5.trans (h57.mono hs5);have hbw7:=hb0.trans (hB7.mono hb0.size);have hs7:w5.heap.size+1<=w7.heap.size:=by have:=hb7.size;simpa using this
    have l0:w7.cell? ⟨w5.heap.size,0,none⟩=some (.pointer (some ⟨b,off,none⟩)):=(hb7.cell (p:=⟨w5.heap.size,0,none⟩) (by simp)).trans (kA rfl);have l1:w7.cell? ⟨w5.heap.size,1,none⟩=some (.pointer none):=(hb7.cell (p:=⟨w5.heap.size,1,none⟩) (by simp)).trans (kA rfl);have lf:∀ o,w7.frozen? ⟨w5.heap.size,o,none⟩=false:=fun o=>(hb7.frozen (p:=⟨w5.heap.size,o,none⟩) (by simp)).trans (kF rfl)
    have s7:w7.cell? ⟨B,1,none⟩=some (.string ev.sd):=(h57.cell (p:=⟨B,1,none⟩) hBl).trans s1;have r0:=hbx.out _ hB7 0;have hBne:B≠w5.heap.size:=by omega
    have hown7:=hown5.below h57;clear y0 y1 y2 z0 z1 z2 s1 HP hWz hW6 hb7
    by_cases h0:0<=pwV E n k
    ·obtain ⟨y,hy,ey,hpy⟩:=pw_at Hroom.out hlt h0
     have hyn:y<n:=by omega
     obtain ⟨qa,qp,ra',rp,sa,sp,hecy,hoky⟩:=Hc.out y hyn;have hasc:=gr_asc (room_code Hroom.out hyn) hpy;obtain ⟨av,hav⟩:∃ av,av=byG (E y) ev.sd:=⟨_,rfl⟩
     have Hav:Hid (av=auV E n k):=by
      have:=Hau.out _ rfl;rw [if_pos h0,ey,Int.toNat_natCast] at this;exact hav.trans this.symm
     have HU:Hid (∀ W,Below w.heap.size w W->Calls Tryz.prog 46 #[.agg #[.pointer (some ⟨b,off,none⟩),.pointer (some ⟨b,off+y * 10,none⟩)],.string ev.sd] W fun e w'=>e=.returned (.int .i64 av)∧Below W.heap.size W w'):=fun W hW=>by
      rw [hav];exact ofU_pow ev.sd W (nT hb hW.size) ((hW.cell (by exact hb)).trans hecy.c9) hasc.2 hasc.1 (hoky.hg.below hW)
     have hyn0:(0:Int)<=(y:Int):=by omega
     have hyn1:(y:Int)<(n:Int):=by omega
     have hyn2:¬ (y:Int)=-1:=by omega
     have hbW8:Below w.heap.size w (w7.setCell ⟨w5.heap.size,1,none⟩ (.pointer (some ⟨b,off+y * 10,none⟩))):=hbw7.setCell (by show w.heap.size<=w5.heap.size;omega) _;have hK8:Kp (fun q=>q=w5.heap.size) w7 (w7.setCell ⟨w5.heap.size,1,none⟩ (.pointer (some ⟨b,off+y * 10,none⟩))):=(Kp.refl (fun q=>q=w5.heap.size) w7).setCell rfl _;have hB8':Below wb.heap.size wb (w7.setCell ⟨w5.heap.size,1,none⟩ (.pointer (some ⟨b,off+y * 10,none⟩))):=hB7.setCell (by show wb.heap.size<=w5.heap.size;omega) _;have Ho8:Hid (OwnI (w7.setCell ⟨w5.heap.size,1,none⟩ (.pointer (some ⟨b,off+y * 10,none⟩))) wb.heap.size u3 k (auV E n)):=hown7.kp hK8 (fun g hg e=>by have:=(World.ownsRow.lt hown5 g hg).2;omega);rw [ey];clear hav ey h0 hecy hoky Hau hpy hasc hown7
     go_wp2_with fail
     refine (HU.out _ hbW8).mono ?_;rintro e w8 ⟨rfl,hb8⟩;have hs8':=hB8'.size;have hB8:Below wb.heap.size wb w8:=hB8'.trans (hb8.mono hs8');have hown8:OwnI w8 wb.heap.size u3 k (auV E n):=Ho8.out.below hb8;have hm3:∀ o,wb.heap.size<=(w8.alloc o).heap.size:=fun o=>by have:=hB8.size;simp;omega
     go_wp2_with (at_builtin;refine wpList_append_own _ rfl _ _ 93 rfl wb.heap.size 3 i0 (.int .i64 0) 1 8 Tryz.underlying93 hi hz0 hz1 hz2 rfl (by decide) _ _ _ rfl (World.ownsRow.alloc hown8 _) ⟨w8.heap.size,0,none⟩ 1 1 [.int .i64 av] rfl rfl (one_cellsI _ _ _) (one_oneI _) hm1 hm2 (hm3 _) ?_;intro v2 w2 hown2 hgrow2 _)
     have hB2:Below wb.heap.size wb w2:=(hB8.alloc hB8.size _).grown hgrow2 (hm3 _) Hag.out;have hown3:OwnI w2 wb.heap.size v2 (k+1) (auV E n):=OwnI.snoc hown2 Hav.out;clear hown2 hgrow2;go_roundw
     case rel=>exact ⟨k+1,by omega,by go_num,hown3,hB2⟩
     simp [intOf];omega
    have h1:pwV E n k=-1:=by have:=(pwV_bd Hroom.out hlt).1;omega
    obtain ⟨av,hav⟩:∃ av,av=if ((E 0).sd.toList == ev.sd.toList)=true then (100:Int) else 0:=⟨_,rfl⟩
    have Hav:Hid (av=auV E n k):=by
     have:=Hau.out _ rfl;rw [if_neg h0,beq_swap] at this;exact hav.trans this.symm
    have HU:Hid (∀ W,Below w.heap.size w W->Calls Tryz.prog 46 #[.agg #[.pointer (some ⟨b,off,none⟩),.pointer none],.string ev.sd] W fun e w'=>e=.returned (.int .i64 av)∧Below W.heap.size W w'):=fun W hW=>by
     rw [hav];exact ofU_cre (E 0).sd ev.sd W (nT hb hW.size) (Hc0.out W hW)
    have Hb7:Hid (Below w.heap.size w w7):=hbw7;rw [h1];clear hav h0 h1 Hau
    go_wp2_with fail
    refine (HU.out _ Hb7.out).mono ?_;rintro e w8 ⟨rfl,hb8⟩;have hs7':=hB7.size;have hB8:Below wb.heap.size wb w8:=hB7.trans (hb8.mono hs7');have hown8:OwnI w8 wb.heap.size u3 k (auV E n):=hown7.below hb8;have hm3:∀ o,wb.heap.size<=(w8.alloc o).heap.size:=fun o=>by have:=hB8.size;simp;omega
    go_wp2_with (at_builtin;refine wpList_append_own _ rfl _ _ 93 rfl wb.heap.size 3 i0 (.int .i64 0) 1 8 Tryz.underlying93 hi hz0 hz1 hz2 rfl (by decide) _ _ _ rfl (World.ownsRow.alloc hown8 _) ⟨w8.heap.size,0,none⟩ 1 1 [.int .i64 av] rfl rfl (one_cellsI _ _ _) (one_oneI _) hm1 hm2 (hm3 _) ?_;intro v2 w2 hown2 hgrow2 _)
    have hB2:Below wb.heap.size wb w2:=(hB8.alloc hB8.size _).grown hgrow2 (hm3 _) Hag.out;have hown3:OwnI w2 wb.heap.size v2 (k+1) (auV E n):=OwnI.snoc hown2 Hav.out;clear hown2 hgrow2;go_roundw
    case rel=>exact ⟨k+1,by omega,by go_num,hown3,hB2⟩
    simp [intOf];omega
  have hkn:n=k:=by omega
  subst hkn;go_wp2
  go_ret;exact ⟨_,rfl,hown.monoB hb0.size,hbw⟩
variable {p q bg bw dc hb len base:Nat}{D X:Nat->Nat}{o:List Nat}{P:Nat->Prop}{W w w' wx:World}
theorem ord_rests {T:Nat->Prop}(h:OrdP E n T D o){r:Nat}(hq:q ∈ o)(hr:Rst E n q r)(ht:T r):r ∈ o:=by
 obtain ⟨i,hi,rfl⟩:=List.mem_iff_getElem.1 hq
 have:=(h i _ (List.getElem?_eq_getElem hi)).1.2.2 r hr ht;exact List.mem_of_mem_take this
theorem cand_step {T:Nat->Prop}(hr:roomTo E n=true)(hT:∀ q,T q->q<n)(ho:OrdP E n T D o)(hp:Nxt E n T D o p)(q:Nat) :
  Cand E n T (o ++ [p]) q↔(Cand E n T o q∧q≠p)∨(T q∧Rst E n q p∧Rdy E n T (o ++ [p]) q):=by
 constructor
 ·rintro ⟨h1,h2,h3⟩
  rw [List.mem_append,List.mem_singleton,not_or] at h2
  by_cases h4:Rst E n q p
  ·exact Or.inr ⟨h1,h4,h3⟩
  refine Or.inl ⟨⟨h1,h2.1,fun r hr' ht=>?_⟩,h2.2⟩
  have:=h3 r hr' ht;rw [List.mem_append,List.mem_singleton] at this;rcases this with h5|h5
  ·exact h5
  subst h5;exact absurd hr' h4
 rintro (⟨⟨h1,h2,h3⟩,h4⟩|⟨h1,h2,h3⟩)
 ·exact ⟨h1,by rw [List.mem_append,List.mem_singleton,not_or];exact ⟨h2,h4⟩,fun r hr' ht=>List.mem_append_left _ (h3 r hr' ht)⟩
 refine ⟨h1,?_,h3⟩;rw [List.mem_append,List.mem_singleton,not_or];refine ⟨fun hq=>hp.1.2.1 (ord_rests ho hq h2 hp.1.1),fun e=>?_⟩;subst e
 have:=rst_lt hr (hT q h1) h2;omega
theorem nxt_heap {T:Nat->Prop}(hr:roomTo E n=true)(hT:∀ q,T q->q<n)(hh:Heap E D (len+1) X)(hm:∀ q,MemX X (len+1) q↔Cand E n T o q):Nxt E n T D o (X 0):=by
 have h0:Cand E n T o (X 0):=(hm _).1 ⟨0,by omega,rfl⟩;refine ⟨h0,fun q hq=>?_⟩;obtain ⟨i,hi,rfl⟩:=(hm q).2 hq
 by_cases e:X i=X 0
 ·exact Or.inl e
 rcases Bef.total (D:=D) hr (hT _ hq.1) (hT _ h0.1) e with h1|h1
 ·exact absurd h1 (heap_min hh i hi)
 exact Or.inr h1
theorem inj_len (hI:InjX X len)(hX:∀ p,MemX X len p->p<n):len<=n:=by
 have h1:((List.range len).map X).Nodup:=by
  refine List.pairwise_map.2 (List.pairwise_iff_getElem.2 fun i j hi hj hij e=>?_);simp only [List.getElem_range] at e;simp only [List.length_range] at hi hj
  have:=hI i j hi hj e;omega
 have:=h1.length_le_of_subset (l₂:=List.range n) (fun p hp=>by
  obtain ⟨i,hi,rfl⟩:=List.mem_map.1 hp;rw [List.mem_range];exact hX _ ⟨i,List.mem_range.1 hi,rfl⟩)
 simpa using this
theorem ord_len {T:Nat->Prop}(ho:OrdP E n T D o)(hT:∀ q,T q->q<n):o.length<=n:=by
 have:=ho.nodup.length_le_of_subset (l₂:=List.range n) (fun p hp=>by rw [List.mem_range];exact hT p (ho.sub p hp));simpa using this
theorem ord_full {T:Nat->Prop}(hr:roomTo E n=true)(hT:∀ q,T q->q<n)(h:∀ q,¬ Cand E n T o q):∀ p,T p->p ∈ o:=fun p hp=>Classical.byContradiction fun hn=>by
 obtain ⟨q,hq⟩:=cand_ex hr hT p hp hn;exact h q hq
theorem BlAt.kp {M:Nat->Bool}(h:BlAt w b n M)(hk:Kp P w w')(hP:¬ P b):BlAt w' b n M :=
 ⟨nT h.1 hk.size,fun i hi=>⟨(hk.cell (p:=⟨b,i,none⟩) h.1 hP).trans (h.2 i hi).1,(hk.frozen (p:=⟨b,i,none⟩) h.1 hP).trans (h.2 i hi).2⟩⟩
theorem GfAt.kp {off db:Nat}{D:Nat->Int}(h:GfAt w bg bw b off n cap db dc E D)(hk:Kp P w w')(l1:bg<w.heap.size)(l2:bw<w.heap.size)(l3:b<w.heap.size)(l4:db<w.heap.size)(p1:¬ P bg)(p2:¬ P bw)(p3:¬ P b)(p4:¬ P db):GfAt w' bg bw b off n cap db dc E D :=
 ⟨(hk.cell (p:=⟨bg,0,none⟩) l1 p1).trans h.g0,(hk.cell (p:=⟨bw,0,none⟩) l2 p2).trans h.w0,fun p hp=>(hk.cell (p:=⟨b,off+p * 10,none⟩) l3 p3).trans (h.id p hp),fun p hp=>(hk.cell (p:=⟨b,off+p * 10+5,none⟩) l3 p3).trans (h.tm p hp),fun p hp=>(hk.cell (p:=⟨db,0+p,none⟩) l4 p4).trans (h.wt p hp)⟩
theorem cmpG_au (hr:roomTo E n=true)(hp:p<n)(hq:q<n):cmpG E (auV E n) p q<0↔Bef E (auN E n) p q:=by
 have e:cmpG E (auV E n) p q=cmpG E (fun i=>(auN E n i:Int)) p q:=by
  have b1:=auV_lo hr hp;have b2:=auV_lo hr hq
  have e1:cC (auV E n q) (auV E n p)=cC ((auN E n q:Nat):Int) ((auN E n p:Nat):Int):=by
   unfold cC auN;have f1:(((auV E n q+1000000).toNat:Nat):Int)=auV E n q+1000000:=by omega
   have f2:(((auV E n p+1000000).toNat:Nat):Int)=auV E n p+1000000:=by omega
   rw [f1,f2]
   (repeat' split) <;> omega
  unfold cmpG;rw [e1]
 rw [e];exact cmpG_lt E (auN E n) p q
def HpCut (w2:World)(E:Nat->Ev)(n bt:Nat)(pv:Value)(wx:World):Prop:=∃ hb bg bw,pv=.pointer (some ⟨hb,0,none⟩)∧w2.heap.size<=hb∧hb<wx.heap.size∧wx.cell? ⟨hb,0,none⟩=some (.slice none 0 0)∧wx.cell? ⟨hb,1,none⟩=some (gfV bg bw)∧(∀ o,wx.frozen? ⟨hb,o,none⟩=false) ∧
 (∀ W base,wx.heap.size<=base->Kp (fun b=>b=bt∨b=hb∨wx.heap.size<=b) wx W->CmpOk E (auN E n) n bg bw hb base W)∧Below w2.heap.size w2 wx
theorem cmp_ok {bt db:Nat}(hr:roomTo E n=true)(hB:wx.heap.size<=base)(hK:Kp (fun b=>b=bt∨b=hb∨wx.heap.size<=b) wx W)
  (h:0<n->∃ b off,a=some ⟨b,off,none⟩∧GfAt wx bg bw b off n cap db dc E (auV E n)∧bg<wx.heap.size∧bw<wx.heap.size∧b<wx.heap.size∧db<wx.heap.size∧bg≠bt∧bw≠bt∧b≠bt∧db≠bt∧bg≠hb∧bw≠hb∧b≠hb∧db≠hb):CmpOk E (auN E n) n bg bw hb base W:=by
 intro W' hW' p q hp hq;obtain ⟨b,off,_,hG,l1,l2,l3,l4,t1,t2,t3,t4,s1,s2,s3,s4⟩:=h (by omega)
 have hK2:Kp (fun b=>b=bt∨b=hb∨wx.heap.size<=b) wx W':=hK.transN hW' (fun i hi e=>by
  rcases e with e|e
  ·exact Or.inr (Or.inl e)
  exact Or.inr (Or.inr (by omega)))
 have hG':=hG.kp hK2 l1 l2 l3 l4 (by omega) (by omega) (by omega) (by omega);refine (gfc_any p q hp hq hG').mono ?_;rintro e w' ⟨rfl,hg⟩;exact ⟨_,rfl,cmpG_au hr hp hq,hg.below⟩
end Go.Proofs.YtkdalopokdhndaaGreat
