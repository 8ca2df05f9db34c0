import Derived.Test.YtkdalopokdhndaaGreatHpJZ
set_option maxHeartbeats 16000000
set_option maxRecDepth 100000
namespace Go.Proofs.YtkdalopokdhndaaGreat
open Go.RowKit
variable {E:Nat->Ev}{i j k m n p y rc cap:Nat}{S:Nat->ByteArray}{a ga ra:Option Addr}
theorem bl_made (W:World)(n:Nat):BlAt (W.alloc (.cells (madeCells #[.bool false] n) 4)) W.heap.size n (fun _=>false):=by
 refine ⟨by simp,fun i hi=>⟨?_,kF rfl⟩⟩;rw [kA rfl,trues_zero];simp [trues,hi]
theorem hitS_step (h:posV E n (S k)=(j:Int)):(if i=j then true else hitS E n S i k)=hitS E n S i (k+1):=by
 rw [hitS,h]
 by_cases e:i=j
 ·subst e;simp
 have:¬ ((j:Int)=(i:Int)):=by omega
 simp [e,this]
def rchN (E:Nat->Ev)(n:Nat)(B:Nat->Bool)(t p j:Nat):Nat->Bool:=fun i=>rchT E n B t i || hitS E n (E p).Av i j
theorem rchN_step {B:Nat->Bool}{t:Nat}(h:posV E n ((E p).Av j)=(y:Int)):(if i=y then true else rchN E n B t p j i)=rchN E n B t p (j+1) i:=by
 unfold rchN;rw [<- hitS_step h]
 by_cases e:i=y
 ·simp [e]
 simp [e]
theorem rchN_end {B:Nat->Bool}{t:Nat}(hp:p=n - 1 - t)(h:(B p || rchT E n B t p)=true):rchN E n B t p (E p).na i=rchT E n B (t+1) i:=by
 subst hp;unfold rchN;rw [rchT,h];simp
theorem rchT_skip {B:Nat->Bool}{t:Nat}(hp:p=n - 1 - t)(h:(B p || rchT E n B t p)=false):rchT E n B t i=rchT E n B (t+1) i:=by
 subst hp;rw [rchT,h];simp
theorem chainI_sl {gn gc:Nat}(w:World)(hroom:roomTo E n=true)(hr:SlL w ra n rc (restN E) (restV E))
  (hg:SlI w ga gn gc (fun i=>posV E n (S i))) (hth:∀ i,i<gn->0<=posV E n (S i)) :
  Calls Tryz.prog 215 #[.agg #[.slice a n cap,.map (some m),.slice ra n rc],.slice ga gn gc] w fun e w' =>
   ∃ b,e=.returned (.slice (some ⟨b,0,none⟩) n n)∧w.heap.size<=b∧BlAt w' b n (rchT E n (fun i=>hitS E n S i gn) n)∧Below w.heap.size w w':=by
 obtain ⟨bf,hbf⟩:∃ bf:Nat->Bool,bf=fun i=>hitS E n S i gn:=⟨_,rfl⟩
 rw [<- hbf];have Hbf:Hid (bf=fun i=>hitS E n S i gn):=hbf;clear hbf;have h300:=room_300 hroom;have hgm:=nZ hg.le hg.max;unfold maxLen at hgm;obtain ⟨wb,hwb⟩:∃ wb,wb=w.alloc (.cells #[.slice a n cap,.map (some m),.slice ra n rc] 62):=⟨_,rfl⟩;have hb0:Below w.heap.size w wb:=by rw [hwb];exact bA
 have hs0:wb.heap.size=w.heap.size+1:=by rw [hwb];simp
 have hbx:Hid (∀ wx,Below (w.heap.size+1) wb wx->∀ o,wx.cell? ⟨w.heap.size,o,none⟩=(#[.slice a n cap,.map (some m),.slice ra n rc]:Array Value)[o]?):=fun wx hx=>by subst hwb;exact box_cells hx
 have hmk:=make_bool n (by omega) wb;rw [hs0] at hmk;have hmk':(Instr.makeSlice 98 (.int .i64 (n:Int)) (.int .i64 (n:Int))).run Tryz.prog (w.alloc (.cells #[.slice a n cap,.map (some m),.slice ra n rc] 62))=.ok (.slice (some ⟨w.heap.size+1,0,none⟩) n n) (wb.alloc (.cells (madeCells #[.bool false] n) 4)):=by rw [<- hwb];exact hmk
 have hbl0:=bl_made wb n;rw [hs0] at hbl0;have hB0:Below (w.heap.size+1) wb (wb.alloc (.cells (madeCells #[.bool false] n) 4)):=kB.alloc (by omega) _;have Hth:Hid (_):=hth;have Hroom:Hid (_):=hroom;clear hth hroom hmk hwb
 go_enter Tryz.func215,Tryz.ntmps215
 go_wp2_with fail
 clear hmk'
 go_loopw [18] (fun i wr=>∃ k:Nat,k<=gn∧i=.int .i64 k∧BlAt wr (w.heap.size+1) n (fun i=>hitS E n S i k)∧Below (w.heap.size+1) wb wr) (fun i _=>gn - (intOf i).toNat)
 case atStart=>exact ⟨0,nz,rfl,hbl0,hB0⟩
 case round =>
  clear hbl0 hB0;obtain ⟨k,hk,rfl,hbl,hB⟩:=hrel;have hbw:=hb0.trans (hB.mono (by omega))
  by_cases hlt:k<gn
  ·rcases hg.cells with h0|⟨bg,og,rfl,hbg,hcg⟩
   ·omega
   obtain ⟨j,hj,e,_⟩:∃ j,j<n∧posV E n (S k)=(j:Int)∧True:=by
    have:=posV_bd E (S k) n
    have:=Hth.out k hlt;exact ⟨(posV E n (S k)).toNat,by omega,by omega,trivial⟩
   have hck:wr.cell? ⟨bg,og+k,none⟩=some (.int .i64 (j:Int)):=by rw [<- e];exact (hbw.cell (by exact hbg)).trans (hcg k hlt)
   have hm1:=(hbl.2 j hj).1;have hm2:=(hbl.2 j hj).2;have Hbl:Hid (BlAt (wr.setCell ⟨w.heap.size+1,j,none⟩ (.bool true)) (w.heap.size+1) n (fun i=>hitS E n S i (k+1))):=(hbl.set hj true).congr (fun i _=>hitS_step e);clear hcg hbl e;go_wp2
   go_roundw
   case rel=>exact ⟨k+1,by omega,by go_num,Hbl.out,hB.setCell nL _⟩
   simp [intOf];omega
  have hkn:gn=k:=by omega
  subst hkn;obtain ⟨W,rfl⟩:∃ W:World,W=wr:=⟨_,rfl⟩;have hmk:=make_bool n (by omega) W;have c0:=hbx.out _ hB 0;have hbl2:=bl_made W n;have hW2:Below W.heap.size W (W.alloc (.cells (madeCells #[.bool false] n) 4)):=bA;have hsW:w.heap.size+1+1<=W.heap.size:=hbl.1;have c01:=(hW2.cell (by show w.heap.size<_;omega)).trans c0;rw [<- Hbf.out] at hbl
  go_wp2_with fail
  clear hmk c01
  go_loopw [9] (fun iv wr=>∃ t:Nat,t<=n∧iv=.int .i64 ((n:Int) - 1 - (t:Int))∧BlAt wr W.heap.size n (rchT E n bf t)∧Below W.heap.size W wr) (fun iv _=>(intOf iv+1).toNat)
  case atStart=>exact ⟨0,nz,by first|rfl|go_num|simp,hbl2,hW2⟩
  case round =>
   clear hbl2 hW2;obtain ⟨t,ht,rfl,hbt,hBt⟩:=hrel;have c0t:=hbx.out _ (hB.trans (hBt.mono (by omega))) 0;have c2t:=hbx.out _ (hB.trans (hBt.mono (by omega))) 2;have hbegt:=hbl.below hBt
   by_cases hlt2:t<n
   ·obtain ⟨p,hp,ep⟩:∃ p:Nat,p=n - 1 - t∧(n:Int) - 1 - (t:Int)=(p:Int):=⟨n - 1 - t,rfl,by omega⟩
    rw [ep];have hpn:p<n:=by omega
    have m1:=(hbegt.2 p hpn).1;have m2:=(hbt.2 p hpn).1;have Hnext:Hid (IntKind.i64.wrap ((p:Int) - 1)=(n:Int) - 1 - ((t+1:Nat):Int)):=by unfold Hid;rw [IntKind.wrap_i64];omega
    cases hq:(bf p || rchT E n bf t p)
    case false =>
     rw [Bool.or_eq_false_iff] at hq;rw [hq.1] at m1;rw [hq.2] at m2;have Hbt:Hid (BlAt wr W.heap.size n (rchT E n bf (t+1))):=hbt.congr (fun i _=>rchT_skip hp (by rw [hq.1,hq.2];rfl));have HP:Hid (_):=hp;clear hq hp ep;go_wp2
     have hp:=HP.out;exact ⟨⟨t+1,by omega,congrArg _ (by omega),Hbt.out,hBt⟩,by simp only [intOf];omega⟩
    case true =>
     have Hend:Hid (∀ i,rchN E n bf t p (E p).na i=rchT E n bf (t+1) i):=fun i=>rchN_end hp hq
     have hbt0:BlAt wr W.heap.size n (rchN E n bf t p 0):=hbt.congr (fun i _=>by simp [rchN,hitS]);rcases hr.cells with h0|⟨br,orr,rfl,hbr,hcr⟩
     ·omega
     obtain ⟨xa,xc,hx,hxs⟩:=hcr p hpn;have hxr:wr.cell? ⟨br,orr+p,none⟩=some (.slice xa (restN E p) xc):=((hbw.trans (hBt.mono hbw.size)).cell (by exact hbr)).trans hx;have hna:(E p).na<=maxLen:=nZ hxs.le hxs.max;unfold maxLen at hna;have HP:Hid (_):=hp;obtain ⟨wo,rfl⟩:∃ wo:World,wo=wr:=⟨_,rfl⟩;clear hp ep hcr hx hbt;cases hq1:bf p
     case true =>
      rw [hq1] at m1;clear hq hq1
      go_wp2_with fail
      go_loopw [56] (fun jv wi=>∃ j:Nat,j<=(E p).na∧jv=.int .i64 j∧BlAt wi W.heap.size n (rchN E n bf t p j)∧Below W.heap.size W wi) (fun jv _=>(E p).na - (intOf jv).toNat)
      case atStart=>exact ⟨0,nz,rfl,hbt0,hBt⟩
      case round =>
       clear hbt0 hBt;obtain ⟨j,hj,rfl,hbj,hBj⟩:=hrel
       by_cases hlj:j<(E p).na
       ·rcases hxs.cells with h0|⟨bx,ox,rfl,hbx',hcx⟩
        ·exact absurd h0 (by show ¬ (E p).na=0;omega)
        obtain ⟨y,hy,ey,_⟩:=auth_there Hroom.out hpn hlj;have hyr:posV E p ((E p).Av j)=(y:Int):=(room_auth Hroom.out hpn hlj).2.2.trans ey;have hcy:wr.cell? ⟨bx,ox+j,none⟩=some (.int .i64 (y:Int)):=by rw [<- hyr];exact ((hbw.trans (hBj.mono hbw.size)).cell (by exact hbx')).trans (hcx j hlj)
        have hyn:y<n:=by omega
        have n1:=(hbj.2 y hyn).1;have n2:=(hbj.2 y hyn).2;have Hbl:Hid (BlAt (wr.setCell ⟨W.heap.size,y,none⟩ (.bool true)) W.heap.size n (rchN E n bf t p (j+1))):=(hbj.set hyn true).congr (fun i _=>rchN_step ey);clear hcx hbj ey hyr;go_wp2
        refine ⟨⟨j+1,by omega,by go_num,Hbl.out,hBj.setCell nL _⟩,by simp [intOf];omega⟩
       have hjn:(E p).na=j:=by omega
       subst hjn;go_wp2
       have hp:=HP.out;exact ⟨⟨t+1,by omega,congrArg _ (by omega),hbj.congr (fun i _=>Hend.out i),hBj⟩,by simp only [intOf];omega⟩
     case false =>
      rw [hq1,Bool.false_or] at hq;rw [hq1] at m1;rw [hq] at m2;clear hq hq1
      go_wp2_with fail
      go_loopw [56] (fun jv wi=>∃ j:Nat,j<=(E p).na∧jv=.int .i64 j∧BlAt wi W.heap.size n (rchN E n bf t p j)∧Below W.heap.size W wi) (fun jv _=>(E p).na - (intOf jv).toNat)
      case atStart=>exact ⟨0,nz,rfl,hbt0,hBt⟩
      case round =>
       clear hbt0 hBt;obtain ⟨j,hj,rfl,hbj,hBj⟩:=hrel
       by_cases hlj:j<(E p).na
       ·rcases hxs.cells with h0|⟨bx,ox,rfl,hbx',hcx⟩
        ·exact absurd h0 (by show ¬ (E p).na=0;omega)
        obtain ⟨y,hy,ey,_⟩:=auth_there Hroom.out hpn hlj;have hyr:posV E p ((E p).Av j)=(y:Int):=(room_auth Hroom.out hpn hlj).2.2.trans ey;have hcy:wr.cell? ⟨bx,ox+j,none⟩=some (.int .i64 (y:Int)):=by rw [<- hyr];exact ((hbw.trans (hBj.mono hbw.size)).cell (by exact hbx')).trans (hcx j hlj)
        have hyn:y<n:=by omega
        have n1:=(hbj.2 y hyn).1;have n2:=(hbj.2 y hyn).2;have Hbl:Hid (BlAt (wr.setCell ⟨W.heap.size,y,none⟩ (.bool true)) W.heap.size n (rchN E n bf t p (j+1))):=(hbj.set hyn true).congr (fun i _=>rchN_step ey);clear hcx hbj ey hyr;go_wp2
        refine ⟨⟨j+1,by omega,by go_num,Hbl.out,hBj.setCell nL _⟩,by simp [intOf];omega⟩
       have hjn:(E p).na=j:=by omega
       subst hjn;go_wp2
       have hp:=HP.out;exact ⟨⟨t+1,by omega,congrArg _ (by omega),hbj.congr (fun i _=>Hend.out i),hBj⟩,by simp only [intOf];omega⟩
   have htn:n=t:=by omega
   subst htn;have e1:(n:Int) - 1 - (n:Int)=-1:=by omega
   rw [e1];go_wp2
   go_ret;exact ⟨_,rfl,by omega,hbt,hbw.trans (hBt.mono hbw.size)⟩
theorem wtyI_sl {mm:Option Nat}{nr:Nat}(w:World)(hp:p<n)(h:SlV w a n cap E) :
  Calls Tryz.prog 173 #[.agg #[.slice a n cap,.map mm,.slice ra nr rc],.int .i64 (p:Int)] w fun x w'=>x=.returned (.bool (wtyB (E p)))∧Below w.heap.size w w':=by
 rcases h.cells with h0|⟨b,off,rfl,hb,hc⟩
 ·omega
 obtain ⟨pa,cp,aa,ca,ga,cg,hec,_⟩:=hc p hp;have hb0:Below w.heap.size w (w.alloc (.cells #[.slice (some ⟨b,off,none⟩) n cap,.map mm,.slice ra nr rc] 62)):=bA;have hne:b≠w.heap.size:=by omega
 have c1:(w.alloc (.cells #[.slice (some ⟨b,off,none⟩) n cap,.map mm,.slice ra nr rc] 62)).cell? ⟨b,off+p * 10+1,none⟩=some (.string (E p).sd):=(hb0.cell (by exact hb)).trans hec.c1;have c2:(w.alloc (.cells #[.slice (some ⟨b,off,none⟩) n cap,.map mm,.slice ra nr rc] 62)).cell? ⟨b,off+p * 10+2,none⟩=some (.string (E p).ty):=(hb0.cell (by exact hb)).trans hec.c2;have c4:(w.alloc (.cells #[.slice (some ⟨b,off,none⟩) n cap,.map mm,.slice ra nr rc] 62)).cell? ⟨b,off+p * 10+4,none⟩=some (.string (E p).key):=(hb0.cell (by exact hb)).trans hec.c4;have c8:(w.alloc (.cells #[.slice (some ⟨b,off,none⟩) n cap,.map mm,.slice ra nr rc] 62)).cell? ⟨b,off+p * 10+8,none⟩=some (.string (E p).val):=(hb0.cell (by exact hb)).trans hec.c8;have hx1:(0:Int)<=(p:Int):=by omega
 have hx2:(p:Int)<(n:Int):=by omega
 have Hr:Hid (∀ b1 b2 b3 b4 b5 b6,((E p).ty.toList == [109,101,109,98,101,114])=b1->((E p).val.toList == [108,101,97,118,101])=b2->((E p).val.toList == [98,97,110])=b3->((E p).sd.toList == (E p).key.toList)=b4->((E p).ty.toList == [112,111,119,101,114])=b5->((E p).ty.toList == [106,111,105,110,95,114,117,108,101,115])=b6->wtyB (E p)=if b1 then (b2 || b3) && !b4 else b5 || b6):=fun b1 b2 b3 b4 b5 b6 e1 e2 e3 e4 e5 e6=>by
  unfold wtyB;rw [e1,e2,e3,e4,e5,e6]
 clear hec hc h;generalize E p=ev at *;cases h5:(ev.ty.toList == [112,111,119,101,114])
 case true =>
  have h1:(ev.ty.toList == [109,101,109,98,101,114])=false:=by
   have:ev.ty.toList=[112,111,119,101,114]:=by simpa using h5
   rw [this];decide
  have HR:Hid (_=_):=Hr.out _ _ _ _ _ _ h1 rfl rfl rfl h5 rfl;clear Hr h1
  go_enter Tryz.func173,Tryz.ntmps173
  go_wp2
  go_ret;exact ⟨ret_bool (by rw [HR.out];rfl),hb0⟩
 case false =>
  cases h6:(ev.ty.toList == [106,111,105,110,95,114,117,108,101,115])
  case true =>
   have h1:(ev.ty.toList == [109,101,109,98,101,114])=false:=by
    have:ev.ty.toList=[106,111,105,110,95,114,117,108,101,115]:=by simpa using h6
    rw [this];decide
   have HR:Hid (_=_):=Hr.out _ _ _ _ _ _ h1 rfl rfl rfl h5 h6;clear Hr h1
   go_enter Tryz.func173,Tryz.ntmps173
   go_wp2
   go_ret;exact ⟨ret_bool (by rw [HR.out];rfl),hb0⟩
  case false =>
   cases h1:(ev.ty.toList == [109,101,109,98,101,114])
   case false =>
    have HR:Hid (_=_):=Hr.out _ _ _ _ _ _ h1 rfl rfl rfl h5 h6;clear Hr
    go_enter Tryz.func173,Tryz.ntmps173
    go_wp2
    go_ret;exact ⟨ret_bool (by rw [HR.out];rfl),hb0⟩
   case true =>
    cases h2:(ev.val.toList == [108,101,97,118,101]) <;> cases h3:(ev.val.toList == [98,97,110]) <;> cases h4:(ev.sd.toList == ev.key.toList)
    all_goals
     have HR:Hid (_=_):=Hr.out _ _ _ _ _ _ h1 h2 h3 h4 h5 h6;clear Hr
     go_enter Tryz.func173,Tryz.ntmps173
     go_wp2_with fail
     go_quiet (fail)
     all_goals
      go_wp2
      go_ret;exact ⟨ret_bool (by rw [HR.out];first|rfl|simp [h4]),by first|exact hb0|exact hb0.drew|exact hb0.trans ⟨rfl,rfl,rfl,nL,fun _ _=>rfl⟩⟩
variable {w:World}{q:Nat}
theorem SlI.congrX {X Y:Nat->Int}(h:SlI w a n cap X)(he:∀ i,i<n->X i=Y i):SlI w a n cap Y :=
 ⟨h.le,h.max,h.cells.imp id fun ⟨b,off,e,hb,hc⟩=>⟨b,off,e,hb,fun i hi=>by rw [<- he i hi];exact hc i hi⟩⟩
def fulM (E:Nat->Ev)(n:Nat)(S:Nat->ByteArray)(gn i:Nat):Bool:=rchT E n (fun i=>hitS E n S i gn) n i || hitS E n S i gn
theorem fullI_sl {gn gc:Nat}(w:World)(hroom:roomTo E n=true)(hr:SlL w ra n rc (restN E) (restV E))
  (hg:SlI w ga gn gc (fun i=>posV E n (S i))) (hth:∀ i,i<gn->0<=posV E n (S i)) :
  Calls Tryz.prog 174 #[.agg #[.slice a n cap,.map (some m),.slice ra n rc],.slice ga gn gc] w fun e w' =>
   ∃ b,e=.returned (.slice (some ⟨b,0,none⟩) n n)∧w.heap.size<=b∧BlAt w' b n (fulM E n S gn)∧Below w.heap.size w w':=by
 have hgm:=nZ hg.le hg.max;unfold maxLen at hgm;have hb0:∀ o,Below w.heap.size w (w.alloc o):=fun o=>bA
 have HC:Hid (∀ W,Below w.heap.size w W->Calls Tryz.prog 215 #[.agg #[.slice a n cap,.map (some m),.slice ra n rc],.slice ga gn gc] W fun e w'=>∃ b,e=.returned (.slice (some ⟨b,0,none⟩) n n)∧W.heap.size<=b∧BlAt w' b n (rchT E n (fun i=>hitS E n S i gn) n)∧Below W.heap.size W w'):=fun W hW=>chainI_sl W hroom (hr.below hW) (hg.below hW) hth
 have Hth:Hid (∀ i,i<gn->0<=posV E n (S i)):=hth;have Hg:Hid (SlI w ga gn gc (fun i=>posV E n (S i))):=hg;clear hroom hr hth hg;obtain ⟨R,hR⟩:∃ R:Nat->Bool,R=rchT E n (fun i=>hitS E n S i gn) n:=⟨_,rfl⟩;rw [<- hR] at HC;have HR:Hid (∀ i,(R i || hitS E n S i gn)=fulM E n S gn i):=fun i=>by rw [hR];rfl
 clear hR
 go_enter Tryz.func174,Tryz.ntmps174
 go_wp2_with fail
 refine (HC.out _ (hb0 _)).mono ?_;rintro e w1 ⟨b,rfl,hbb,hbl1,hb1⟩;have hw1:=(hb0 _).trans (hb1.mono (hb0 _).size);have hbw:w.heap.size<=b:=by have:=hbb;simp at this;omega
 clear HC hb1 hbb
 go_wp2_with fail
 go_loopw [13] (fun i wr=>∃ k:Nat,k<=gn∧i=.int .i64 k∧BlAt wr b n (fun i=>R i || hitS E n S i k)∧Below w.heap.size w wr) (fun i _=>gn - (intOf i).toNat)
 case atStart=>exact ⟨0,nz,rfl,hbl1.congr (fun i _=>by rw [hitS,Bool.or_false]),hw1⟩
 case round =>
  clear hbl1;obtain ⟨k,hk,rfl,hbl,hB⟩:=hrel
  by_cases hlt:k<gn
  ·rcases Hg.out.cells with h0|⟨bg,og,rfl,hbg,hcg⟩
   ·omega
   obtain ⟨j,hj,e⟩:∃ j,j<n∧posV E n (S k)=(j:Int):=by
    have:=posV_bd E (S k) n
    have:=Hth.out k hlt;exact ⟨(posV E n (S k)).toNat,by omega,by omega⟩
   have hck:wr.cell? ⟨bg,og+k,none⟩=some (.int .i64 (j:Int)):=by rw [<- e];exact (hB.cell (by exact hbg)).trans (hcg k hlt)
   have hm1:=(hbl.2 j hj).1;have hm2:=(hbl.2 j hj).2
   have Hbl:Hid (BlAt (wr.setCell ⟨b,j,none⟩ (.bool true)) b n (fun i=>R i || hitS E n S i (k+1))):=(hbl.set hj true).congr (fun i _=>by
    rw [<- hitS_step e]
    by_cases h:i=j
    ·simp [h]
    simp [h])
   clear hcg hbl e;go_wp2
   go_roundw
   case rel=>exact ⟨k+1,by omega,by go_num,Hbl.out,hB.setCell hbw _⟩
   simp [intOf];omega
  have hkn:gn=k:=by omega
  subst hkn;go_wp2
  go_ret;exact ⟨_,rfl,hbw,hbl.congr (fun i _=>HR.out i),hB⟩
theorem hitS_mem {l:List Nat}(hr:roomTo E n=true)(hl:∀ p ∈ l,p<n)(i:Nat):hitS E n (idsL E l) i l.length=true↔i ∈ l:=by
 rw [hitS_iff]
 have key:∀ q,q<l.length->posV E n (idsL E l q)=((l.getD q 0:Nat):Int):=fun q hq=>by
  show posV E n (E (lX l q).toNat).id=_
  unfold lX;rw [Int.toNat_natCast,posV_here hr (hl _ (getD_mem hq))]
 constructor
 ·rintro ⟨q,hq,e⟩
  rw [key q hq] at e
  have:i=l.getD q 0:=by omega
  rw [this];exact getD_mem hq
 intro h;obtain ⟨q,hq,e⟩:=List.mem_iff_getElem.1 h;refine ⟨q,hq,?_⟩;rw [key q hq,List.getD,List.getElem?_eq_getElem hq]
 show ((l[q]:Nat):Int)=_
 rw [e]
theorem full_iff {wl:List Nat}(hr:roomTo E n=true)(hp:p<n)(hw:∀ q,q ∈ wl↔q<n∧gvP E n S m q∧wtyB (E q)=true):fulM E n (idsL E wl) wl.length p=true↔wgP E n S m (E p).id∨ChQ E n (wgP E n S m) (E p).id:=by
 have hl:∀ q ∈ wl,q<n:=fun q hq=>((hw q).1 hq).1
 have inj:∀ i j,i<n->j<n->(E i).id=(E j).id->i=j:=fun i j hi hj e=>by
  have h1:=posV_here hr hi;rw [e,posV_here hr hj] at h1;omega
 have hG:∀ s,(∃ i,i<wl.length∧idsL E wl i=s)↔wgP E n S m s:=fun s=>by
  constructor
  ·rintro ⟨i,hi,e⟩
   obtain ⟨h1,h2,h3⟩:=(hw _).1 (getD_mem hi);refine ⟨_,h1,h2,h3,?_⟩;rw [<- e]
   show _=(E (lX wl i).toNat).id
   unfold lX;rw [Int.toNat_natCast]
  rintro ⟨q,hqn,h1,h2,rfl⟩;obtain ⟨i,hi,e⟩:=List.mem_iff_getElem.1 ((hw q).2 ⟨hqn,h1,h2⟩);refine ⟨i,hi,?_⟩
  show (E (lX wl i).toNat).id=_
  unfold lX;rw [Int.toNat_natCast,List.getD,List.getElem?_eq_getElem hi]
  show (E (wl[i])).id=_
  rw [e]
 unfold fulM;rw [Bool.or_eq_true,hitS_mem hr hl]
 have h1:rchT E n (fun i=>hitS E n (idsL E wl) i wl.length) n p=true↔ChQ E n (wgP E n S m) (E p).id:=by
  have h2:=rchT_chn (S:=idsL E wl) (m:=wl.length) hr (E p).id;rw [chn_iff] at h2;constructor
  ·intro h
   exact (h2.1 ⟨p,hp,h,rfl⟩).mono (fun t ht=>(hG t).1 ht)
  intro h;obtain ⟨j,hj,e,eid⟩:=h2.2 (h.mono (fun t ht=>(hG t).2 ht));rw [inj p j hp hj eid.symm];exact e
 have h3:p ∈ wl↔wgP E n S m (E p).id:=by
  rw [hw];constructor
  ·rintro ⟨q1,q2,q3⟩;exact ⟨p,q1,q2,q3,rfl⟩
  rintro ⟨q,q1,q2,q3,e⟩
  have:=inj q p q1 hp e;subst this;exact ⟨q1,q2,q3⟩
 rw [h1,h3];exact Or.comm
def WpPost (w:World)(E:Nat->Ev)(n:Nat)(S:Nat->ByteArray)(m:Nat)(e:Ending)(w':World):Prop:=∃ b T,e=.returned (.slice (some ⟨b,0,none⟩) n n)∧w.heap.size<=b∧BlAt w' b n T∧(∀ p,p<n->(T p=true↔TkP E n S m p))∧Below w.heap.size w w'
def WlRel (w1:World)(base:Nat)(E:Nat->Ev)(pl:List Nat)(v i:Value)(wr:World):Prop :=
 ∃ (k:Nat) (l:List Nat) (c:Nat),k<=pl.length∧i=.int .i64 (k:Int)∧Hid (c=l.length)∧c<=k∧OwnI wr base v c (lX l)∧Hid (∀ q,q ∈ l↔q ∈ pl.take k∧wtyB (E q)=true)∧Below w1.heap.size w1 wr
theorem lX_snoc (l:List Nat)(y:Nat):(∀ i,i<l.length->lX (l ++ [y]) i=lX l i)∧lX (l ++ [y]) l.length=(y:Int):=by
 constructor
 ·intro i hi
  unfold lX;rw [List.getD,List.getD,List.getElem?_append_left hi]
 unfold lX;simp [List.getD]
theorem take_mem {l:List Nat}(hk:k<l.length):q ∈ l.take (k+1)↔q ∈ l.take k∨q=l.getD k 0:=by
 rw [List.take_add_one,List.mem_append,List.getElem?_eq_getElem hk,List.getD,List.getElem?_eq_getElem hk];simp
theorem wpI_sl {bm:Nat}{G:Nat->Bool}{sm:Nat}(w:World)(hroom:roomTo E n=true)(h:SlV w a n cap E)(hr:SlL w ra n rc (restN E) (restV E))(hM:BlAt w bm n G)(hG:∀ p,p<n->(G p=true↔gvP E n S sm p)) :
  Calls Tryz.prog 107 #[.agg #[.slice a n cap,.map (some m),.slice ra n rc],.slice (some ⟨bm,0,none⟩) n n] w (WpPost w E n S sm):=by
 obtain ⟨i0,hi,hz0,hz1,hz2⟩:=info_parts Tryz.infoIntO;have h300:=room_300 hroom;obtain ⟨wb,hwb⟩:∃ wb,wb=w.alloc (.cells #[.slice a n cap,.map (some m),.slice ra n rc] 62):=⟨_,rfl⟩;have hb0:Below w.heap.size w wb:=by rw [hwb];exact bA
 have hs0:wb.heap.size=w.heap.size+1:=by rw [hwb];simp
 have hbx:Hid (∀ wx,Below wb.heap.size wb wx->∀ o,wx.cell? ⟨w.heap.size,o,none⟩=(#[.slice a n cap,.map (some m),.slice ra n rc]:Array Value)[o]?):=fun wx hx=>by subst hwb;exact box_cells (hx.mono (by simp))
 have Hroom:Hid (_):=hroom;have HE:Hid (SlV w a n cap E):=h;have HR:Hid (SlL w ra n rc (restN E) (restV E)):=hr;have HM:Hid (BlAt w bm n G):=hM;have HG:Hid (∀ p,p<n->(G p=true↔gvP E n S sm p)):=hG;have hbm:bm<w.heap.size:=hM.1;clear hroom h hr hM hG
 go_enter Tryz.func107,Tryz.ntmps107
 go_wp2_with fail
 rw [<- hwb];clear hwb;refine (plsI_sl wb h300 (HM.out.below hb0)).mono ?_;rintro e w1 ⟨v1,rfl,ho1,hb1⟩;have hB1:=hb1;have hw1:=hb0.trans (hb1.mono hb0.size);have Hpl:Hid (∀ q,q ∈ plsL G n↔q<n∧G q=true):=fun q=>plsL_mem G q n
 have hpll:=plsL_len G n;obtain ⟨pa,pc,rfl,hps⟩:=ho1.sl;have HPs:Hid (SlI w1 pa (plsL G n).length pc (lX (plsL G n))):=hps;clear ho1 hps hb1;generalize plsL G n=pl at *
 go_wp2_with fail
 go_loopw [5,13] (fun v i wr=>WlRel w1 w1.heap.size E pl v i wr) (fun _ i _=>pl.length - (intOf i).toNat)
 case atStart=>exact ⟨0,[],0,nz,rfl,rfl,nL,OwnI.nil _ _ _,fun q=>by simp,kB⟩
 case round =>
  obtain ⟨k,l,c,hk,rfl,hc,hck,hown,hmem,hbel⟩:=hrel;have hbw:=hw1.trans (hbel.mono hw1.size);have hBb:=hB1.trans (hbel.mono hB1.size);have hsr:w1.heap.size<=wr.heap.size:=hbel.size;have hbxr:=hbx.out _ hBb;have x0:=hbxr 0;have x1:=hbxr 1;have x2:=hbxr 2;clear hbxr
  by_cases hlt:k<pl.length
  ·rcases HPs.out.cells with h0|⟨bp,op,rfl,hbp,hcp⟩
   ·omega
   obtain ⟨y,hy,ey⟩:∃ y,y<n∧pl.getD k 0=y:=⟨_,((Hpl.out _).1 (getD_mem hlt)).1,rfl⟩
   have hcy:wr.cell? ⟨bp,op+k,none⟩=some (.int .i64 (y:Int)):=by
    rw [<- ey];exact (hbel.cell (by exact hbp)).trans (hcp k hlt)
   have HT:Hid (∀ q,q ∈ pl.take (k+1)↔q ∈ pl.take k∨q=y):=fun q=>by rw [<- ey];exact take_mem hlt
   have HW:Hid (∀ b1,wtyB (E y)=b1->Calls Tryz.prog 173 #[.agg #[.slice a n cap,.map (some m),.slice ra n rc],.int .i64 (y:Int)] wr fun x w'=>x=.returned (.bool b1)∧Below wr.heap.size wr w'):=fun b1 e1=>by rw [<- e1];exact wtyI_sl wr hy (HE.out.below hbw)
   clear hcp ey;cases ht:wtyB (E y)
   case false =>
    have HW':Hid (Calls Tryz.prog 173 #[.agg #[.slice a n cap,.map (some m),.slice ra n rc],.int .i64 (y:Int)] wr fun x w'=>x=.returned (.bool false)∧Below wr.heap.size wr w'):=HW.out _ ht
    have Hn:Hid (∀ q,q ∈ l↔q ∈ pl.take (k+1)∧wtyB (E q)=true):=fun q=>by
     rw [hmem.out,HT.out];constructor
     ·rintro ⟨h1,h2⟩;exact ⟨Or.inl h1,h2⟩
     rintro ⟨h1|rfl,h2⟩
     ·exact ⟨h1,h2⟩
     rw [ht] at h2;cases h2
    clear HW ht hmem
    go_wp2_with fail
    refine (HW'.out).mono ?_;rintro e w5 ⟨rfl,hb5⟩;clear HW';go_wp2
    go_roundw
    case rel=>exact ⟨k+1,l,c,by omega,by go_num,hc.out,by omega,hown.below hb5,Hn.out,hbel.trans (hb5.mono hsr)⟩
    simp [intOf];omega
   case true =>
    have HW':Hid (Calls Tryz.prog 173 #[.agg #[.slice a n cap,.map (some m),.slice ra n rc],.int .i64 (y:Int)] wr fun x w'=>x=.returned (.bool true)∧Below wr.heap.size wr w'):=HW.out _ ht
    have Hn:Hid (∀ q,q ∈ l ++ [y]↔q ∈ pl.take (k+1)∧wtyB (E q)=true):=fun q=>by
     rw [List.mem_append,List.mem_singleton,hmem.out,HT.out];constructor
     ·rintro (⟨h1,h2⟩|rfl)
      ·exact ⟨Or.inl h1,h2⟩
      exact ⟨Or.inr rfl,ht⟩
     rintro ⟨h1|h1,h2⟩
     ·exact Or.inl ⟨h1,h2⟩
     exact Or.inr h1
    have hm1:c+1<=maxLen:=by unfold maxLen;omega
    have hm2:(c+1) * 8<=140737488355328:=by omega
    have Hag:Hid (∀ q',u5.ownBlock=some q'->w1.heap.size<=q'):=fun q' hq'=>(World.ownsRow.lt hown q' hq').1
    have Hsn:Hid (∀ w2 v2,w2.ownsRow w1.heap.size 3 1 v2 (c+1) (ints (lX l) c ++ [.int .i64 (y:Int)])->OwnI w2 w1.heap.size v2 (c+1) (lX (l ++ [y]))):=fun w2 v2 ho=>by
     have h1:ints (lX l) c=ints (lX (l ++ [y])) c:=by
      unfold ints;refine List.map_congr_left fun i hi=>?_
      rw [(lX_snoc l y).1 i (by have:=List.mem_range.1 hi;rw [<- hc.out];exact this)]
     rw [h1] at ho;exact OwnI.snoc ho (by rw [hc.out,(lX_snoc l y).2])
    clear HW ht hmem
    go_wp2_with fail
    refine (HW'.out).mono ?_;rintro e w5 ⟨rfl,hb5⟩;have hown5:=hown.below hb5;have hB5:=hbel.trans (hb5.mono hsr);have hm3:∀ o,w1.heap.size<=(w5.alloc o).heap.size:=fun o=>by have:=hB5.size;simp;omega
    clear HW'
    go_wp2_with (at_builtin;refine wpList_append_own _ rfl _ _ 93 rfl w1.heap.size 3 i0 (.int .i64 0) 1 8 Tryz.underlying93 hi hz0 hz1 hz2 rfl (by decide) _ _ _ rfl (World.ownsRow.alloc hown5 _) ⟨w5.heap.size,0,none⟩ 1 1 [.int .i64 (y:Int)] rfl rfl (one_cellsI _ _ _) (one_oneI _) hm1 hm2 (hm3 _) ?_;intro v2 w2 hown2 hgrow2 _)
    have hB2:Below w1.heap.size w1 w2:=(hB5.alloc hB5.size _).grown hgrow2 (hm3 _) Hag.out;have hown3:=Hsn.out w2 v2 hown2;clear hown2 hgrow2;go_roundw
    case rel=>exact ⟨k+1,l ++ [y],c+1,by omega,by go_num,by unfold Hid;rw [List.length_append,<- hc.out];rfl,by omega,hown3,Hn.out,hB2⟩
    simp [intOf];omega
  have hkn:pl.length=k:=by omega
  subst hkn;have hc':=hc.out;subst hc'
  have Hwl:Hid (∀ q,q ∈ l↔q<n∧gvP E n S sm q∧wtyB (E q)=true):=fun q=>by
   rw [hmem.out,List.take_length,Hpl.out];constructor
   ·rintro ⟨⟨h1,h2⟩,h3⟩;exact ⟨h1,(HG.out q h1).1 h2,h3⟩
   rintro ⟨h1,h2,h3⟩;exact ⟨⟨h1,(HG.out q h1).2 h2⟩,h3⟩
  have Hln:Hid (∀ q ∈ l,q<n):=fun q hq=>((Hwl.out q).1 hq).1
  obtain ⟨la,lc,rfl,hsl⟩:=hown.sl
  have hsl2:SlI wr la l.length lc (fun i=>posV E n (idsL E l i)):=hsl.congrX fun i hi'=>by
   show lX l i=posV E n (E (lX l i).toNat).id
   unfold lX;rw [Int.toNat_natCast,posV_here Hroom.out (Hln.out _ (getD_mem hi'))]
  have HF:Hid (Calls Tryz.prog 174 #[.agg #[.slice a n cap,.map (some m),.slice ra n rc],.slice la l.length lc] wr fun e w'=>∃ b,e=.returned (.slice (some ⟨b,0,none⟩) n n)∧wr.heap.size<=b∧BlAt w' b n (fulM E n (idsL E l) l.length)∧Below wr.heap.size wr w'):=fullI_sl wr Hroom.out (HR.out.below hbw) hsl2 (fun i hi'=>by
   show 0<=posV E n (E (lX l i).toNat).id
   unfold lX;rw [Int.toNat_natCast,posV_here Hroom.out (Hln.out _ (getD_mem hi'))];omega)
  have HFi:Hid (∀ p,p<n->(fulM E n (idsL E l) l.length p=true↔wgP E n S sm (E p).id∨ChQ E n (wgP E n S sm) (E p).id)):=fun p hp=>full_iff Hroom.out hp Hwl.out
  generalize fulM E n (idsL E l) l.length=FM at *;clear hown hsl hsl2 hmem hc Hwl Hln HPs Hpl;generalize l.length=ll at *
  go_wp2_with fail
  refine (HF.out).mono ?_;rintro e w2 ⟨b,rfl,hbb,hbl2,hb2⟩;have hbw2:=hbw.trans (hb2.mono hbw.size);have hwb2:w.heap.size<=b:=by have:=hbw.size;omega
  have hMs:Hid (∀ W,Below w.heap.size w W->∀ i,i<n->W.cell? ⟨bm,i,none⟩=some (.bool (G i))):=fun W hW i hi'=>((HM.out.below hW).2 i hi').1
  clear HF hb2
  go_wp2_with fail
  go_loopw [30] (fun i wr=>∃ k:Nat,k<=n∧i=.int .i64 k∧BlAt wr b n (fun i=>if i<k then FM i && G i else FM i)∧Below w.heap.size w wr) (fun i _=>n - (intOf i).toNat)
  case atStart=>exact ⟨0,nz,rfl,hbl2.congr (fun i _=>by simp),hbw2⟩
  case round =>
   clear hbl2 x0 x1 x2;obtain ⟨k,hk,rfl,hbl,hB⟩:=hrel
   by_cases hlt:k<n
   ·have m1:wr.cell? ⟨b,k,none⟩=some (.bool (FM k)):=by
     have h1:=(hbl.2 k hlt).1;simp only [Nat.lt_irrefl,if_false] at h1;exact h1
    have m2:=(hbl.2 k hlt).2;have m3:=hMs.out _ hB k hlt
    have Hbl:Hid (∀ x,x=(FM k && G k)->BlAt (wr.setCell ⟨b,k,none⟩ (.bool x)) b n (fun i=>if i<k+1 then FM i && G i else FM i)):=fun x hx=>(hbl.set hlt x).congr (fun i _=>by
     by_cases h:i=k
     ·subst h;rw [if_pos rfl,if_pos (by omega)];exact hx
     rw [if_neg h]
     by_cases h2:i<k
     ·rw [if_pos h2,if_pos (by omega)]
     rw [if_neg h2,if_neg (by omega)])
    clear hbl;cases hf:FM k
    case false =>
     rw [hf] at m1;have HB2:Hid (BlAt (wr.setCell ⟨b,k,none⟩ (.bool false)) b n (fun i=>if i<k+1 then FM i && G i else FM i)):=Hbl.out false (by rw [hf];rfl);clear Hbl hf;go_wp2
     go_roundw
     case rel=>exact ⟨k+1,by omega,by go_num,HB2.out,hB.setCell hwb2 _⟩
     simp [intOf];omega
    case true =>
     rw [hf] at m1;have HB2:Hid (BlAt (wr.setCell ⟨b,k,none⟩ (.bool (G k))) b n (fun i=>if i<k+1 then FM i && G i else FM i)):=Hbl.out (G k) (by rw [hf];rfl);clear Hbl hf;go_wp2
     go_roundw
     case rel=>exact ⟨k+1,by omega,by go_num,HB2.out,hB.setCell hwb2 _⟩
     simp [intOf];omega
   have hkn:n=k:=by omega
   subst hkn
   have HP:Hid (WpPost w E n S sm (.returned (.slice (some ⟨b,0,none⟩) n n)) wr):=⟨b,_,rfl,hwb2,hbl,fun p hp=>by
    show (if p<n then FM p && G p else FM p)=true↔_
    rw [if_pos hp,Bool.and_eq_true,HG.out p hp,HFi.out p hp];exact ⟨fun ⟨h1,h2⟩=>⟨hp,h2,h1⟩,fun ⟨_,h1,h2⟩=>⟨h2,h1⟩⟩,hB⟩
   clear hbl;go_wp2
   go_ret;exact HP.out
end Go.Proofs.YtkdalopokdhndaaGreat
