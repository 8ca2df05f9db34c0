import Derived.Test.YtkdalopokdhndaaGreatGwB
set_option maxHeartbeats 16000000
set_option maxRecDepth 100000
namespace Go.Proofs.YtkdalopokdhndaaGreat
open Go.RowKit
variable {Ca bs:Nat->Nat}{m n q be na oe sc cap:Nat}{E:Nat->Ev}{A:Nat->List Ent}{Aa:Nat->Option Addr}
theorem l2Gw (p:Nat){ab ao:Nat}(w:World)(h:RdF w p bs m q)(hn:0<n)(hroom:roomTo E n=true)(hna:n<=na)(hna2:na<=maxLen)(hf:∀ j,j<n->FitL E n (A j))(HK:GwK p w be oe n cap E ab ao na A Aa Ca) :
  Calls Tryz.prog 64 #[.pointer (some ⟨p,0,none⟩),.agg #[.slice (some ⟨be,oe,none⟩) n cap],.slice (some ⟨ab,ao,none⟩) na sc] w (GwPost p w bs m q E n A):=by
 obtain ⟨i0,hi0,hz0,hz1,hz2⟩:=info_parts Tryz.infoString;obtain ⟨j0,hj0,hy0,hy1,hy2⟩:=info_parts Tryz.infoRowE;have h300:=room_300 hroom;have hk:=h.nx;have hp:=h.lt;obtain ⟨wa,hwa⟩:∃ wa,wa=(w.alloc (.cells #[.slice (some ⟨be,oe,none⟩) n cap] 25)).alloc (.cells #[.string ⟨#[]⟩,.string ⟨#[]⟩,.string ⟨#[]⟩,.bool false,.string ⟨#[]⟩,.int .i64 0,.slice none 0 0,.slice none 0 0,.string ⟨#[]⟩,.slice none 0 0] 30):=⟨_,rfl⟩;have hba:Below w.heap.size w wa:=by rw [hwa];exact bA.alloc (by simp) _
 have hA0:Hid (GvA p w wa bs m q (.slice (some ⟨be,oe,none⟩) n cap)):=by
  refine ⟨?_,fun o ho=>?_,fun o=>?_,by rw [hwa];simp,(DwF.refl h).below hba⟩
  ·rw [hwa,World.cell?_alloc_past _ _ _ (by simp)];exact kA rfl
  ·rw [hwa,kA (by simp)]
   match o,ho with
   | 0,_=>exact ⟨_,rfl⟩
   | 1,_=>exact ⟨_,rfl⟩
   | 2,_=>exact ⟨_,rfl⟩
   | 3,_=>exact ⟨_,rfl⟩
   | 4,_=>exact ⟨_,rfl⟩
   | 5,_=>exact ⟨_,rfl⟩
   | 6,_=>exact ⟨_,rfl⟩
   | 7,_=>exact ⟨_,rfl⟩
   | 8,_=>exact ⟨_,rfl⟩
   | 9,_=>exact ⟨_,rfl⟩
  rw [hwa];exact kF (by simp)
 have HKh:Hid (GwK p w be oe n cap E ab ao na A Aa Ca):=HK;have hcapn:n<=cap∧cap<=maxLen:=by have:=(HK w (World.grownBy.refl _ _)).1;exact ⟨this.le,this.max⟩
 unfold maxLen at hcapn hna2;have Hroom:Hid (_):=hroom;have Hf:Hid (∀ j,j<n->FitL E n (A j)):=hf;have x0:((w.alloc (.cells #[.slice (some ⟨be,oe,none⟩) n cap] 25)).alloc (.cells #[.string ⟨#[]⟩,.string ⟨#[]⟩,.string ⟨#[]⟩,.bool false,.string ⟨#[]⟩,.int .i64 0,.slice none 0 0,.slice none 0 0,.string ⟨#[]⟩,.slice none 0 0] 30)).cell? ⟨w.heap.size,0,none⟩=some (.slice (some ⟨be,oe,none⟩) n cap):=by rw [<- hwa];exact hA0.out.r
 clear HK hroom hf
 go_enter Tryz.func64,Tryz.ntmps64
 go_wp2_with fail
 rw [<- hwa];clear hwa x0;refine (nextF p wa hA0.out.dw.1).mono ?_;rintro x w1 ⟨rfl,hd1⟩;have hA1:Hid (GvA p w w1 bs m (nxQ m q) (.slice (some ⟨be,oe,none⟩) n cap)):=hA0.out.draw hp hd1;clear hd1 hA0;obtain ⟨k,hk0⟩:∃ k,k=nxB bs m q:=⟨_,rfl⟩;have Hk:Hid (k=nxB bs m q):=hk0;rw [<- hk0] at hk ⊢;clear hk0;obtain ⟨j14,hj14⟩:∃ j14,j14=(k+n) % 14:=⟨_,rfl⟩;have hj1:((k:Int)+(n:Int)) % 14=((j14:Nat):Int):=by omega
 have hj2:j14<14:=by omega
 have Hj:Hid (j14=(k+n) % 14):=hj14;have HU:Hid (∀ W,Calls Tryz.prog 124 #[.int .i64 ((k:Int) / 4 % 16 % 5)] W (fun e w'=>e=.returned (.string (usr (k / 4 % 16 % 5)))∧Below W.heap.size W w')):=fun W=>by rw [show (k:Int) / 4 % 16 % 5=((k / 4 % 16 % 5:Nat):Int) by simp];exact userF _ W (by omega)
 have HD:Hid (∀ W,Calls Tryz.prog 123 #[.int .i64 (n:Int)] W (fun e w'=>e=.returned (.string (decB n))∧Below W.heap.size W w')):=fun W=>decF n (by omega) W
 have hdz:(decB n).size<=20:=decB_size n (by omega);clear hj14;obtain ⟨us,hus⟩:∃ us,us=usr (k / 4 % 16 % 5):=⟨_,rfl⟩;obtain ⟨dc,hdc⟩:∃ dc,dc=decB n:=⟨_,rfl⟩;rw [<- hus] at HU;rw [<- hdc] at HD hdz;have Hus:Hid (us=usr (k / 4 % 16 % 5)):=hus;have Hdc:Hid (dc=decB n):=hdc;clear hus hdc;have hr1:=hA1.out.r;have hrf:Below w1.heap.size w1 w1:=kB;obtain ⟨qx,hqx⟩:∃ qx,qx=qwB.extract j14 (j14+1):=⟨_,rfl⟩;have hqz:qx.size<=1:=by rw [hqx,ByteArray.size_extract];omega
 have hcat1:¬ 9223372036854775807<1+qx.size:=by omega
 have hcat2:¬ 9223372036854775807<1+qx.size+dc.size:=by omega
 have hsl:(⟨#[113,119,101,114,116,121,117,105,111,112,97,115,100,102]⟩:ByteArray).extract j14 (j14+1)=qx:=hqx.symm;have Hqx:Hid (qx=qwB.extract j14 (j14+1)):=hqx;clear hqx;have e1:IntKind.i64.wrap ((k:Int)+(n:Int))=(k:Int)+(n:Int):=by rw [IntKind.wrap_i64];omega
 have e2:((k:Int)+(n:Int)).tmod 14=((j14:Nat):Int):=by rw [Int.tmod_eq_emod_of_nonneg (by omega)];omega
 have e3:IntKind.i64.wrap ((j14:Int)+1)=(j14:Int)+1:=by rw [IntKind.wrap_i64];omega
 have e4:IntKind.i64.wrap (Int.tdiv (k:Int) 4)=(k:Int) / 4:=by rw [Int.tdiv_eq_ediv_of_nonneg (by omega),IntKind.wrap_i64];omega
 have e4b:IntKind.i64.wrap ((k:Int) / 4)=(k:Int) / 4:=by rw [IntKind.wrap_i64];omega
 have e5:((k:Int) / 4).tmod 16=(k:Int) / 4 % 16:=Int.tmod_eq_emod_of_nonneg (by omega);have e6:((k:Int) / 4 % 16).tmod 5=(k:Int) / 4 % 16 % 5:=Int.tmod_eq_emod_of_nonneg (by omega);have e7:(k:Int).tmod 7=(k:Int) % 7:=Int.tmod_eq_emod_of_nonneg (by omega);have e8:IntKind.i64.wrap (100+(k:Int) % 7)=100+(k:Int) % 7:=by rw [IntKind.wrap_i64];omega
 have g1:(0:Int)<=(j14:Int)+1:=by omega
 have g2:(j14:Int)+1<=14:=by omega
 have g3:(j14:Int)<=(j14:Int)+1:=by omega
 have g4:((j14:Int)+1).toNat=j14+1:=by omega
 go_wp2_with fail
 go_cut [9] from 20 to 192 (fun pv wx=>∃ B,pv=.pointer (some ⟨B,0,none⟩)∧GvB p w wx bs m (nxQ m q) (.slice (some ⟨be,oe,none⟩) n cap) B (fun o=>(#[.string (⟨#[36]⟩ ++ qx ++ dc),.string us,.string ⟨#[]⟩,.bool false,.string ⟨#[]⟩,.int .i64 (100+(k:Int) % 7),.slice none 0 0,.slice none 0 0,.string ⟨#[]⟩,.slice none 0 0]:Array Value)[o]?.getD undef))
 case first =>
  clear hr1 HKh Hf Hroom Hqx Hus Hdc Hj Hk;refine wp_region_held_drew (S:=fun _=>True) (by kernel_rfl) ?_ (fun hHeld=>?_)
  ·(try dsimp only);all_goals trivial
  refine tq 0 rfl ?_;simp only [si];refine tq 1 rfl ?_;simp only [si];refine tq 2 rfl ?_;simp only [si];refine tq 3 rfl ?_;simp only [si];refine tq 4 rfl ?_;simp only [si];refine tq 5 rfl ?_;simp only [si];refine tq 6 rfl ?_;simp only [si];refine tq 7 rfl ?_;simp only [si];refine tq 8 rfl ?_;simp only [si];refine tq 9 rfl ?_;simp only [si];refine tq 10 rfl ?_;simp only [si];refine tq 11 rfl ?_;simp only [si];refine tq 14 rfl ?_;simp only [si];refine tq 15 rfl ?_;simp only [si];refine tq 16 rfl ?_;simp only [si];refine tq 17 rfl ?_;simp only [si];refine tq 19 rfl ?_;simp only [si];refine tq 20 rfl ?_;simp only [si];refine tq 21 rfl ?_;simp only [si];refine wpAnyH_ready (rs:=[12,23]) (by kernel_rfl) (by simp) ?_;refine AllReadyH.cons rfl (fun K hK=>?_) (AllReadyH.cons rfl (fun K hK=>?_) AllReadyH.nil)
  ·go_simp
   go_at_call 123
   refine (HD.out _).mono ?_;rintro e w2 ⟨rfl,hb2'⟩;have hb2:Below w1.heap.size w1 w2:=Below.trans (by with_reducible (repeat refine .drew ?_);exact hrf) (hb2'.mono (by first|exact nL|exact hrf.size));try dsimp only
   refine hK.out _ _ ?_ (fun hHeld=>?_)
   ·(try dsimp only);all_goals trivial
   clear hK K;try simp only [si]
   refine tq 13 rfl ?_;simp only [si];refine wpAnyH_ready (rs:=[18,23]) (by kernel_rfl) (by simp) ?_;refine AllReadyH.cons rfl (fun K hK=>?_) (AllReadyH.cons rfl (fun K hK=>?_) AllReadyH.nil)
   ·go_simp
    go_at_call 124
    refine (HU.out _).mono ?_;rintro e w3 ⟨rfl,hb3'⟩;have hb3:Below w1.heap.size w1 w3:=Below.trans (by with_reducible (repeat refine .drew ?_);exact hb2) (hb3'.mono (by first|exact nL|exact hb2.size));try dsimp only
    refine hK.out _ _ ?_ (fun hHeld=>?_)
    ·(try dsimp only);all_goals trivial
    clear hK K;try simp only [si]
    refine tq 22 rfl ?_;simp only [si];refine rd 23 rfl fun K hK=>?_
    go_simp;refine hK.out _ _ ?_ (fun hHeld=>?_)
    ·(try dsimp only);all_goals trivial
    clear hK K;try simp only [si]
    refine rd 24 rfl fun K hK=>?_
    go_simp;refine hK.out _ _ ?_ (fun hHeld=>?_)
    ·(try dsimp only);all_goals trivial
    clear hK K;try simp only [si]
    refine wpAnyH_done (by kernel_rfl) ?_ _
    (try go_wp2_with fail)
    go_meet;exact ⟨_,rfl,by first|exact gvB_new (hA1.out.below hb3) rfl|exact gvB_new (hA1.out.below hb3.drew) rfl⟩
   go_simp;refine hK.out _ _ ?_ (fun hHeld=>?_)
   ·(try dsimp only);all_goals trivial
   clear hK K;try simp only [si]
   refine rd 18 rfl fun K hK=>?_
   go_simp
   go_at_call 124
   refine (HU.out _).mono ?_;rintro e w3 ⟨rfl,hb3'⟩
   first|(have hb3:Below (w2.alloc (.cells #[.string ⟨#[]⟩,.string ⟨#[]⟩,.string ⟨#[]⟩,.bool false,.string ⟨#[]⟩,.int .i64 0,.slice none 0 0,.slice none 0 0,.string ⟨#[]⟩,.slice none 0 0] 30)).heap.size (w2.alloc (.cells #[.string ⟨#[]⟩,.string ⟨#[]⟩,.string ⟨#[]⟩,.bool false,.string ⟨#[]⟩,.int .i64 0,.slice none 0 0,.slice none 0 0,.string ⟨#[]⟩,.slice none 0 0] 30)) w3:=by first|exact hb3'|exact kB.drew.trans (hb3'.mono nL))|have hb3:=hb3'
   try dsimp only
   refine hK.out _ _ ?_ (fun hHeld=>?_)
   ·(try dsimp only);all_goals trivial
   clear hK K;try simp only [si]
   refine tq 22 rfl ?_;simp only [si];have hG:=(gvB_new (t:=30) (cs:=#[.string ⟨#[]⟩,.string ⟨#[]⟩,.string ⟨#[]⟩,.bool false,.string ⟨#[]⟩,.int .i64 0,.slice none 0 0,.slice none 0 0,.string ⟨#[]⟩,.slice none 0 0]) (hA1.out.below hb2) rfl).below hb3;have y0:=hG.b 0 (by decide);have y1:=hG.b 1 (by decide);have y2:=hG.b 2 (by decide);have y3:=hG.b 3 (by decide);have y4:=hG.b 4 (by decide);have y5:=hG.b 5 (by decide);have y6:=hG.b 6 (by decide);have y7:=hG.b 7 (by decide);have y8:=hG.b 8 (by decide);have y9:=hG.b 9 (by decide);have hfz:=hG.f0;clear hG;refine rd 24 rfl fun K hK=>?_
   go_simp;refine hK.out _ _ ?_ (fun hHeld=>?_)
   ·(try dsimp only);all_goals trivial
   clear hK K;try simp only [si]
   refine wpAnyH_done (by kernel_rfl) ?_ _
   (try go_wp2_with fail)
   go_meet;exact ⟨_,rfl,by first|exact gvB_fill (.string (⟨#[36]⟩ ++ qx ++ dc)) (.string us) (.string ⟨#[]⟩) (.bool false) (.string ⟨#[]⟩) (.int .i64 (100+(k:Int) % 7)) (.slice none 0 0) (.slice none 0 0) (.string ⟨#[]⟩) (.slice none 0 0) (hA1.out.below hb2) hp rfl hb3|exact (gvB_fill (.string (⟨#[36]⟩ ++ qx ++ dc)) (.string us) (.string ⟨#[]⟩) (.bool false) (.string ⟨#[]⟩) (.int .i64 (100+(k:Int) % 7)) (.slice none 0 0) (.slice none 0 0) (.string ⟨#[]⟩) (.slice none 0 0) (hA1.out.below hb2) hp rfl hb3).below kB.drew⟩
  go_simp;refine hK.out _ _ ?_ (fun hHeld=>?_)
  ·(try dsimp only);all_goals trivial
  clear hK K;try simp only [si]
  refine rd 12 rfl fun K hK=>?_
  go_simp
  go_at_call 123
  refine (HD.out _).mono ?_;rintro e w2 ⟨rfl,hb2'⟩
  first|(have hb2:Below (w1.alloc (.cells #[.string ⟨#[]⟩,.string ⟨#[]⟩,.string ⟨#[]⟩,.bool false,.string ⟨#[]⟩,.int .i64 0,.slice none 0 0,.slice none 0 0,.string ⟨#[]⟩,.slice none 0 0] 30)).heap.size (w1.alloc (.cells #[.string ⟨#[]⟩,.string ⟨#[]⟩,.string ⟨#[]⟩,.bool false,.string ⟨#[]⟩,.int .i64 0,.slice none 0 0,.slice none 0 0,.string ⟨#[]⟩,.slice none 0 0] 30)) w2:=by first|exact hb2'|exact kB.drew.trans (hb2'.mono nL))|have hb2:=hb2'
  try dsimp only
  refine hK.out _ _ ?_ (fun hHeld=>?_)
  ·(try dsimp only);all_goals trivial
  clear hK K;try simp only [si]
  refine tq 13 rfl ?_;simp only [si];refine rd 18 rfl fun K hK=>?_
  go_simp
  go_at_call 124
  refine (HU.out _).mono ?_;rintro e w3 ⟨rfl,hb3'⟩;have hb3:=hb2.trans (hb3'.mono hb2.size);try dsimp only
  refine hK.out _ _ ?_ (fun hHeld=>?_)
  ·(try dsimp only);all_goals trivial
  clear hK K;try simp only [si]
  refine tq 22 rfl ?_;simp only [si];have hG:=(gvB_new (t:=30) (cs:=#[.string ⟨#[]⟩,.string ⟨#[]⟩,.string ⟨#[]⟩,.bool false,.string ⟨#[]⟩,.int .i64 0,.slice none 0 0,.slice none 0 0,.string ⟨#[]⟩,.slice none 0 0]) (hA1.out.below hrf) rfl).below hb3;have y0:=hG.b 0 (by decide);have y1:=hG.b 1 (by decide);have y2:=hG.b 2 (by decide);have y3:=hG.b 3 (by decide);have y4:=hG.b 4 (by decide);have y5:=hG.b 5 (by decide);have y6:=hG.b 6 (by decide);have y7:=hG.b 7 (by decide);have y8:=hG.b 8 (by decide);have y9:=hG.b 9 (by decide);have hfz:=hG.f0;clear hG;refine rd 24 rfl fun K hK=>?_
  go_simp;refine hK.out _ _ ?_ (fun hHeld=>?_)
  ·(try dsimp only);all_goals trivial
  clear hK K;try simp only [si]
  refine wpAnyH_done (by kernel_rfl) ?_ _
  (try go_wp2_with fail)
  go_meet;exact ⟨_,rfl,by first|exact gvB_fill (.string (⟨#[36]⟩ ++ qx ++ dc)) (.string us) (.string ⟨#[]⟩) (.bool false) (.string ⟨#[]⟩) (.int .i64 (100+(k:Int) % 7)) (.slice none 0 0) (.slice none 0 0) (.string ⟨#[]⟩) (.slice none 0 0) (hA1.out.below hrf) hp rfl hb3|exact (gvB_fill (.string (⟨#[36]⟩ ++ qx ++ dc)) (.string us) (.string ⟨#[]⟩) (.bool false) (.string ⟨#[]⟩) (.int .i64 (100+(k:Int) % 7)) (.slice none 0 0) (.slice none 0 0) (.string ⟨#[]⟩) (.slice none 0 0) (hA1.out.below hrf) hp rfl hb3).below kB.drew⟩
 case rest =>
  obtain ⟨B,rfl,hG⟩:=hcut;obtain ⟨w5,hw5⟩:∃ w5:World,w5=wc:=⟨_,rfl⟩;subst hw5;obtain ⟨ic,hic⟩:∃ ic,ic=(⟨#[36]⟩:ByteArray) ++ qx ++ dc:=⟨_,rfl⟩;rw [<- hic] at hG;have Hic:Hid (ic=gwId k n):=by unfold Hid gwId;rw [hic,Hqx.out,Hdc.out,Hj.out]
  have hiz:ic.size<=100:=by rw [hic,ByteArray.size_append,ByteArray.size_append];show 1+qx.size+dc.size<=100;omega
  have huz:us.size<=100:=by rw [Hus.out];rw [usr_size];decide
  have H5:Hid (GvB p w w5 bs m (nxQ m q) (.slice (some ⟨be,oe,none⟩) n cap) B (fun o=>(#[.string ic,.string us,.string ⟨#[]⟩,.bool false,.string ⟨#[]⟩,.int .i64 (100+(k:Int) % 7),.slice none 0 0,.slice none 0 0,.string ⟨#[]⟩,.slice none 0 0]:Array Value)[o]?.getD undef)):=hG;have hlo:=hG.lo;have HkB:=Hk
  apply_assumption
  exact l2GwB p w w5 hp hn h300 hk Hk Hic hiz Hus hna hna2 hcapn Hroom Hf HKh hlo H5
variable {W w w':World}{e:Ev}{t:Ls}{row:Option Nat}{ca cg cp base:Nat}{M S:Nat->ByteArray}{aa ga pa:Option Addr}
structure QO (w:World)(e:Ev)(t:Ls):Prop where
 j:QJ w e t
 p:OwnT w t.lo (.slice t.pa e.np t.cp) e.np e.Pv
 a:OwnT w t.lo (.slice t.aa e.na t.ca) e.na e.Av
 g:OwnG w t.lo (.slice t.ga e.ng t.cg) e.ng e.M e.L
 d:∀ b,(Value.slice t.pa e.np t.cp).ownBlock=some b->(Value.slice t.aa e.na t.ca).ownBlock≠some b
 h:∀ b,((Value.slice t.pa e.np t.cp).ownBlock=some b∨(Value.slice t.aa e.na t.ca).ownBlock=some b∨(Value.slice t.ga e.ng t.cg).ownBlock=some b)->b<t.hi
theorem QO.grown (h:QO w e t)(hg:w.grownBy w' row)(hr:∀ b,row=some b->b<t.lo∨t.hi<=b):QO w' e t:=by
 have k1:∀ b,t.lo<=b->b<t.hi->b<w.heap.size->w'.heap[b]?=w.heap[b]?:=fun b h1 h2 hl=>hg.block b hl (fun q=>by have:=hr b q.symm;omega)
 exact ⟨qcJ.grown h.j hg hr,ownsRow_k h.p (fun b hb hl=>k1 b (ownsRow_blk h.p b hb).1 (h.h b (Or.inl hb)) hl),ownsRow_k h.a (fun b hb hl=>k1 b (ownsRow_blk h.a b hb).1 (h.h b (Or.inr (Or.inl hb))) hl),ownsRow_k h.g (fun b hb hl=>k1 b (ownsRow_blk h.g b hb).1 (h.h b (Or.inr (Or.inr hb))) hl),h.d,h.h⟩
theorem qcO:QC QO:=⟨fun h hb=>⟨qcJ.below h.j hb,h.p.below hb,h.a.below hb,h.g.below hb,h.d,h.h⟩,fun h hg hr=>h.grown hg hr,fun h=>h.j.ok,fun h=>h.j.hh⟩
theorem qsO {C j:Nat}{x:Value}(h:QO w e t)(hC:C<t.lo∨t.hi<=C):QO (w.setCell ⟨C,j,none⟩ x) e t:=h.grown (Lib.grownBy_setCell w C j x) (fun b hb=>by injection hb with hb;subst hb;exact hC)
theorem apS_own {a:Option Addr}{g:Nat}(hr:n * 16<=140737488355328)(h:SlS W a n cap S)(hown:OwnT W base (.slice (some ⟨g,0,none⟩) 0 0) 0 S)(hb:base<=W.heap.size) :
  ∃ a' c' w',(Builtin.append_ #[27,27] 27 #[.slice (some ⟨g,0,none⟩) 0 0,.slice a n cap]).run Tryz.prog W=.ok (.slice a' n c') w'∧SlS w' a' n c' S∧Iv a' n base w'.heap.size∧Bk a' n g W.heap.size∧W.grownBy w' (some g)∧OwnT w' base (.slice a' n c') n S∧((Value.slice a' n c').ownBlock=some g∨(Value.slice a' n c').ownBlock=some W.heap.size):=by
 obtain ⟨i0,hi,hz0,hz1,hz2⟩:=info_parts Tryz.infoString;have hn:n<=maxLen:=nZ h.le h.max
 cases a with
 | none =>
  have hn0:n=0:=by
   rcases h.cells with h0|⟨b,off,e,_⟩
   ·exact h0
   cases e
  subst hn0;have hap:=run_append_room_src (P:=Tryz.prog) (w:=W) 27 27 27 9 i0 Tryz.underlying27 hi g 0 0 0 (.slice none 0 cap) 0 [] (Src.ofNil _ Tryz.underlying27 cap) nL (fun j hj=>absurd hj (Nat.not_lt_zero _)) (fun j hj=>absurd hj (Nat.not_lt_zero _));simp only [World.setCells,Nat.add_zero] at hap
  exact ⟨_,_,_,hap,⟨nL,by decide,h.size,Or.inl rfl⟩,Or.inl rfl,Or.inl rfl,grown_refl _ _,hown,Or.inl rfl⟩
 | some ad =>
  have hsrc:∀ j u,(strs S n)[j]?=some u->W.cell? (ad.add j)=some u:=fun j u hj=>by
   rcases h.cells with rfl|⟨b,off,e,hb,hc⟩
   ·cases hj
   injection e with e
   subst e;exact strs_src hc j u hj
  obtain ⟨v',w',hrun,h2,h3,-,h5⟩:=run_append_own_at (P:=Tryz.prog) W base 27 27 9 i0 (.string ByteArray.empty) 1 16 Tryz.underlying27 hi hz0 hz1 hz2 rfl (by decide) _ _ _ hown ad n cap (strs S n) (by rw [strs_len,Nat.mul_one]) hsrc (strs_one S n) (by rw [Nat.zero_add];exact hn) (by rw [Nat.zero_add];exact hr) hb
  have hown':OwnT w' base v' n S:=by
   unfold OwnT;rw [Nat.zero_add] at h2;exact h2
  obtain ⟨a',c',rfl,q1,q2⟩:=hown'.slw h.size;exact ⟨a',c',w',hrun,q1,q2.iv,Bk.of q2.iv h5,h3,hown',h5⟩
theorem apG_own {a:Option Addr}{g:Nat}{L:Nat->Int}(hr:n * 24<=140737488355328)(h:SlG W a n cap M L)(hown:OwnG W base (.slice (some ⟨g,0,none⟩) 0 0) 0 M L)(hb:base<=W.heap.size) :
  ∃ a' c' w',(Builtin.append_ #[28,28] 28 #[.slice (some ⟨g,0,none⟩) 0 0,.slice a n cap]).run Tryz.prog W=.ok (.slice a' n c') w'∧SlG w' a' n c' M L∧Iv a' n base w'.heap.size∧Bk a' n g W.heap.size∧W.grownBy w' (some g)∧OwnG w' base (.slice a' n c') n M L∧((Value.slice a' n c').ownBlock=some g∨(Value.slice a' n c').ownBlock=some W.heap.size):=by
 obtain ⟨i0,hi,hz0,hz1,hz2⟩:=info_parts Tryz.infoGrant;have hn:n<=maxLen:=nZ h.le h.max
 cases a with
 | none =>
  have hn0:n=0:=by
   rcases h.cells with h0|⟨b,off,e,_⟩
   ·exact h0
   cases e
  subst hn0;have hap:=run_append_room_src (P:=Tryz.prog) (w:=W) 28 28 28 166 i0 Tryz.underlying28 hi g 0 0 0 (.slice none 0 cap) 0 [] (Src.ofNil _ Tryz.underlying28 cap) nL (fun j hj=>absurd hj (Nat.not_lt_zero _)) (fun j hj=>absurd hj (Nat.not_lt_zero _));simp only [World.setCells,Nat.add_zero] at hap
  exact ⟨_,_,_,hap,⟨nL,by decide,h.size,Or.inl rfl⟩,Or.inl rfl,Or.inl rfl,grown_refl _ _,hown,Or.inl rfl⟩
 | some ad =>
  have hsrc:∀ j u,(encG M L n)[j]?=some u->W.cell? (ad.add j)=some u:=fun j u hj=>by
   rcases h.cells with rfl|⟨b,off,e,hb,h1,h2⟩
   ·cases hj
   injection e with e
   subst e;exact encG_src h1 h2 j u hj
  obtain ⟨v',w',hrun,h2,h3,-,h5⟩:=run_append_own_at (P:=Tryz.prog) W base 28 28 166 i0 (.agg #[.string ByteArray.empty,.int .i64 0]) 2 24 Tryz.underlying28 hi hz0 hz1 hz2 rfl (by decide) _ _ _ hown ad n cap (encG M L n) (encG_len M L n) hsrc (encG_one M L n) (by rw [Nat.zero_add];exact hn) (by rw [Nat.zero_add];exact hr) hb
  have hown':OwnG w' base v' n M L:=by
   unfold OwnG;rw [Nat.zero_add] at h2;exact h2
  obtain ⟨a',c',rfl,q1,q2⟩:=hown'.slw h.size;exact ⟨a',c',w',hrun,q1,q2.iv,Bk.of q2.iv h5,h3,hown',h5⟩
theorem l2CpO_any (e:Ev)(w:World)(hr:EvReach e)(he:EvOk w e pa cp aa ca ga cg) :
  Calls Tryz.prog 187 #[.agg (ec e pa cp aa ca ga cg)] w (CpQ QO w e):=by
 obtain ⟨hr1,hr2,hr3⟩:=hr;have hE0:CE w w.heap.size (ec e pa cp aa ca ga cg) ((w.alloc (.cells (ec e pa cp aa ca ga cg) 30)).alloc (.cells #[.string ⟨#[]⟩,.string ⟨#[]⟩,.string ⟨#[]⟩,.bool false,.string ⟨#[]⟩,.int .i64 0,.slice none 0 0,.slice none 0 0,.string ⟨#[]⟩,.slice none 0 0] 30)):=CE.start rfl;have hbE:Below ((w.alloc (.cells (ec e pa cp aa ca ga cg) 30)).alloc (.cells #[.string ⟨#[]⟩,.string ⟨#[]⟩,.string ⟨#[]⟩,.bool false,.string ⟨#[]⟩,.int .i64 0,.slice none 0 0,.slice none 0 0,.string ⟨#[]⟩,.slice none 0 0] 30)).heap.size ((w.alloc (.cells (ec e pa cp aa ca ga cg) 30)).alloc (.cells #[.string ⟨#[]⟩,.string ⟨#[]⟩,.string ⟨#[]⟩,.bool false,.string ⟨#[]⟩,.int .i64 0,.slice none 0 0,.slice none 0 0,.string ⟨#[]⟩,.slice none 0 0] 30)) (((((w.alloc (.cells (ec e pa cp aa ca ga cg) 30)).alloc (.cells #[.string ⟨#[]⟩,.string ⟨#[]⟩,.string ⟨#[]⟩,.bool false,.string ⟨#[]⟩,.int .i64 0,.slice none 0 0,.slice none 0 0,.string ⟨#[]⟩,.slice none 0 0] 30)).alloc (.cells #[] 9)).alloc (.cells #[] 9)).alloc (.cells #[] 166)):=(bA.alloc (by simp) _).alloc (by simp) _;have hE:CE w w.heap.size (ec e pa cp aa ca ga cg) (((((w.alloc (.cells (ec e pa cp aa ca ga cg) 30)).alloc (.cells #[.string ⟨#[]⟩,.string ⟨#[]⟩,.string ⟨#[]⟩,.bool false,.string ⟨#[]⟩,.int .i64 0,.slice none 0 0,.slice none 0 0,.string ⟨#[]⟩,.slice none 0 0] 30)).alloc (.cells #[] 9)).alloc (.cells #[] 9)).alloc (.cells #[] 166)):=hE0.mono hbE;have hsE:(((((w.alloc (.cells (ec e pa cp aa ca ga cg) 30)).alloc (.cells #[.string ⟨#[]⟩,.string ⟨#[]⟩,.string ⟨#[]⟩,.bool false,.string ⟨#[]⟩,.int .i64 0,.slice none 0 0,.slice none 0 0,.string ⟨#[]⟩,.slice none 0 0] 30)).alloc (.cells #[] 9)).alloc (.cells #[] 9)).alloc (.cells #[] 166)).heap.size=w.heap.size+1+1+1+1+1:=by simp
 have o1:OwnT (((((w.alloc (.cells (ec e pa cp aa ca ga cg) 30)).alloc (.cells #[.string ⟨#[]⟩,.string ⟨#[]⟩,.string ⟨#[]⟩,.bool false,.string ⟨#[]⟩,.int .i64 0,.slice none 0 0,.slice none 0 0,.string ⟨#[]⟩,.slice none 0 0] 30)).alloc (.cells #[] 9)).alloc (.cells #[] 9)).alloc (.cells #[] 166)) (w.heap.size+2) (.slice (some ⟨w.heap.size+1+1,0,none⟩) 0 0) 0 e.Pv:=by
  have:=OwnT.new ((w.alloc (.cells (ec e pa cp aa ca ga cg) 30)).alloc (.cells #[.string ⟨#[]⟩,.string ⟨#[]⟩,.string ⟨#[]⟩,.bool false,.string ⟨#[]⟩,.int .i64 0,.slice none 0 0,.slice none 0 0,.string ⟨#[]⟩,.slice none 0 0] 30)) (w.heap.size+2) (by simp) e.Pv;simp only [World.size_alloc] at this;exact (this.below bA).below bA
 have o2:OwnT (((((w.alloc (.cells (ec e pa cp aa ca ga cg) 30)).alloc (.cells #[.string ⟨#[]⟩,.string ⟨#[]⟩,.string ⟨#[]⟩,.bool false,.string ⟨#[]⟩,.int .i64 0,.slice none 0 0,.slice none 0 0,.string ⟨#[]⟩,.slice none 0 0] 30)).alloc (.cells #[] 9)).alloc (.cells #[] 9)).alloc (.cells #[] 166)) (w.heap.size+2) (.slice (some ⟨w.heap.size+1+1+1,0,none⟩) 0 0) 0 e.Av:=by
  have:=OwnT.new (((w.alloc (.cells (ec e pa cp aa ca ga cg) 30)).alloc (.cells #[.string ⟨#[]⟩,.string ⟨#[]⟩,.string ⟨#[]⟩,.bool false,.string ⟨#[]⟩,.int .i64 0,.slice none 0 0,.slice none 0 0,.string ⟨#[]⟩,.slice none 0 0] 30)).alloc (.cells #[] 9)) (w.heap.size+2) (by simp) e.Av;simp only [World.size_alloc] at this;exact this.below bA
 have o3:OwnG (((((w.alloc (.cells (ec e pa cp aa ca ga cg) 30)).alloc (.cells #[.string ⟨#[]⟩,.string ⟨#[]⟩,.string ⟨#[]⟩,.bool false,.string ⟨#[]⟩,.int .i64 0,.slice none 0 0,.slice none 0 0,.string ⟨#[]⟩,.slice none 0 0] 30)).alloc (.cells #[] 9)).alloc (.cells #[] 9)).alloc (.cells #[] 166)) (w.heap.size+2) (.slice (some ⟨w.heap.size+1+1+1+1,0,none⟩) 0 0) 0 e.M e.L:=by
  have:=OwnG.new ((((w.alloc (.cells (ec e pa cp aa ca ga cg) 30)).alloc (.cells #[.string ⟨#[]⟩,.string ⟨#[]⟩,.string ⟨#[]⟩,.bool false,.string ⟨#[]⟩,.int .i64 0,.slice none 0 0,.slice none 0 0,.string ⟨#[]⟩,.slice none 0 0] 30)).alloc (.cells #[] 9)).alloc (.cells #[] 9)) (w.heap.size+2) (by simp) e.M e.L;simp only [World.size_alloc] at this;exact this
 obtain ⟨a1,c1,w1,hap1,s1,v1,k1,g1,p1,r1⟩:=apS_own (base:=w.heap.size+2) (by omega) (he.hp.below hE.below) o1 (by omega);have hE1:=hE.grown g1 (by omega);have hE1s:=hE1.set 6 (by simp) (.slice a1 e.np c1);have z1:(((((w.alloc (.cells (ec e pa cp aa ca ga cg) 30)).alloc (.cells #[.string ⟨#[]⟩,.string ⟨#[]⟩,.string ⟨#[]⟩,.bool false,.string ⟨#[]⟩,.int .i64 0,.slice none 0 0,.slice none 0 0,.string ⟨#[]⟩,.slice none 0 0] 30)).alloc (.cells #[] 9)).alloc (.cells #[] 9)).alloc (.cells #[] 166)).heap.size<=w1.heap.size:=g1.size
 have o2b:OwnT (w1.setCell ⟨w.heap.size,6,none⟩ (.slice a1 e.np c1)) (w.heap.size+2) (.slice (some ⟨w.heap.size+1+1+1,0,none⟩) 0 0) 0 e.Av:=own_kept o2 (fun g hg=>by
  have hg2:some (w.heap.size+1+1+1)=some g:=hg;injection hg2 with hg2
  subst hg2;rw [Below.heap_setCell _ _ _ _ (by show w.heap.size+1+1+1≠w.heap.size;omega)];exact g1.block _ (by omega) (fun e=>by injection e;omega))
 have o3b:OwnG (w1.setCell ⟨w.heap.size,6,none⟩ (.slice a1 e.np c1)) (w.heap.size+2) (.slice (some ⟨w.heap.size+1+1+1+1,0,none⟩) 0 0) 0 e.M e.L:=own_kept o3 (fun g hg=>by
  have hg2:some (w.heap.size+1+1+1+1)=some g:=hg;injection hg2 with hg2
  subst hg2;rw [Below.heap_setCell _ _ _ _ (by show w.heap.size+1+1+1+1≠w.heap.size;omega)];exact g1.block _ (by omega) (fun e=>by injection e;omega))
 have y1:(w1.setCell ⟨w.heap.size,6,none⟩ (.slice a1 e.np c1)).heap.size=w1.heap.size:=by simp [World.setCell]
 obtain ⟨a2,c2,w2,hap2,s2,v2,k2,g2,p2,r2⟩:=apS_own (base:=w.heap.size+2) (by omega) (he.ha.below hE1s.below) o2b (by omega);have hE2:=hE1s.grown g2 (by omega);have hE2s:=hE2.set 7 (by simp) (.slice a2 e.na c2);have z2:w1.heap.size<=w2.heap.size:=by have:=g2.size;omega
 have o3c:OwnG (w2.setCell ⟨w.heap.size,7,none⟩ (.slice a2 e.na c2)) (w.heap.size+2) (.slice (some ⟨w.heap.size+1+1+1+1,0,none⟩) 0 0) 0 e.M e.L:=own_kept o3b (fun g hg=>by
  have hg2:some (w.heap.size+1+1+1+1)=some g:=hg;injection hg2 with hg2
  subst hg2;rw [Below.heap_setCell _ _ _ _ (by show w.heap.size+1+1+1+1≠w.heap.size;omega)];exact g2.block _ (by omega) (fun e=>by injection e;omega))
 have y2:(w2.setCell ⟨w.heap.size,7,none⟩ (.slice a2 e.na c2)).heap.size=w2.heap.size:=by simp [World.setCell]
 obtain ⟨a3,c3,w3,hap3,s3,v3,k3,g3,p3,r3⟩:=apG_own (base:=w.heap.size+2) (by omega) (he.hg.below hE2s.below) o3c (by omega);have hE3:=hE2s.grown g3 (by omega);have z3:w2.heap.size<=w3.heap.size:=by have:=g3.size;omega
 have HJ:Hid (QJ w3 e ⟨a1,c1,a2,c2,a3,c3,w.heap.size+2,0,0,w3.heap.size⟩):=by
  have P1:SlS (w1.setCell ⟨w.heap.size,6,none⟩ (.slice a1 e.np c1)) a1 e.np c1 e.Pv:=s1.setF v1 (Or.inl (by omega)) _;have P2:SlS w2 a1 e.np c1 e.Pv:=P1.grownN g2 k1 (by omega) (by omega);have P3:SlS (w2.setCell ⟨w.heap.size,7,none⟩ (.slice a2 e.na c2)) a1 e.np c1 e.Pv:=P2.setF v1 (Or.inl (by omega)) _;have P4:SlS w3 a1 e.np c1 e.Pv:=P3.grownN g3 k1 (by omega) (by omega);have Q3:SlS (w2.setCell ⟨w.heap.size,7,none⟩ (.slice a2 e.na c2)) a2 e.na c2 e.Av:=s2.setF v2 (Or.inl (by omega)) _;have Q4:SlS w3 a2 e.na c2 e.Av:=Q3.grownN g3 k2 (by omega) (by omega);exact ⟨⟨he.hid,he.hsd,he.hty,he.hkey,he.hval,P4,Q4,s3⟩,v1.wide nL (by show _<=w3.heap.size;omega),v2.wide nL (by show _<=w3.heap.size;omega),v3,by show w.heap.size+2<=w3.heap.size;omega,nL⟩
 have HO:Hid (QO w3 e ⟨a1,c1,a2,c2,a3,c3,w.heap.size+2,0,0,w3.heap.size⟩):=by
  have e1:∀ b,(Value.slice a1 e.np c1).ownBlock=some b->w.heap.size+2<=b∧b<w1.heap.size∧b≠w.heap.size+1+1+1∧b≠w.heap.size+1+1+1+1:=fun b hb=>by
   have q:=ownsRow_blk p1 b hb;rcases r1 with r|r
   ·rw [hb] at r;injection r with r;omega
   rw [hb] at r;injection r with r;rw [hsE] at r;omega
  have e2:∀ b,(Value.slice a2 e.na c2).ownBlock=some b->w.heap.size+2<=b∧b<w2.heap.size∧b≠w.heap.size+1+1+1+1∧(b=w.heap.size+1+1+1∨w1.heap.size<=b):=fun b hb=>by
   have q:=ownsRow_blk p2 b hb;rcases r2 with r|r
   ·rw [hb] at r;injection r with r;omega
   rw [hb] at r;injection r with r;rw [y1] at r;omega
  have e3:∀ b,(Value.slice a3 e.ng c3).ownBlock=some b->w.heap.size+2<=b∧b<w3.heap.size:=fun b hb=>ownsRow_blk p3 b hb
  have P1:=ownsRow_k p1 (w':=w1.setCell ⟨w.heap.size,6,none⟩ (.slice a1 e.np c1)) (fun b hb _=>Below.heap_setCell _ _ _ _ (by have:=e1 b hb;show b≠w.heap.size;omega));have P2:=ownsRow_k P1 (w':=w2) (fun b hb hl=>g2.block b hl (fun q=>by have:=e1 b hb;injection q with q;omega));have P3:=ownsRow_k P2 (w':=w2.setCell ⟨w.heap.size,7,none⟩ (.slice a2 e.na c2)) (fun b hb _=>Below.heap_setCell _ _ _ _ (by have:=e1 b hb;show b≠w.heap.size;omega));have P4:=ownsRow_k P3 (w':=w3) (fun b hb hl=>g3.block b hl (fun q=>by have:=e1 b hb;injection q with q;omega));have Q3:=ownsRow_k p2 (w':=w2.setCell ⟨w.heap.size,7,none⟩ (.slice a2 e.na c2)) (fun b hb _=>Below.heap_setCell _ _ _ _ (by have:=e2 b hb;show b≠w.heap.size;omega));have Q4:=ownsRow_k Q3 (w':=w3) (fun b hb hl=>g3.block b hl (fun q=>by have:=e2 b hb;injection q with q;omega));refine ⟨HJ.out,P4,Q4,p3,fun b hb hb'=>?_,fun b hb=>?_⟩
  ·have q1:=e1 b hb
   have q2:=e2 b hb';omega
  show b<w3.heap.size
  rcases hb with hb|hb|hb
  ·have:=e1 b hb;omega
  ·have:=e2 b hb;omega
  exact (e3 b hb).2
 have A0:=hE.a0;have F0:=hE.f0;have A1:=hE1.a0;have F1:=hE1.f0;have A2:=hE2.a0;have F2:=hE2.f0;have A3:=hE3.a0;have F3:=hE3.f0;have b1:=hE3.a1;have f1:=hE3.f1;obtain ⟨x0,y0⟩:=b1 0 (by decide);obtain ⟨x1,y1'⟩:=b1 1 (by decide);obtain ⟨x2,y2'⟩:=b1 2 (by decide);obtain ⟨x3,y3⟩:=b1 3 (by decide);obtain ⟨x4,y4⟩:=b1 4 (by decide);obtain ⟨x5,y5⟩:=b1 5 (by decide);obtain ⟨x6,y6⟩:=b1 6 (by decide);obtain ⟨x7,y7⟩:=b1 7 (by decide);obtain ⟨x8,y8⟩:=b1 8 (by decide);obtain ⟨x9,y9⟩:=b1 9 (by decide);have hb3:=hE3.below;clear HJ p1 p2 p3 r1 r2 r3 b1 hE0 hbE hE hE1 hE2 hE3 hE1s hE2s o1 o2 o3 o2b o3b o3c s1 s2 s3 v1 v2 v3 k1 k2 k3 g1 g2 g3 he y1 y2 hsE
 go_enter Tryz.func187,Tryz.ntmps187
 go_wp2_with (first|(at_builtin;refine wpList_append_run rfl _ _ 27 rfl _ _ _ _ hap1 rfl rfl ?_;clear hap1)|(at_builtin;refine wpList_append_run rfl _ _ 27 rfl _ _ _ _ hap2 rfl rfl ?_;clear hap2)|(at_builtin;refine wpList_append_run rfl _ _ 28 rfl _ _ _ _ hap3 rfl rfl ?_;clear hap3))
 refine bodyPost_ret (v:=.agg (ec e a1 c1 a2 c2 a3 c3))
  (by simp [results,Tryz.results187,go_sem,y0,y1',y2',y3,y4,y5,y6,y7,y8,y9]) rfl ⟨⟨a1,c1,a2,c2,a3,c3,w.heap.size+2,0,0,w3.heap.size⟩,rfl,?_,by show w.heap.size<=w.heap.size+2;omega,?_⟩
 ·have hJ:=HO.out
  have hset:∀ (t:Ls) (W:World) (C j:Nat) (x:Value),C<t.lo->QO W e t->QO (W.setCell ⟨C,j,none⟩ x) e t:=fun t W C j x hC h=>qsO h (Or.inl hC)
  iterate 11 (refine hset _ _ _ _ _ (by show _<w.heap.size+2;omega) ?_)
  exact hJ
 iterate 10 (refine Below.setCell ?_ (Nat.le_add_right _ _) _)
 refine Below.setCell ?_ (by show w.heap.size<=w.heap.size;exact nL) _;exact hb3
theorem qsOO:QS QO:=⟨qcO,fun h hC=>qsO h hC,fun e _ _ _ _ _ _ w hr he=>l2CpO_any e w hr he⟩
end Go.Proofs.YtkdalopokdhndaaGreat
