import Derived.Test.YtnbdlaglnefcbaaGreatGwB
namespace Go.Proofs.YtnbdlaglnefcbaaGreat
open Go.RowKit
set_option maxRecDepth 100000 in
set_option maxHeartbeats 4000000 in
theorem l2Gw (p:Nat){bs:Nat->Nat}{m q be oe n cap:Nat}{E:Nat->Ev}{ab ao na sc:Nat}{A:Nat->List Ent}{Aa:Nat->Option Addr}{Ca:Nat->Nat}(w:World)(h:RdF w p bs m q)(hn:0<n)(hroom:roomTo E n=true)(hna:n<=na)(hna2:na<=maxLen)(hf:∀ j,j<n->FitL E n (A j))(HK:GwK p w be oe n cap E ab ao na A Aa Ca) :
  Calls Tryz.prog 13 #[.pointer (some ⟨p,0,none⟩),.agg #[.slice (some ⟨be,oe,none⟩) n cap],.slice (some ⟨ab,ao,none⟩) na sc] w (GwPost p w bs m q E n A):=by
 obtain ⟨i0,hi0,hz0,hz1,hz2⟩:=info_parts Tryz.infoString
 obtain ⟨j0,hj0,hy0,hy1,hy2⟩:=info_parts Tryz.infoRowE
 have h300:=room_300 hroom
 have hk:=h.nx
 have hp:=h.lt
 obtain ⟨wa,hwa⟩:∃ wa,wa=(w.alloc (.cells #[.slice (some ⟨be,oe,none⟩) n cap] 25)).alloc (.cells #[.string ⟨#[]⟩,.string ⟨#[]⟩,.string ⟨#[]⟩,.bool false,.string ⟨#[]⟩,.int .i64 0,.slice none 0 0,.slice none 0 0,.string ⟨#[]⟩,.slice none 0 0] 29):=⟨_,rfl⟩
 have hba:Below w.heap.size w wa:=by rw [hwa];exact bA.alloc (by simp) _
 have hA0:Hid (GvA p w wa bs m q (.slice (some ⟨be,oe,none⟩) n cap)):=by
  refine ⟨?_,fun o ho=>?_,fun o=>?_,by rw [hwa];simp,(DwF.refl h).below hba⟩
  ·rw [hwa,World.cell?_alloc_past _ _ _ (by simp)];exact World.cell?_alloc_at _ _ _ _ rfl
  ·rw [hwa,World.cell?_alloc_at _ _ _ _ (by simp)]
   match o,ho with
   | 0,_=>exact ⟨_,rfl⟩
   | 1,_=>exact ⟨_,rfl⟩
   | 2,_=>exact ⟨_,rfl⟩
   | 3,_=>exact ⟨_,rfl⟩
   | 4,_=>exact ⟨_,rfl⟩
   | 5,_=>exact ⟨_,rfl⟩
   | 6,_=>exact ⟨_,rfl⟩
   | 7,_=>exact ⟨_,rfl⟩
   | 8,_=>exact ⟨_,rfl⟩
   | 9,_=>exact ⟨_,rfl⟩
  ·rw [hwa];exact World.frozen?_alloc_at _ _ _ _ (by simp)
 have HKh:Hid (GwK p w be oe n cap E ab ao na A Aa Ca):=HK
 have hcapn:n<=cap∧cap<=maxLen:=by have:=(HK w (World.grownBy.refl _ _)).1;exact ⟨this.le,this.max⟩
 unfold maxLen at hcapn hna2
 have Hroom:Hid (_):=hroom
 have Hf:Hid (∀ j,j<n->FitL E n (A j)):=hf
 have x0:((w.alloc (.cells #[.slice (some ⟨be,oe,none⟩) n cap] 25)).alloc (.cells #[.string ⟨#[]⟩,.string ⟨#[]⟩,.string ⟨#[]⟩,.bool false,.string ⟨#[]⟩,.int .i64 0,.slice none 0 0,.slice none 0 0,.string ⟨#[]⟩,.slice none 0 0] 29)).cell? ⟨w.heap.size,0,none⟩=some (.slice (some ⟨be,oe,none⟩) n cap):=by rw [<- hwa];exact hA0.out.r
 clear HK hroom hf
 go_enter Tryz.func13,Tryz.ntmps13
 go_wp2_with fail
 rw [<- hwa]
 clear hwa x0
 refine (nextF p wa hA0.out.dw.1).mono ?_
 rintro x w1 ⟨rfl,hd1⟩
 have hA1:Hid (GvA p w w1 bs m (nxQ m q) (.slice (some ⟨be,oe,none⟩) n cap)):=hA0.out.draw hp hd1
 clear hd1 hA0
 obtain ⟨k,hk0⟩:∃ k,k=nxB bs m q:=⟨_,rfl⟩
 have Hk:Hid (k=nxB bs m q):=hk0
 rw [<- hk0] at hk ⊢
 clear hk0
 obtain ⟨j14,hj14⟩:∃ j14,j14=(k+n) % 14:=⟨_,rfl⟩
 have hj1:((k:Int)+(n:Int)) % 14=((j14:Nat):Int):=by omega
 have hj2:j14<14:=by omega
 have Hj:Hid (j14=(k+n) % 14):=hj14
 have HU:Hid (∀ W,Calls Tryz.prog 24 #[.int .i64 ((k:Int) / 4 % 16 % 5)] W (fun e w'=>e=.returned (.string (usr (k / 4 % 16 % 5)))∧Below W.heap.size W w')):=fun W=>by rw [show (k:Int) / 4 % 16 % 5=((k / 4 % 16 % 5:Nat):Int) by simp];exact userF _ W (by omega)
 have HD:Hid (∀ W,Calls Tryz.prog 23 #[.int .i64 (n:Int)] W (fun e w'=>e=.returned (.string (decB n))∧Below W.heap.size W w')):=fun W=>decF n (by omega) W
 have hdz:(decB n).size<=20:=decB_size n (by omega)
 clear hj14
 obtain ⟨us,hus⟩:∃ us,us=usr (k / 4 % 16 % 5):=⟨_,rfl⟩
 obtain ⟨dc,hdc⟩:∃ dc,dc=decB n:=⟨_,rfl⟩
 rw [<- hus] at HU
 rw [<- hdc] at HD hdz
 have Hus:Hid (us=usr (k / 4 % 16 % 5)):=hus
 have Hdc:Hid (dc=decB n):=hdc
 clear hus hdc
 have hr1:=hA1.out.r
 have hrf:Below w1.heap.size w1 w1:=Below.refl _ _
 obtain ⟨qx,hqx⟩:∃ qx,qx=qwB.extract j14 (j14+1):=⟨_,rfl⟩
 have hqz:qx.size<=1:=by rw [hqx,ByteArray.size_extract];omega
 have hcat1:¬ 9223372036854775807<1+qx.size:=by omega
 have hcat2:¬ 9223372036854775807<1+qx.size+dc.size:=by omega
 have hsl:(⟨#[113,119,101,114,116,121,117,105,111,112,97,115,100,102]⟩:ByteArray).extract j14 (j14+1)=qx:=hqx.symm
 have Hqx:Hid (qx=qwB.extract j14 (j14+1)):=hqx
 clear hqx
 have e1:IntKind.i64.wrap ((k:Int)+(n:Int))=(k:Int)+(n:Int):=by rw [IntKind.wrap_i64];omega
 have e2:((k:Int)+(n:Int)).tmod 14=((j14:Nat):Int):=by rw [Int.tmod_eq_emod_of_nonneg (by omega)];omega
 have e3:IntKind.i64.wrap ((j14:Int)+1)=(j14:Int)+1:=by rw [IntKind.wrap_i64];omega
 have e4:IntKind.i64.wrap (Int.tdiv (k:Int) 4)=(k:Int) / 4:=by rw [Int.tdiv_eq_ediv_of_nonneg (by omega),IntKind.wrap_i64];omega
 have e4b:IntKind.i64.wrap ((k:Int) / 4)=(k:Int) / 4:=by rw [IntKind.wrap_i64];omega
 have e5:((k:Int) / 4).tmod 16=(k:Int) / 4 % 16:=Int.tmod_eq_emod_of_nonneg (by omega)
 have e6:((k:Int) / 4 % 16).tmod 5=(k:Int) / 4 % 16 % 5:=Int.tmod_eq_emod_of_nonneg (by omega)
 have e7:(k:Int).tmod 7=(k:Int) % 7:=Int.tmod_eq_emod_of_nonneg (by omega)
 have e8:IntKind.i64.wrap (100+(k:Int) % 7)=100+(k:Int) % 7:=by rw [IntKind.wrap_i64];omega
 have g1:(0:Int)<=(j14:Int)+1:=by omega
 have g2:(j14:Int)+1<=14:=by omega
 have g3:(j14:Int)<=(j14:Int)+1:=by omega
 have g4:((j14:Int)+1).toNat=j14+1:=by omega
 go_wp2_with fail
 go_cut [9] from 20 to 192 (fun pv wx=>∃ B,pv=.pointer (some ⟨B,0,none⟩)∧GvB p w wx bs m (nxQ m q) (.slice (some ⟨be,oe,none⟩) n cap) B (fun o=>(#[.string (⟨#[36]⟩ ++ qx ++ dc),.string us,.string ⟨#[]⟩,.bool false,.string ⟨#[]⟩,.int .i64 (100+(k:Int) % 7),.slice none 0 0,.slice none 0 0,.string ⟨#[]⟩,.slice none 0 0]:Array Value)[o]?.getD undef))
 case first =>
  clear hr1 HKh Hf Hroom Hqx Hus Hdc Hj Hk
  refine wp_region_held_drew (S:=fun _=>True) (by kernel_rfl) ?_ (fun hHeld=>?_)
  ·(try dsimp only);all_goals trivial
  refine tq 0 rfl ?_
  simp only [Act.put,si]
  refine tq 1 rfl ?_
  simp only [Act.put,si]
  refine tq 2 rfl ?_
  simp only [Act.put,si]
  refine tq 3 rfl ?_
  simp only [Act.put,si]
  refine tq 4 rfl ?_
  simp only [Act.put,si]
  refine tq 5 rfl ?_
  simp only [Act.put,si]
  refine tq 6 rfl ?_
  simp only [Act.put,si]
  refine tq 7 rfl ?_
  simp only [Act.put,si]
  refine tq 8 rfl ?_
  simp only [Act.put,si]
  refine tq 9 rfl ?_
  simp only [Act.put,si]
  refine tq 10 rfl ?_
  simp only [Act.put,si]
  refine tq 11 rfl ?_
  simp only [Act.put,si]
  refine tq 14 rfl ?_
  simp only [Act.put,si]
  refine tq 15 rfl ?_
  simp only [Act.put,si]
  refine tq 16 rfl ?_
  simp only [Act.put,si]
  refine tq 17 rfl ?_
  simp only [Act.put,si]
  refine tq 19 rfl ?_
  simp only [Act.put,si]
  refine tq 20 rfl ?_
  simp only [Act.put,si]
  refine tq 21 rfl ?_
  simp only [Act.put,si]
  refine wpAnyH_ready (rs:=[12,23]) (by kernel_rfl) (by simp) ?_
  refine AllReadyH.cons rfl (fun K hK=>?_) (AllReadyH.cons rfl (fun K hK=>?_) AllReadyH.nil)
  ·go_simp
   go_at_call 23
   refine (HD.out _).mono ?_
   rintro e w2 ⟨rfl,hb2'⟩
   have hb2:Below w1.heap.size w1 w2:=Below.trans (by with_reducible first|exact hrf|exact hrf.drew|exact hrf.drew.drew|exact hrf.drew.drew.drew) (hb2'.mono (by first|exact Nat.le_refl _|exact hrf.size))
   try dsimp only
   refine hK.out _ _ ?_ (fun hHeld=>?_)
   ·(try dsimp only);all_goals trivial
   clear hK K
   try simp only [Act.put,si]
   refine tq 13 rfl ?_
   simp only [Act.put,si]
   refine wpAnyH_ready (rs:=[18,23]) (by kernel_rfl) (by simp) ?_
   refine AllReadyH.cons rfl (fun K hK=>?_) (AllReadyH.cons rfl (fun K hK=>?_) AllReadyH.nil)
   ·go_simp
    go_at_call 24
    refine (HU.out _).mono ?_
    rintro e w3 ⟨rfl,hb3'⟩
    have hb3:Below w1.heap.size w1 w3:=Below.trans (by with_reducible first|exact hb2|exact hb2.drew|exact hb2.drew.drew|exact hb2.drew.drew.drew) (hb3'.mono (by first|exact Nat.le_refl _|exact hb2.size))
    try dsimp only
    refine hK.out _ _ ?_ (fun hHeld=>?_)
    ·(try dsimp only);all_goals trivial
    clear hK K
    try simp only [Act.put,si]
    refine tq 22 rfl ?_
    simp only [Act.put,si]
    refine wpAnyH_ready (rs:=[23]) (by kernel_rfl) (by simp) ?_
    refine AllReadyH.cons rfl (fun K hK=>?_) AllReadyH.nil
    go_simp
    refine hK.out _ _ ?_ (fun hHeld=>?_)
    ·(try dsimp only);all_goals trivial
    clear hK K
    try simp only [Act.put,si]
    refine wpAnyH_ready (rs:=[24]) (by kernel_rfl) (by simp) ?_
    refine AllReadyH.cons rfl (fun K hK=>?_) AllReadyH.nil
    go_simp
    refine hK.out _ _ ?_ (fun hHeld=>?_)
    ·(try dsimp only);all_goals trivial
    clear hK K
    try simp only [Act.put,si]
    refine wpAnyH_done (by kernel_rfl) ?_ _
    (try go_wp2_with fail)
    go_meet
    exact ⟨_,rfl,by first|exact gvB_new (hA1.out.below hb3) rfl|exact gvB_new (hA1.out.below hb3.drew) rfl⟩
   ·go_simp
    refine hK.out _ _ ?_ (fun hHeld=>?_)
    ·(try dsimp only);all_goals trivial
    clear hK K
    try simp only [Act.put,si]
    refine wpAnyH_ready (rs:=[18]) (by kernel_rfl) (by simp) ?_
    refine AllReadyH.cons rfl (fun K hK=>?_) AllReadyH.nil
    go_simp
    go_at_call 24
    refine (HU.out _).mono ?_
    rintro e w3 ⟨rfl,hb3'⟩
    first|(have hb3:Below (w2.alloc (.cells #[.string ⟨#[]⟩,.string ⟨#[]⟩,.string ⟨#[]⟩,.bool false,.string ⟨#[]⟩,.int .i64 0,.slice none 0 0,.slice none 0 0,.string ⟨#[]⟩,.slice none 0 0] 29)).heap.size (w2.alloc (.cells #[.string ⟨#[]⟩,.string ⟨#[]⟩,.string ⟨#[]⟩,.bool false,.string ⟨#[]⟩,.int .i64 0,.slice none 0 0,.slice none 0 0,.string ⟨#[]⟩,.slice none 0 0] 29)) w3:=by first|exact hb3'|exact (Below.refl _ _).drew.trans (hb3'.mono (Nat.le_refl _)))|have hb3:=hb3'
    try dsimp only
    refine hK.out _ _ ?_ (fun hHeld=>?_)
    ·(try dsimp only);all_goals trivial
    clear hK K
    try simp only [Act.put,si]
    refine tq 22 rfl ?_
    simp only [Act.put,si]
    have hG:=(gvB_new (t:=29) (cs:=#[.string ⟨#[]⟩,.string ⟨#[]⟩,.string ⟨#[]⟩,.bool false,.string ⟨#[]⟩,.int .i64 0,.slice none 0 0,.slice none 0 0,.string ⟨#[]⟩,.slice none 0 0]) (hA1.out.below hb2) rfl).below hb3
    have y0:=hG.b 0 (by decide)
    have y1:=hG.b 1 (by decide)
    have y2:=hG.b 2 (by decide)
    have y3:=hG.b 3 (by decide)
    have y4:=hG.b 4 (by decide)
    have y5:=hG.b 5 (by decide)
    have y6:=hG.b 6 (by decide)
    have y7:=hG.b 7 (by decide)
    have y8:=hG.b 8 (by decide)
    have y9:=hG.b 9 (by decide)
    have hfz:=hG.f0
    clear hG
    refine wpAnyH_ready (rs:=[24]) (by kernel_rfl) (by simp) ?_
    refine AllReadyH.cons rfl (fun K hK=>?_) AllReadyH.nil
    go_simp
    refine hK.out _ _ ?_ (fun hHeld=>?_)
    ·(try dsimp only);all_goals trivial
    clear hK K
    try simp only [Act.put,si]
    refine wpAnyH_done (by kernel_rfl) ?_ _
    (try go_wp2_with fail)
    go_meet
    exact ⟨_,rfl,by first|exact gvB_fill (.string (⟨#[36]⟩ ++ qx ++ dc)) (.string us) (.string ⟨#[]⟩) (.bool false) (.string ⟨#[]⟩) (.int .i64 (100+(k:Int) % 7)) (.slice none 0 0) (.slice none 0 0) (.string ⟨#[]⟩) (.slice none 0 0) (hA1.out.below hb2) hp rfl hb3|exact (gvB_fill (.string (⟨#[36]⟩ ++ qx ++ dc)) (.string us) (.string ⟨#[]⟩) (.bool false) (.string ⟨#[]⟩) (.int .i64 (100+(k:Int) % 7)) (.slice none 0 0) (.slice none 0 0) (.string ⟨#[]⟩) (.slice none 0 0) (hA1.out.below hb2) hp rfl hb3).below (Below.refl _ _).drew⟩
  ·go_simp
   refine hK.out _ _ ?_ (fun hHeld=>?_)
   ·(try dsimp only);all_goals trivial
   clear hK K
   try simp only [Act.put,si]
   refine wpAnyH_ready (rs:=[12]) (by kernel_rfl) (by simp) ?_
   refine AllReadyH.cons rfl (fun K hK=>?_) AllReadyH.nil
   go_simp
   go_at_call 23
   refine (HD.out _).mono ?_
   rintro e w2 ⟨rfl,hb2'⟩
   first|(have hb2:Below (w1.alloc (.cells #[.string ⟨#[]⟩,.string ⟨#[]⟩,.string ⟨#[]⟩,.bool false,.string ⟨#[]⟩,.int .i64 0,.slice none 0 0,.slice none 0 0,.string ⟨#[]⟩,.slice none 0 0] 29)).heap.size (w1.alloc (.cells #[.string ⟨#[]⟩,.string ⟨#[]⟩,.string ⟨#[]⟩,.bool false,.string ⟨#[]⟩,.int .i64 0,.slice none 0 0,.slice none 0 0,.string ⟨#[]⟩,.slice none 0 0] 29)) w2:=by first|exact hb2'|exact (Below.refl _ _).drew.trans (hb2'.mono (Nat.le_refl _)))|have hb2:=hb2'
   try dsimp only
   refine hK.out _ _ ?_ (fun hHeld=>?_)
   ·(try dsimp only);all_goals trivial
   clear hK K
   try simp only [Act.put,si]
   refine tq 13 rfl ?_
   simp only [Act.put,si]
   refine wpAnyH_ready (rs:=[18]) (by kernel_rfl) (by simp) ?_
   refine AllReadyH.cons rfl (fun K hK=>?_) AllReadyH.nil
   go_simp
   go_at_call 24
   refine (HU.out _).mono ?_
   rintro e w3 ⟨rfl,hb3'⟩
   have hb3:=hb2.trans (hb3'.mono hb2.size)
   try dsimp only
   refine hK.out _ _ ?_ (fun hHeld=>?_)
   ·(try dsimp only);all_goals trivial
   clear hK K
   try simp only [Act.put,si]
   refine tq 22 rfl ?_
   simp only [Act.put,si]
   have hG:=(gvB_new (t:=29) (cs:=#[.string ⟨#[]⟩,.string ⟨#[]⟩,.string ⟨#[]⟩,.bool false,.string ⟨#[]⟩,.int .i64 0,.slice none 0 0,.slice none 0 0,.string ⟨#[]⟩,.slice none 0 0]) (hA1.out.below hrf) rfl).below hb3
   have y0:=hG.b 0 (by decide)
   have y1:=hG.b 1 (by decide)
   have y2:=hG.b 2 (by decide)
   have y3:=hG.b 3 (by decide)
   have y4:=hG.b 4 (by decide)
   have y5:=hG.b 5 (by decide)
   have y6:=hG.b 6 (by decide)
   have y7:=hG.b 7 (by decide)
   have y8:=hG.b 8 (by decide)
   have y9:=hG.b 9 (by decide)
   have hfz:=hG.f0
   clear hG
   refine wpAnyH_ready (rs:=[24]) (by kernel_rfl) (by simp) ?_
   refine AllReadyH.cons rfl (fun K hK=>?_) AllReadyH.nil
   go_simp
   refine hK.out _ _ ?_ (fun hHeld=>?_)
   ·(try dsimp only);all_goals trivial
   clear hK K
   try simp only [Act.put,si]
   refine wpAnyH_done (by kernel_rfl) ?_ _
   (try go_wp2_with fail)
   go_meet
   exact ⟨_,rfl,by first|exact gvB_fill (.string (⟨#[36]⟩ ++ qx ++ dc)) (.string us) (.string ⟨#[]⟩) (.bool false) (.string ⟨#[]⟩) (.int .i64 (100+(k:Int) % 7)) (.slice none 0 0) (.slice none 0 0) (.string ⟨#[]⟩) (.slice none 0 0) (hA1.out.below hrf) hp rfl hb3|exact (gvB_fill (.string (⟨#[36]⟩ ++ qx ++ dc)) (.string us) (.string ⟨#[]⟩) (.bool false) (.string ⟨#[]⟩) (.int .i64 (100+(k:Int) % 7)) (.slice none 0 0) (.slice none 0 0) (.string ⟨#[]⟩) (.slice none 0 0) (hA1.out.below hrf) hp rfl hb3).below (Below.refl _ _).drew⟩
 case rest =>
  obtain ⟨B,rfl,hG⟩:=hcut
  obtain ⟨w5,hw5⟩:∃ w5:World,w5=wc:=⟨_,rfl⟩
  subst hw5
  obtain ⟨ic,hic⟩:∃ ic,ic=(⟨#[36]⟩:ByteArray) ++ qx ++ dc:=⟨_,rfl⟩
  rw [<- hic] at hG
  have Hic:Hid (ic=gwId k n):=by unfold Hid gwId;rw [hic,Hqx.out,Hdc.out,Hj.out]
  have hiz:ic.size<=100:=by rw [hic,ByteArray.size_append,ByteArray.size_append];show 1+qx.size+dc.size<=100;omega
  have huz:us.size<=100:=by rw [Hus.out];rw [usr_size];decide
  have H5:Hid (GvB p w w5 bs m (nxQ m q) (.slice (some ⟨be,oe,none⟩) n cap) B (fun o=>(#[.string ic,.string us,.string ⟨#[]⟩,.bool false,.string ⟨#[]⟩,.int .i64 (100+(k:Int) % 7),.slice none 0 0,.slice none 0 0,.string ⟨#[]⟩,.slice none 0 0]:Array Value)[o]?.getD undef)):=hG
  have hlo:=hG.lo
  have HkB:=Hk
  apply_assumption
  exact l2GwB p w w5 hp hn h300 hk Hk Hic hiz Hus hna hna2 hcapn Hroom Hf HKh hlo H5
end Go.Proofs.YtnbdlaglnefcbaaGreat
